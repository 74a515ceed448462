/-
  impl.isIn, impl.LinkOk: their contracts.
  spec.l03Put: its contract.
-/
import Derived.Test.YtpiookjdeopmgaaDoorRd10
namespace Go.Proofs.YtpiookjdeopmgaaDoor
open Go.RowKit

set_option maxRecDepth 100000 in
set_option maxHeartbeats 2000000 in
theorem ilinkOk_any (n : Int) (l : Lk) (w : World) : Calls Tryd.prog 103 #[.int .i64 n, lkV l] w fun e w' => e = .returned (.bool (linkOkB n l)) ∧ Below w.heap.size w w' := by
  obtain ⟨a, b, c, r⟩ := l
  unfold lkV linkOkB
  simp only []
  generalize hq1 : inB n 1 6 = q1
  generalize hq2 : inB a 1 n = q2
  generalize hq3 : inB b 1 n = q3
  generalize hq4 : inB c 1 1000 = q4
  generalize hq5 : inB r 0 2 = q5
  have h1 := isIn_any n 1 6
  have h2 := isIn_any a 1 n
  have h3 := isIn_any b 1 n
  have h4 := isIn_any c 1 1000
  have h5 := isIn_any r 0 2
  rw [hq1] at h1
  rw [hq2] at h2
  rw [hq3] at h3
  rw [hq4] at h4
  rw [hq5] at h5
  have H1 := hide h1
  have H2 := hide h2
  have H3 := hide h3
  have H4 := hide h4
  have H5 := hide h5
  clear h1 h2 h3 h4 h5 hq1 hq2 hq3 hq4 hq5
  cases q1
  · go_enter Tryd.func103, Tryd.ntmps103
    go_wp2_with fail
    refine (H1.out _).mono ?_
    rintro e w1 ⟨rfl, rfl⟩
    go_wp2
    go_ret
    exact ⟨by simp, (Below.refl _ _).alloc (Nat.le_refl _) _⟩
  cases q2
  · go_enter Tryd.func103, Tryd.ntmps103
    go_wp2_with fail
    refine (H1.out _).mono ?_
    rintro e w1 ⟨rfl, rfl⟩
    go_wp2_with fail
    refine (H2.out _).mono ?_
    rintro e w1 ⟨rfl, rfl⟩
    go_wp2
    go_ret
    exact ⟨by simp, (Below.refl _ _).alloc (Nat.le_refl _) _⟩
  cases q3
  · go_enter Tryd.func103, Tryd.ntmps103
    go_wp2_with fail
    refine (H1.out _).mono ?_
    rintro e w1 ⟨rfl, rfl⟩
    go_wp2_with fail
    refine (H2.out _).mono ?_
    rintro e w1 ⟨rfl, rfl⟩
    go_wp2_with fail
    refine (H3.out _).mono ?_
    rintro e w1 ⟨rfl, rfl⟩
    go_wp2
    go_ret
    exact ⟨by simp, (Below.refl _ _).alloc (Nat.le_refl _) _⟩
  by_cases hab : a < b
  · cases q4
    · go_enter Tryd.func103, Tryd.ntmps103
      go_wp2_with fail
      refine (H1.out _).mono ?_
      rintro e w1 ⟨rfl, rfl⟩
      go_wp2_with fail
      refine (H2.out _).mono ?_
      rintro e w1 ⟨rfl, rfl⟩
      go_wp2_with fail
      refine (H3.out _).mono ?_
      rintro e w1 ⟨rfl, rfl⟩
      go_wp2_with fail
      refine (H4.out _).mono ?_
      rintro e w1 ⟨rfl, rfl⟩
      go_wp2
      go_ret
      exact ⟨by simp, (Below.refl _ _).alloc (Nat.le_refl _) _⟩
    · go_enter Tryd.func103, Tryd.ntmps103
      go_wp2_with fail
      refine (H1.out _).mono ?_
      rintro e w1 ⟨rfl, rfl⟩
      go_wp2_with fail
      refine (H2.out _).mono ?_
      rintro e w1 ⟨rfl, rfl⟩
      go_wp2_with fail
      refine (H3.out _).mono ?_
      rintro e w1 ⟨rfl, rfl⟩
      go_wp2_with fail
      refine (H4.out _).mono ?_
      rintro e w1 ⟨rfl, rfl⟩
      go_wp2_with fail
      refine (H5.out _).mono ?_
      rintro e w1 ⟨rfl, rfl⟩
      go_wp2
      go_ret
      exact ⟨ret_bool (by rw [decide_eq_true hab]; simp), (Below.refl _ _).alloc (Nat.le_refl _) _⟩
  · go_enter Tryd.func103, Tryd.ntmps103
    go_wp2_with fail
    refine (H1.out _).mono ?_
    rintro e w1 ⟨rfl, rfl⟩
    go_wp2_with fail
    refine (H2.out _).mono ?_
    rintro e w1 ⟨rfl, rfl⟩
    go_wp2_with fail
    refine (H3.out _).mono ?_
    rintro e w1 ⟨rfl, rfl⟩
    go_wp2
    go_ret
    exact ⟨ret_bool (by rw [decide_eq_false (show ¬ a < b by omega)]; simp), (Below.refl _ _).alloc (Nat.le_refl _) _⟩

end Go.Proofs.YtpiookjdeopmgaaDoor
namespace Go.Proofs.YtpiookjdeopmgaaDoor
open Go.RowKit

theorem lkE_one (l : Lk) : ∀ u ∈ lkE l, u.oneCell' = true := by
  intro u hu
  simp only [lkE, List.mem_cons, List.not_mem_nil, or_false] at hu
  rcases hu with rfl | rfl | rfl | rfl <;> rfl

theorem filt_yes {α : Type} {p : α → Bool} {ls : List α} {k : Nat} {x : α} (h : ls[k]? = some x) (hp : p x = true) : (ls.take (k + 1)).filter p = (ls.take k).filter p ++ [x] := by
  obtain ⟨hk, e⟩ := List.getElem?_eq_some_iff.1 h
  rw [List.take_succ_eq_append_getElem hk, List.filter_append, e]
  simp [hp]

theorem filt_no {α : Type} {p : α → Bool} {ls : List α} {k : Nat} {x : α} (h : ls[k]? = some x) (hp : p x = false) : (ls.take (k + 1)).filter p = (ls.take k).filter p := by
  obtain ⟨hk, e⟩ := List.getElem?_eq_some_iff.1 h
  rw [List.take_succ_eq_append_getElem hk, List.filter_append, e]
  simp [hp]

theorem filt_len {α : Type} (p : α → Bool) (ls : List α) (k : Nat) : ((ls.take k).filter p).length ≤ ls.length := by
  have h1 := List.length_filter_le p (ls.take k)
  have h2 := List.length_take_le k ls
  have h3 : (ls.take k).length ≤ ls.length := by simp; omega
  omega

def putLk (ls : List Lk) (l : Lk) : List Lk := ls.filter (fun x => aheadB x l) ++ [l] ++ ls.filter (fun x => aheadB l x)

/-- what a row's own append leaves of a block below its base -/
theorem heap_grown_below {w w' : World} {base size : Nat} {e : TypeId} {v : Value} {n : Nat} {xs : List Value} (hown : w.ownsRow base e size v n xs) (hg : w.grownBy w' v.ownBlock) {b : Nat} (hb : b < base) (hbw : b < w.heap.size) : w'.heap[b]? = w.heap[b]? :=
  hg.block b hbw (fun he => by have := (hown.lt b he.symm).1; omega)

set_option maxRecDepth 100000 in
set_option maxHeartbeats 4000000 in
theorem putL_any (v : Value) (ls : List Lk) (l : Lk) (w : World) (hls : ls.length ≤ 1000) (hv : LinksAt w v ls w.heap.size) :
    Calls Tryd.prog 45 #[v, lkV l] w fun e w' => ∃ x, e = .returned x ∧ w'.ownsRow (w.heap.size + 1) 77 4 x (putLk ls l).length (flat lkE (putLk ls l)) ∧ Below w.heap.size w w' := by
  obtain ⟨a, cap, rfl⟩ := hv.shape
  have HV := hide hv
  clear hv
  obtain ⟨la, lb, lc, lr⟩ := l
  unfold lkV
  simp only []
  go_enter Tryd.func45, Tryd.ntmps45
  go_wp2
  go_loopw [5, 6] (fun u i wr => ∃ k : Nat, k ≤ ls.length ∧ i = .int .i64 k ∧ wr.ownsRow (w.heap.size + 1) 77 4 u ((ls.take k).filter (fun x => aheadB x ⟨la, lb, lc, lr⟩)).length (flat lkE ((ls.take k).filter (fun x => aheadB x ⟨la, lb, lc, lr⟩))) ∧ Below w.heap.size w wr ∧ wr.heap[w.heap.size]? = some (.cells #[.int .i64 la, .int .i64 lb, .int .i64 lc, .int .i64 lr] 77)) (fun _ i _ => ls.length - (intOf i).toNat)
  case atStart =>
    refine ⟨0, by omega, rfl, ?_, ?_, ?_⟩
    · have h := World.ownsRow_lit (base := w.heap.size + 1) (e := 77) (size := 4) (w.alloc (.cells #[.int .i64 la, .int .i64 lb, .int .i64 lc, .int .i64 lr] 77)) #[] 0 (by simp) (by decide) rfl
      simpa [flat] using h
    · exact ((Below.refl _ _).alloc (Nat.le_refl _) _).alloc (by simp) _
    · rw [Below.heap_alloc _ _ _ (by simp), heap_alloc_new]
  case round =>
    obtain ⟨k, hk, rfl, hown, hb, hx⟩ := hrel
    have hfl := filt_len (fun x => aheadB x ⟨la, lb, lc, lr⟩) ls k
    have hxl := lt_of_heap hx
    by_cases hlt : k < ls.length
    · obtain ⟨x, hl⟩ : ∃ l, ls[k]? = some l := ⟨ls[k], List.getElem?_eq_getElem hlt⟩
      obtain ⟨b, off, cap', hve, hbb, c0, c1, c2, c3⟩ := HV.out.cells k x hl
      cases hve
      have d0 := c0
      have d1 := c1
      have d2 := c2
      have d3 := c3
      rw [← hb.cell (p := ⟨b, off + k * 4, none⟩) hbb] at c0
      rw [← hb.cell (p := ⟨b, off + k * 4 + 1, none⟩) hbb] at c1
      rw [← hb.cell (p := ⟨b, off + k * 4 + 2, none⟩) hbb] at c2
      rw [← hb.cell (p := ⟨b, off + k * 4 + 3, none⟩) hbb] at c3
      have g0 := cells_at hx 0
      have g1 := cells_at hx 1
      have g2 := cells_at hx 2
      have g3 := cells_at hx 3
      simp at g0 g1 g2 g3
      have hzr := hb.size
      have hbr : b < wr.heap.size := by omega
      have hki : (0 : Int) ≤ (k : Int) := by omega
      have hkj : (k : Int) < (ls.length : Int) := by omega
      obtain ⟨q, hq⟩ : ∃ q, q = aheadB x ⟨la, lb, lc, lr⟩ := ⟨_, rfl⟩
      have hah := sahead_any x ⟨la, lb, lc, lr⟩
      rw [← hq] at hah
      unfold lkV at hah
      have HAH := hide hah
      have OW := hide hown
      have HX := hide hx
      have HL := hide hl
      have HQ := hide hq
      have D0 := hide d0
      have D1 := hide d1
      have D2 := hide d2
      have D3 := hide d3
      clear hah hown hx hl hq d0 d1 d2 d3
      go_wp2
      go_region_held3 (fun W => W.cell? ⟨b, off + k * 4, none⟩ = some (.int .i64 x.a) ∧ W.cell? ⟨b, off + k * 4 + 1, none⟩ = some (.int .i64 x.b) ∧ W.cell? ⟨b, off + k * 4 + 2, none⟩ = some (.int .i64 x.c) ∧ W.cell? ⟨b, off + k * 4 + 3, none⟩ = some (.int .i64 x.r) ∧ W.cell? ⟨w.heap.size, 0, none⟩ = some (.int .i64 la) ∧ W.cell? ⟨w.heap.size, 1, none⟩ = some (.int .i64 lb) ∧ W.cell? ⟨w.heap.size, 2, none⟩ = some (.int .i64 lc) ∧ W.cell? ⟨w.heap.size, 3, none⟩ = some (.int .i64 lr)) (first | go_keep | (refine ⟨?_, ?_, ?_, ?_, ?_, ?_, ?_, ?_⟩ <;> (rw [hbc.cell (by assumption)]; assumption))) (first | (go_at_call 67; refine (HAH.out _).mono ?_; rintro e w1 ⟨rfl, hbc⟩))
      have B1 : Below w.heap.size w w1 := hb.drew.trans (hbc.mono hb.size)
      have hx1 : w1.heap[w.heap.size]? = some (.cells #[.int .i64 la, .int .i64 lb, .int .i64 lc, .int .i64 lr] 77) := by rw [hbc.block _ hxl]; exact HX.out
      have hown1 := owns_below OW.out.drew hbc (Nat.le_refl _)
      have c0 := D0.out
      have c1 := D1.out
      have c2 := D2.out
      have c3 := D3.out
      rw [← B1.cell (p := ⟨b, off + k * 4, none⟩) hbb] at c0
      rw [← B1.cell (p := ⟨b, off + k * 4 + 1, none⟩) hbb] at c1
      rw [← B1.cell (p := ⟨b, off + k * 4 + 2, none⟩) hbb] at c2
      rw [← B1.cell (p := ⟨b, off + k * 4 + 3, none⟩) hbb] at c3
      have hxl1 := lt_of_heap hx1
      have HX1 := hide hx1
      have OW1 := hide hown1
      clear hx1 hown1 hbc
      cases q
      · have hs := filt_no (p := fun x => aheadB x ⟨la, lb, lc, lr⟩) HL.out HQ.out.symm
        have HS := hide hs
        clear hs
        go_wp2
        go_roundw
        case rel => exact ⟨k + 1, by omega, by go_num, by rw [HS.out]; exact OW1.out, B1, HX1.out⟩
        case measure => simp [intOf]; omega
      · have hs := filt_yes (p := fun x => aheadB x ⟨la, lb, lc, lr⟩) HL.out HQ.out.symm
        have HS := hide hs
        clear hs
        go_wp2_with (first
          | (at_builtin; refine wpList_append_struct lkE_len (by omega) lkE_one (by omega) _ rfl _ _ 22 rfl (w.heap.size + 1) 77 Tryd.underlying22 (lkV lk0) rfl Tryd.infoLk u5 _ x rfl (OW1.out.alloc _) ⟨w1.heap.size, 0, none⟩ 1 rfl (news_struct (cs := lkE x)) (by omega) (by simp; omega) ?_))
        intro v' w2 l' hl' hown' hgrow
        have B2 : Below w.heap.size w w2 := (B1.alloc B1.size _).grown hgrow (by simp; omega) (fun k hk => by have := (OW1.out.lt k hk).1; omega)
        have hx2 : w2.heap[w.heap.size]? = some (.cells #[.int .i64 la, .int .i64 lb, .int .i64 lc, .int .i64 lr] 77) := by rw [heap_grown_below (OW1.out.alloc _) hgrow (by omega) (by simp; omega), Below.heap_alloc _ _ _ hxl1]; exact HX1.out
        have HX2 := hide hx2
        have OW2 := hide hown'
        clear hx2 hown' hgrow
        go_wp2
        go_roundw
        case rel => exact ⟨k + 1, by omega, by go_num, by rw [HS.out, ← hl'.out]; exact OW2.out, B2, HX2.out⟩
        case measure => simp [intOf]; omega
    · have hk' : k = ls.length := by omega
      rw [hk', List.take_length] at hown
      have g0 := cells_at hx 0
      have g1 := cells_at hx 1
      have g2 := cells_at hx 2
      have g3 := cells_at hx 3
      simp at g0 g1 g2 g3
      have hzr := hb.size
      have hfl2 : (ls.filter (fun x => aheadB x ⟨la, lb, lc, lr⟩)).length ≤ ls.length := List.length_filter_le _ _
      have OW := hide hown
      have HX := hide hx
      clear hown hx hk'
      obtain ⟨wo, rfl⟩ : ∃ wo : World, wo = wr := ⟨_, rfl⟩
      go_wp2_with (first
        | (at_builtin; refine wpList_append_struct lkE_len (by omega) lkE_one (by omega) _ rfl _ _ 22 rfl (w.heap.size + 1) 77 Tryd.underlying22 (lkV lk0) rfl Tryd.infoLk u5 _ ⟨la, lb, lc, lr⟩ rfl (OW.out.alloc _) ⟨wo.heap.size, 0, none⟩ 1 rfl (news_struct (cs := lkE ⟨la, lb, lc, lr⟩)) (by omega) (by simp; omega) ?_))
      intro v' w2 l' hl' hown' hgrow
      have B2 : Below w.heap.size w w2 := (hb.alloc hb.size _).grown hgrow (by simp; omega) (fun k hk => by have := (OW.out.lt k hk).1; omega)
      have hx2 : w2.heap[w.heap.size]? = some (.cells #[.int .i64 la, .int .i64 lb, .int .i64 lc, .int .i64 lr] 77) := by rw [heap_grown_below (OW.out.alloc _) hgrow (by omega) (by simp; omega), Below.heap_alloc _ _ _ hxl]; exact HX.out
      have hll : l'.length ≤ ls.length + 1 := by rw [hl'.out]; simp; omega
      have HX2 := hide hx2
      have OW2 := hide hown'
      clear hx2 hown' hgrow hlt
      go_wp2
      go_loopw [5, 7] (fun u i wr => ∃ k : Nat, k ≤ ls.length ∧ i = .int .i64 k ∧ wr.ownsRow (w.heap.size + 1) 77 4 u (l' ++ (ls.take k).filter (fun x => aheadB ⟨la, lb, lc, lr⟩ x)).length (flat lkE (l' ++ (ls.take k).filter (fun x => aheadB ⟨la, lb, lc, lr⟩ x))) ∧ Below w.heap.size w wr ∧ wr.heap[w.heap.size]? = some (.cells #[.int .i64 la, .int .i64 lb, .int .i64 lc, .int .i64 lr] 77)) (fun _ i _ => ls.length - (intOf i).toNat)
      case atStart => exact ⟨0, by omega, rfl, by simpa using OW2.out, B2, HX2.out⟩
      case round =>
        clear OW2 HX2 B2 OW HX hb g0 g1 g2 g3 hzr hxl
        obtain ⟨k, hk, rfl, hown, hb, hx⟩ := hrel
        have hfl := filt_len (fun x => aheadB ⟨la, lb, lc, lr⟩ x) ls k
        have hfl3 : (l' ++ (ls.take k).filter (fun x => aheadB ⟨la, lb, lc, lr⟩ x)).length ≤ 2 * ls.length + 1 := by rw [List.length_append]; omega
        have hxl := lt_of_heap hx
        by_cases hlt : k < ls.length
        · obtain ⟨x, hl⟩ : ∃ l, ls[k]? = some l := ⟨ls[k], List.getElem?_eq_getElem hlt⟩
          obtain ⟨b, off, cap', hve, hbb, c0, c1, c2, c3⟩ := HV.out.cells k x hl
          cases hve
          have d0 := c0
          have d1 := c1
          have d2 := c2
          have d3 := c3
          rw [← hb.cell (p := ⟨b, off + k * 4, none⟩) hbb] at c0
          rw [← hb.cell (p := ⟨b, off + k * 4 + 1, none⟩) hbb] at c1
          rw [← hb.cell (p := ⟨b, off + k * 4 + 2, none⟩) hbb] at c2
          rw [← hb.cell (p := ⟨b, off + k * 4 + 3, none⟩) hbb] at c3
          have g0 := cells_at hx 0
          have g1 := cells_at hx 1
          have g2 := cells_at hx 2
          have g3 := cells_at hx 3
          simp at g0 g1 g2 g3
          have hzr := hb.size
          have hbr : b < wr.heap.size := by omega
          have hki : (0 : Int) ≤ (k : Int) := by omega
          have hkj : (k : Int) < (ls.length : Int) := by omega
          obtain ⟨q, hq⟩ : ∃ q, q = aheadB ⟨la, lb, lc, lr⟩ x := ⟨_, rfl⟩
          have hah := sahead_any ⟨la, lb, lc, lr⟩ x
          rw [← hq] at hah
          unfold lkV at hah
          have HAH := hide hah
          have OW := hide hown
          have HX := hide hx
          have HL := hide hl
          have HQ := hide hq
          have D0 := hide d0
          have D1 := hide d1
          have D2 := hide d2
          have D3 := hide d3
          clear hah hown hx hl hq d0 d1 d2 d3
          go_wp2
          go_region_held3 (fun W => W.cell? ⟨b, off + k * 4, none⟩ = some (.int .i64 x.a) ∧ W.cell? ⟨b, off + k * 4 + 1, none⟩ = some (.int .i64 x.b) ∧ W.cell? ⟨b, off + k * 4 + 2, none⟩ = some (.int .i64 x.c) ∧ W.cell? ⟨b, off + k * 4 + 3, none⟩ = some (.int .i64 x.r) ∧ W.cell? ⟨w.heap.size, 0, none⟩ = some (.int .i64 la) ∧ W.cell? ⟨w.heap.size, 1, none⟩ = some (.int .i64 lb) ∧ W.cell? ⟨w.heap.size, 2, none⟩ = some (.int .i64 lc) ∧ W.cell? ⟨w.heap.size, 3, none⟩ = some (.int .i64 lr)) (first | go_keep | (refine ⟨?_, ?_, ?_, ?_, ?_, ?_, ?_, ?_⟩ <;> (rw [hbc.cell (by assumption)]; assumption))) (first | (go_at_call 67; refine (HAH.out _).mono ?_; rintro e w1 ⟨rfl, hbc⟩))
          have B1 : Below w.heap.size w w1 := hb.drew.trans (hbc.mono hb.size)
          have hx1 : w1.heap[w.heap.size]? = some (.cells #[.int .i64 la, .int .i64 lb, .int .i64 lc, .int .i64 lr] 77) := by rw [hbc.block _ hxl]; exact HX.out
          have hown1 := owns_below OW.out.drew hbc (Nat.le_refl _)
          have c0 := D0.out
          have c1 := D1.out
          have c2 := D2.out
          have c3 := D3.out
          rw [← B1.cell (p := ⟨b, off + k * 4, none⟩) hbb] at c0
          rw [← B1.cell (p := ⟨b, off + k * 4 + 1, none⟩) hbb] at c1
          rw [← B1.cell (p := ⟨b, off + k * 4 + 2, none⟩) hbb] at c2
          rw [← B1.cell (p := ⟨b, off + k * 4 + 3, none⟩) hbb] at c3
          have hxl1 := lt_of_heap hx1
          have HX1 := hide hx1
          have OW1 := hide hown1
          clear hx1 hown1 hbc
          cases q
          · have hs := filt_no (p := fun x => aheadB ⟨la, lb, lc, lr⟩ x) HL.out HQ.out.symm
            have HS := hide hs
            clear hs
            go_wp2
            go_roundw
            case rel => exact ⟨k + 1, by omega, by go_num, by rw [HS.out]; exact OW1.out, B1, HX1.out⟩
            case measure => simp [intOf]; omega
          · have hs := filt_yes (p := fun x => aheadB ⟨la, lb, lc, lr⟩ x) HL.out HQ.out.symm
            have HS := hide hs
            clear hs
            go_wp2_with (first
              | (at_builtin; refine wpList_append_struct lkE_len (by omega) lkE_one (by omega) _ rfl _ _ 22 rfl (w.heap.size + 1) 77 Tryd.underlying22 (lkV lk0) rfl Tryd.infoLk u5 _ x rfl (OW1.out.alloc _) ⟨w1.heap.size, 0, none⟩ 1 rfl (news_struct (cs := lkE x)) (by omega) (by simp; omega) ?_))
            intro v' w2 l2 hl2 hown' hgrow
            have B2 : Below w.heap.size w w2 := (B1.alloc B1.size _).grown hgrow (by simp; omega) (fun k hk => by have := (OW1.out.lt k hk).1; omega)
            have hx2 : w2.heap[w.heap.size]? = some (.cells #[.int .i64 la, .int .i64 lb, .int .i64 lc, .int .i64 lr] 77) := by rw [heap_grown_below (OW1.out.alloc _) hgrow (by omega) (by simp; omega), Below.heap_alloc _ _ _ hxl1]; exact HX1.out
            have HX2 := hide hx2
            have OW2 := hide hown'
            clear hx2 hown' hgrow
            go_wp2
            go_roundw
            case rel => exact ⟨k + 1, by omega, by go_num, by rw [HS.out]; first | (rw [← hl2.out]; exact OW2.out) | (rw [← List.append_assoc, ← hl2.out]; exact OW2.out), B2, HX2.out⟩
            case measure => simp [intOf]; omega
        · have hk' : k = ls.length := by omega
          rw [hk', List.take_length] at hown
          have OW := hide hown
          clear hown hk'
          go_wp2
          go_ret
          exact ⟨_, rfl, by unfold putLk; rw [← hl'.out]; exact OW.out, hb⟩
end Go.Proofs.YtpiookjdeopmgaaDoor
