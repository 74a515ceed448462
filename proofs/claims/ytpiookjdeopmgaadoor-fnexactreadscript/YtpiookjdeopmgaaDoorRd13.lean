/-
  Events: laws.szEvent, toEvent; impl.EventOk, spec.EventOk: their contracts.
  spec.l03PutThing: its contract.
-/
import Derived.Test.YtpiookjdeopmgaaDoorRd11
namespace Go.Proofs.YtpiookjdeopmgaaDoor
open Go.RowKit

theorem loop_len (s : ByteArray) : ∀ (n i : Nat) (acc : List UInt8), s.size - i = n → (ByteArray.toList.loop s i acc).length = acc.length + (s.size - i) := by
  intro n
  induction n with
  | zero => intro i acc h; unfold ByteArray.toList.loop; rw [if_neg (by omega)]; simp; omega
  | succ n ih => intro i acc h; unfold ByteArray.toList.loop; rw [if_pos (by omega), ih (i+1) _ (by omega)]; simp; omega
theorem bytes_none {s : ByteArray} (h : ¬ s = ByteArray.empty) : s.toList.isEmpty = false := by
  have hl : s.toList.length = s.size := by unfold ByteArray.toList; rw [loop_len s _ 0 [] rfl]; simp
  cases hx : s.toList.isEmpty with
  | false => rfl
  | true =>
    have h0 : s.toList = [] := List.isEmpty_iff.1 hx
    rw [h0] at hl
    exact absurd (ByteArray.ext (Array.eq_empty_of_size_eq_zero (by simpa using hl.symm))) h

structure EvD where
  k : Int
  n : Int
  a : Int
  s : ByteArray

def evV (x : EvD) : Value := .agg #[.int .i64 x.k, .int .i64 x.n, .int .i64 x.a, .string x.s]

def eventOkB (N : Int) (x : EvD) : Bool := inB x.k 1 9 && decide (0 ≤ x.a) && inB x.n 1 N && decide (x.s.size ≤ 200) && (x.k == 9 || decide (x.s = ByteArray.empty))

set_option maxRecDepth 100000 in
set_option maxHeartbeats 2000000 in
theorem seventOk_any (n v1 v2 : Value) (N : Int) (hn : n = .int .i64 N) (x : EvD) (w : World) : Calls Tryd.prog 25 #[.agg #[n, v1, v2], evV x] w fun e w' => e = .returned (.bool (eventOkB N x)) ∧ Below w.heap.size w w' := by
  subst hn
  obtain ⟨k, o, a, s⟩ := x
  unfold evV eventOkB
  simp only []
  generalize hq1 : inB k 1 9 = q1
  generalize hq2 : inB o 1 N = q2
  have h1 := in_any k 1 9
  have h2 := in_any o 1 N
  rw [hq1] at h1
  rw [hq2] at h2
  have H1 := hide h1
  have H2 := hide h2
  clear h1 h2 hq1 hq2
  cases q1
  · go_enter Tryd.func25, Tryd.ntmps25
    go_wp2_with fail
    refine (H1.out _).mono ?_
    rintro e w1 ⟨rfl, rfl⟩
    go_wp2
    go_ret
    exact ⟨by simp, ((Below.refl _ _).alloc (Nat.le_refl _) _).alloc (by simp) _⟩
  by_cases ha : 0 ≤ a
  rotate_left
  · go_enter Tryd.func25, Tryd.ntmps25
    go_wp2_with fail
    refine (H1.out _).mono ?_
    rintro e w1 ⟨rfl, rfl⟩
    go_wp2
    go_ret
    exact ⟨ret_bool (by rw [decide_eq_false (show ¬ 0 ≤ a by omega)]; simp), ((Below.refl _ _).alloc (Nat.le_refl _) _).alloc (by simp) _⟩
  cases q2
  · go_enter Tryd.func25, Tryd.ntmps25
    go_wp2_with fail
    refine (H1.out _).mono ?_
    rintro e w1 ⟨rfl, rfl⟩
    go_wp2_with fail
    refine (H2.out _).mono ?_
    rintro e w1 ⟨rfl, rfl⟩
    go_wp2
    go_ret
    exact ⟨by simp, ((Below.refl _ _).alloc (Nat.le_refl _) _).alloc (by simp) _⟩
  by_cases hs : s.size ≤ 200
  rotate_left
  · go_enter Tryd.func25, Tryd.ntmps25
    go_wp2_with fail
    refine (H1.out _).mono ?_
    rintro e w1 ⟨rfl, rfl⟩
    go_wp2_with fail
    refine (H2.out _).mono ?_
    rintro e w1 ⟨rfl, rfl⟩
    go_wp2
    go_ret
    exact ⟨ret_bool (by first | rfl | (rw [decide_eq_false hs]; simp)), ((Below.refl _ _).alloc (Nat.le_refl _) _).alloc (by simp) _⟩
  by_cases hk : k = 9
  · subst hk
    go_enter Tryd.func25, Tryd.ntmps25
    go_wp2_with fail
    refine (H1.out _).mono ?_
    rintro e w1 ⟨rfl, rfl⟩
    go_wp2_with fail
    refine (H2.out _).mono ?_
    rintro e w1 ⟨rfl, rfl⟩
    go_wp2
    go_ret
    exact ⟨ret_bool (by first | rfl | (rw [decide_eq_true ha, decide_eq_true hs]; simp)), ((Below.refl _ _).alloc (Nat.le_refl _) _).alloc (by simp) _⟩
  have hk2 : (k == 9) = false := by simp [hk]
  by_cases he : s = ByteArray.empty
  · subst he
    go_enter Tryd.func25, Tryd.ntmps25
    go_wp2_with fail
    refine (H1.out _).mono ?_
    rintro e w1 ⟨rfl, rfl⟩
    go_wp2_with fail
    refine (H2.out _).mono ?_
    rintro e w1 ⟨rfl, rfl⟩
    go_wp2
    go_ret
    exact ⟨ret_bool (by first | rfl | (rw [decide_eq_true ha, decide_eq_true hs]; simp)), ((Below.refl _ _).alloc (Nat.le_refl _) _).alloc (by simp) _⟩
  · go_enter Tryd.func25, Tryd.ntmps25
    go_wp2_with fail
    refine (H1.out _).mono ?_
    rintro e w1 ⟨rfl, rfl⟩
    go_wp2_with fail
    refine (H2.out _).mono ?_
    rintro e w1 ⟨rfl, rfl⟩
    go_wp2
    go_ret
    exact ⟨ret_bool (by rw [bytes_none he, decide_eq_false he, hk2]; simp), ((Below.refl _ _).alloc (Nat.le_refl _) _).alloc (by simp) _⟩

set_option maxRecDepth 100000 in
set_option maxHeartbeats 2000000 in
theorem ieventOk_any (n v1 v2 : Value) (N : Int) (hn : n = .int .i64 N) (x : EvD) (w : World) : Calls Tryd.prog 96 #[.agg #[n, v1, v2], evV x] w fun e w' => e = .returned (.bool (eventOkB N x)) ∧ Below w.heap.size w w' := by
  subst hn
  obtain ⟨k, o, a, s⟩ := x
  unfold evV eventOkB
  simp only []
  generalize hq1 : inB k 1 9 = q1
  generalize hq2 : inB o 1 N = q2
  have h1 := isIn_any k 1 9
  have h2 := isIn_any o 1 N
  rw [hq1] at h1
  rw [hq2] at h2
  have H1 := hide h1
  have H2 := hide h2
  clear h1 h2 hq1 hq2
  cases q1
  · go_enter Tryd.func96, Tryd.ntmps96
    go_wp2_with fail
    refine (H1.out _).mono ?_
    rintro e w1 ⟨rfl, rfl⟩
    go_wp2
    go_ret
    exact ⟨by simp, ((Below.refl _ _).alloc (Nat.le_refl _) _).alloc (by simp) _⟩
  by_cases ha : 0 ≤ a
  rotate_left
  · go_enter Tryd.func96, Tryd.ntmps96
    go_wp2_with fail
    refine (H1.out _).mono ?_
    rintro e w1 ⟨rfl, rfl⟩
    go_wp2
    go_ret
    exact ⟨ret_bool (by rw [decide_eq_false (show ¬ 0 ≤ a by omega)]; simp), ((Below.refl _ _).alloc (Nat.le_refl _) _).alloc (by simp) _⟩
  cases q2
  · go_enter Tryd.func96, Tryd.ntmps96
    go_wp2_with fail
    refine (H1.out _).mono ?_
    rintro e w1 ⟨rfl, rfl⟩
    go_wp2_with fail
    refine (H2.out _).mono ?_
    rintro e w1 ⟨rfl, rfl⟩
    go_wp2
    go_ret
    exact ⟨by simp, ((Below.refl _ _).alloc (Nat.le_refl _) _).alloc (by simp) _⟩
  by_cases hs : s.size ≤ 200
  rotate_left
  · go_enter Tryd.func96, Tryd.ntmps96
    go_wp2_with fail
    refine (H1.out _).mono ?_
    rintro e w1 ⟨rfl, rfl⟩
    go_wp2_with fail
    refine (H2.out _).mono ?_
    rintro e w1 ⟨rfl, rfl⟩
    go_wp2
    go_ret
    exact ⟨ret_bool (by first | rfl | (rw [decide_eq_false hs]; simp)), ((Below.refl _ _).alloc (Nat.le_refl _) _).alloc (by simp) _⟩
  by_cases hk : k = 9
  · subst hk
    go_enter Tryd.func96, Tryd.ntmps96
    go_wp2_with fail
    refine (H1.out _).mono ?_
    rintro e w1 ⟨rfl, rfl⟩
    go_wp2_with fail
    refine (H2.out _).mono ?_
    rintro e w1 ⟨rfl, rfl⟩
    go_wp2
    go_ret
    exact ⟨ret_bool (by first | rfl | (rw [decide_eq_true ha, decide_eq_true hs]; simp)), ((Below.refl _ _).alloc (Nat.le_refl _) _).alloc (by simp) _⟩
  have hk2 : (k == 9) = false := by simp [hk]
  by_cases he : s = ByteArray.empty
  · subst he
    go_enter Tryd.func96, Tryd.ntmps96
    go_wp2_with fail
    refine (H1.out _).mono ?_
    rintro e w1 ⟨rfl, rfl⟩
    go_wp2_with fail
    refine (H2.out _).mono ?_
    rintro e w1 ⟨rfl, rfl⟩
    go_wp2
    go_ret
    exact ⟨ret_bool (by first | rfl | (rw [decide_eq_true ha, decide_eq_true hs]; simp)), ((Below.refl _ _).alloc (Nat.le_refl _) _).alloc (by simp) _⟩
  · go_enter Tryd.func96, Tryd.ntmps96
    go_wp2_with fail
    refine (H1.out _).mono ?_
    rintro e w1 ⟨rfl, rfl⟩
    go_wp2_with fail
    refine (H2.out _).mono ?_
    rintro e w1 ⟨rfl, rfl⟩
    go_wp2
    go_ret
    exact ⟨ret_bool (by rw [bytes_none he, decide_eq_false he, hk2]; simp), ((Below.refl _ _).alloc (Nat.le_refl _) _).alloc (by simp) _⟩

end Go.Proofs.YtpiookjdeopmgaaDoor
namespace Go.Proofs.YtpiookjdeopmgaaDoor
open Go.RowKit

theorem thE_one (l : Th) : ∀ u ∈ thE l, u.oneCell' = true := by
  intro u hu
  simp only [thE, List.mem_cons, List.not_mem_nil, or_false] at hu
  rcases hu with rfl | rfl | rfl | rfl <;> rfl

def putT (ls : List Th) (l : Th) : List Th := ls.filter (fun x => thingB x l) ++ [l] ++ ls.filter (fun x => thingB l x)

set_option maxRecDepth 100000 in
set_option maxHeartbeats 4000000 in
theorem putT_any (v : Value) (ls : List Th) (l : Th) (w : World) (hls : ls.length ≤ 1000) (hv : ThingsAt w v ls w.heap.size) :
    Calls Tryd.prog 46 #[v, thV l] w fun e w' => ∃ x, e = .returned x ∧ w'.ownsRow (w.heap.size + 1) 81 4 x (putT ls l).length (flat thE (putT ls l)) ∧ Below w.heap.size w w' := by
  obtain ⟨a, cap, rfl⟩ := hv.shape
  have HV := hide hv
  clear hv
  obtain ⟨la, lb, lc, lr⟩ := l
  unfold thV
  simp only []
  go_enter Tryd.func46, Tryd.ntmps46
  go_wp2
  go_loopw [5, 6] (fun u i wr => ∃ k : Nat, k ≤ ls.length ∧ i = .int .i64 k ∧ wr.ownsRow (w.heap.size + 1) 81 4 u ((ls.take k).filter (fun x => thingB x ⟨la, lb, lc, lr⟩)).length (flat thE ((ls.take k).filter (fun x => thingB x ⟨la, lb, lc, lr⟩))) ∧ Below w.heap.size w wr ∧ wr.heap[w.heap.size]? = some (.cells #[.int .i64 la, .int .i64 lb, .int .i64 lc, .bool lr] 81)) (fun _ i _ => ls.length - (intOf i).toNat)
  case atStart =>
    refine ⟨0, by omega, rfl, ?_, ?_, ?_⟩
    · have h := World.ownsRow_lit (base := w.heap.size + 1) (e := 81) (size := 4) (w.alloc (.cells #[.int .i64 la, .int .i64 lb, .int .i64 lc, .bool lr] 81)) #[] 0 (by simp) (by decide) rfl
      simpa [flat] using h
    · exact ((Below.refl _ _).alloc (Nat.le_refl _) _).alloc (by simp) _
    · rw [Below.heap_alloc _ _ _ (by simp), heap_alloc_new]
  case round =>
    obtain ⟨k, hk, rfl, hown, hb, hx⟩ := hrel
    have hfl := filt_len (fun x => thingB x ⟨la, lb, lc, lr⟩) ls k
    have hxl := lt_of_heap hx
    by_cases hlt : k < ls.length
    · obtain ⟨x, hl⟩ : ∃ l, ls[k]? = some l := ⟨ls[k], List.getElem?_eq_getElem hlt⟩
      obtain ⟨b, off, cap', hve, hbb, c0, c1, c2, c3⟩ := HV.out.cells k x hl
      cases hve
      have d0 := c0
      have d1 := c1
      have d2 := c2
      have d3 := c3
      rw [← hb.cell (p := ⟨b, off + k * 4, none⟩) hbb] at c0
      rw [← hb.cell (p := ⟨b, off + k * 4 + 1, none⟩) hbb] at c1
      rw [← hb.cell (p := ⟨b, off + k * 4 + 2, none⟩) hbb] at c2
      rw [← hb.cell (p := ⟨b, off + k * 4 + 3, none⟩) hbb] at c3
      have g0 := cells_at hx 0
      have g1 := cells_at hx 1
      have g2 := cells_at hx 2
      have g3 := cells_at hx 3
      simp at g0 g1 g2 g3
      have hzr := hb.size
      have hbr : b < wr.heap.size := by omega
      have hki : (0 : Int) ≤ (k : Int) := by omega
      have hkj : (k : Int) < (ls.length : Int) := by omega
      obtain ⟨q, hq⟩ : ∃ q, q = thingB x ⟨la, lb, lc, lr⟩ := ⟨_, rfl⟩
      have hah := sthing_any x ⟨la, lb, lc, lr⟩
      rw [← hq] at hah
      unfold thV at hah
      have HAH := hide hah
      have OW := hide hown
      have HX := hide hx
      have HL := hide hl
      have HQ := hide hq
      have D0 := hide d0
      have D1 := hide d1
      have D2 := hide d2
      have D3 := hide d3
      clear hah hown hx hl hq d0 d1 d2 d3
      go_wp2
      go_region_held3 (fun W => W.cell? ⟨b, off + k * 4, none⟩ = some (.int .i64 x.o) ∧ W.cell? ⟨b, off + k * 4 + 1, none⟩ = some (.int .i64 x.k) ∧ W.cell? ⟨b, off + k * 4 + 2, none⟩ = some (.int .i64 x.c) ∧ W.cell? ⟨b, off + k * 4 + 3, none⟩ = some (.bool x.f) ∧ W.cell? ⟨w.heap.size, 0, none⟩ = some (.int .i64 la) ∧ W.cell? ⟨w.heap.size, 1, none⟩ = some (.int .i64 lb) ∧ W.cell? ⟨w.heap.size, 2, none⟩ = some (.int .i64 lc) ∧ W.cell? ⟨w.heap.size, 3, none⟩ = some (.bool lr)) (first | go_keep | (refine ⟨?_, ?_, ?_, ?_, ?_, ?_, ?_, ?_⟩ <;> (rw [hbc.cell (by assumption)]; assumption))) (first | (go_at_call 68; refine (HAH.out _).mono ?_; rintro e w1 ⟨rfl, hbc⟩))
      have B1 : Below w.heap.size w w1 := hb.drew.trans (hbc.mono hb.size)
      have hx1 : w1.heap[w.heap.size]? = some (.cells #[.int .i64 la, .int .i64 lb, .int .i64 lc, .bool lr] 81) := by rw [hbc.block _ hxl]; exact HX.out
      have hown1 := owns_below OW.out.drew hbc (Nat.le_refl _)
      have c0 := D0.out
      have c1 := D1.out
      have c2 := D2.out
      have c3 := D3.out
      rw [← B1.cell (p := ⟨b, off + k * 4, none⟩) hbb] at c0
      rw [← B1.cell (p := ⟨b, off + k * 4 + 1, none⟩) hbb] at c1
      rw [← B1.cell (p := ⟨b, off + k * 4 + 2, none⟩) hbb] at c2
      rw [← B1.cell (p := ⟨b, off + k * 4 + 3, none⟩) hbb] at c3
      have hxl1 := lt_of_heap hx1
      have HX1 := hide hx1
      have OW1 := hide hown1
      clear hx1 hown1 hbc
      cases q
      · have hs := filt_no (p := fun x => thingB x ⟨la, lb, lc, lr⟩) HL.out HQ.out.symm
        have HS := hide hs
        clear hs
        go_wp2
        go_roundw
        case rel => exact ⟨k + 1, by omega, by go_num, by rw [HS.out]; exact OW1.out, B1, HX1.out⟩
        case measure => simp [intOf]; omega
      · have hs := filt_yes (p := fun x => thingB x ⟨la, lb, lc, lr⟩) HL.out HQ.out.symm
        have HS := hide hs
        clear hs
        go_wp2_with (first
          | (at_builtin; refine wpList_append_struct thE_len (by omega) thE_one (by omega) _ rfl _ _ 23 rfl (w.heap.size + 1) 81 Tryd.underlying23 (thV th0) rfl Tryd.infoTh u5 _ x rfl (OW1.out.alloc _) ⟨w1.heap.size, 0, none⟩ 1 rfl (news_struct (cs := thE x)) (by omega) (by simp; omega) ?_))
        intro v' w2 l' hl' hown' hgrow
        have B2 : Below w.heap.size w w2 := (B1.alloc B1.size _).grown hgrow (by simp; omega) (fun k hk => by have := (OW1.out.lt k hk).1; omega)
        have hx2 : w2.heap[w.heap.size]? = some (.cells #[.int .i64 la, .int .i64 lb, .int .i64 lc, .bool lr] 81) := by rw [heap_grown_below (OW1.out.alloc _) hgrow (by omega) (by simp; omega), Below.heap_alloc _ _ _ hxl1]; exact HX1.out
        have HX2 := hide hx2
        have OW2 := hide hown'
        clear hx2 hown' hgrow
        go_wp2
        go_roundw
        case rel => exact ⟨k + 1, by omega, by go_num, by rw [HS.out, ← hl'.out]; exact OW2.out, B2, HX2.out⟩
        case measure => simp [intOf]; omega
    · have hk' : k = ls.length := by omega
      rw [hk', List.take_length] at hown
      have g0 := cells_at hx 0
      have g1 := cells_at hx 1
      have g2 := cells_at hx 2
      have g3 := cells_at hx 3
      simp at g0 g1 g2 g3
      have hzr := hb.size
      have hfl2 : (ls.filter (fun x => thingB x ⟨la, lb, lc, lr⟩)).length ≤ ls.length := List.length_filter_le _ _
      have OW := hide hown
      have HX := hide hx
      clear hown hx hk'
      obtain ⟨wo, rfl⟩ : ∃ wo : World, wo = wr := ⟨_, rfl⟩
      go_wp2_with (first
        | (at_builtin; refine wpList_append_struct thE_len (by omega) thE_one (by omega) _ rfl _ _ 23 rfl (w.heap.size + 1) 81 Tryd.underlying23 (thV th0) rfl Tryd.infoTh u5 _ ⟨la, lb, lc, lr⟩ rfl (OW.out.alloc _) ⟨wo.heap.size, 0, none⟩ 1 rfl (news_struct (cs := thE ⟨la, lb, lc, lr⟩)) (by omega) (by simp; omega) ?_))
      intro v' w2 l' hl' hown' hgrow
      have B2 : Below w.heap.size w w2 := (hb.alloc hb.size _).grown hgrow (by simp; omega) (fun k hk => by have := (OW.out.lt k hk).1; omega)
      have hx2 : w2.heap[w.heap.size]? = some (.cells #[.int .i64 la, .int .i64 lb, .int .i64 lc, .bool lr] 81) := by rw [heap_grown_below (OW.out.alloc _) hgrow (by omega) (by simp; omega), Below.heap_alloc _ _ _ hxl]; exact HX.out
      have hll : l'.length ≤ ls.length + 1 := by rw [hl'.out]; simp; omega
      have HX2 := hide hx2
      have OW2 := hide hown'
      clear hx2 hown' hgrow hlt
      go_wp2
      go_loopw [5, 7] (fun u i wr => ∃ k : Nat, k ≤ ls.length ∧ i = .int .i64 k ∧ wr.ownsRow (w.heap.size + 1) 81 4 u (l' ++ (ls.take k).filter (fun x => thingB ⟨la, lb, lc, lr⟩ x)).length (flat thE (l' ++ (ls.take k).filter (fun x => thingB ⟨la, lb, lc, lr⟩ x))) ∧ Below w.heap.size w wr ∧ wr.heap[w.heap.size]? = some (.cells #[.int .i64 la, .int .i64 lb, .int .i64 lc, .bool lr] 81)) (fun _ i _ => ls.length - (intOf i).toNat)
      case atStart => exact ⟨0, by omega, rfl, by simpa using OW2.out, B2, HX2.out⟩
      case round =>
        clear OW2 HX2 B2 OW HX hb g0 g1 g2 g3 hzr hxl
        obtain ⟨k, hk, rfl, hown, hb, hx⟩ := hrel
        have hfl := filt_len (fun x => thingB ⟨la, lb, lc, lr⟩ x) ls k
        have hfl3 : (l' ++ (ls.take k).filter (fun x => thingB ⟨la, lb, lc, lr⟩ x)).length ≤ 2 * ls.length + 1 := by rw [List.length_append]; omega
        have hxl := lt_of_heap hx
        by_cases hlt : k < ls.length
        · obtain ⟨x, hl⟩ : ∃ l, ls[k]? = some l := ⟨ls[k], List.getElem?_eq_getElem hlt⟩
          obtain ⟨b, off, cap', hve, hbb, c0, c1, c2, c3⟩ := HV.out.cells k x hl
          cases hve
          have d0 := c0
          have d1 := c1
          have d2 := c2
          have d3 := c3
          rw [← hb.cell (p := ⟨b, off + k * 4, none⟩) hbb] at c0
          rw [← hb.cell (p := ⟨b, off + k * 4 + 1, none⟩) hbb] at c1
          rw [← hb.cell (p := ⟨b, off + k * 4 + 2, none⟩) hbb] at c2
          rw [← hb.cell (p := ⟨b, off + k * 4 + 3, none⟩) hbb] at c3
          have g0 := cells_at hx 0
          have g1 := cells_at hx 1
          have g2 := cells_at hx 2
          have g3 := cells_at hx 3
          simp at g0 g1 g2 g3
          have hzr := hb.size
          have hbr : b < wr.heap.size := by omega
          have hki : (0 : Int) ≤ (k : Int) := by omega
          have hkj : (k : Int) < (ls.length : Int) := by omega
          obtain ⟨q, hq⟩ : ∃ q, q = thingB ⟨la, lb, lc, lr⟩ x := ⟨_, rfl⟩
          have hah := sthing_any ⟨la, lb, lc, lr⟩ x
          rw [← hq] at hah
          unfold thV at hah
          have HAH := hide hah
          have OW := hide hown
          have HX := hide hx
          have HL := hide hl
          have HQ := hide hq
          have D0 := hide d0
          have D1 := hide d1
          have D2 := hide d2
          have D3 := hide d3
          clear hah hown hx hl hq d0 d1 d2 d3
          go_wp2
          go_region_held3 (fun W => W.cell? ⟨b, off + k * 4, none⟩ = some (.int .i64 x.o) ∧ W.cell? ⟨b, off + k * 4 + 1, none⟩ = some (.int .i64 x.k) ∧ W.cell? ⟨b, off + k * 4 + 2, none⟩ = some (.int .i64 x.c) ∧ W.cell? ⟨b, off + k * 4 + 3, none⟩ = some (.bool x.f) ∧ W.cell? ⟨w.heap.size, 0, none⟩ = some (.int .i64 la) ∧ W.cell? ⟨w.heap.size, 1, none⟩ = some (.int .i64 lb) ∧ W.cell? ⟨w.heap.size, 2, none⟩ = some (.int .i64 lc) ∧ W.cell? ⟨w.heap.size, 3, none⟩ = some (.bool lr)) (first | go_keep | (refine ⟨?_, ?_, ?_, ?_, ?_, ?_, ?_, ?_⟩ <;> (rw [hbc.cell (by assumption)]; assumption))) (first | (go_at_call 68; refine (HAH.out _).mono ?_; rintro e w1 ⟨rfl, hbc⟩))
          have B1 : Below w.heap.size w w1 := hb.drew.trans (hbc.mono hb.size)
          have hx1 : w1.heap[w.heap.size]? = some (.cells #[.int .i64 la, .int .i64 lb, .int .i64 lc, .bool lr] 81) := by rw [hbc.block _ hxl]; exact HX.out
          have hown1 := owns_below OW.out.drew hbc (Nat.le_refl _)
          have c0 := D0.out
          have c1 := D1.out
          have c2 := D2.out
          have c3 := D3.out
          rw [← B1.cell (p := ⟨b, off + k * 4, none⟩) hbb] at c0
          rw [← B1.cell (p := ⟨b, off + k * 4 + 1, none⟩) hbb] at c1
          rw [← B1.cell (p := ⟨b, off + k * 4 + 2, none⟩) hbb] at c2
          rw [← B1.cell (p := ⟨b, off + k * 4 + 3, none⟩) hbb] at c3
          have hxl1 := lt_of_heap hx1
          have HX1 := hide hx1
          have OW1 := hide hown1
          clear hx1 hown1 hbc
          cases q
          · have hs := filt_no (p := fun x => thingB ⟨la, lb, lc, lr⟩ x) HL.out HQ.out.symm
            have HS := hide hs
            clear hs
            go_wp2
            go_roundw
            case rel => exact ⟨k + 1, by omega, by go_num, by rw [HS.out]; exact OW1.out, B1, HX1.out⟩
            case measure => simp [intOf]; omega
          · have hs := filt_yes (p := fun x => thingB ⟨la, lb, lc, lr⟩ x) HL.out HQ.out.symm
            have HS := hide hs
            clear hs
            go_wp2_with (first
              | (at_builtin; refine wpList_append_struct thE_len (by omega) thE_one (by omega) _ rfl _ _ 23 rfl (w.heap.size + 1) 81 Tryd.underlying23 (thV th0) rfl Tryd.infoTh u5 _ x rfl (OW1.out.alloc _) ⟨w1.heap.size, 0, none⟩ 1 rfl (news_struct (cs := thE x)) (by omega) (by simp; omega) ?_))
            intro v' w2 l2 hl2 hown' hgrow
            have B2 : Below w.heap.size w w2 := (B1.alloc B1.size _).grown hgrow (by simp; omega) (fun k hk => by have := (OW1.out.lt k hk).1; omega)
            have hx2 : w2.heap[w.heap.size]? = some (.cells #[.int .i64 la, .int .i64 lb, .int .i64 lc, .bool lr] 81) := by rw [heap_grown_below (OW1.out.alloc _) hgrow (by omega) (by simp; omega), Below.heap_alloc _ _ _ hxl1]; exact HX1.out
            have HX2 := hide hx2
            have OW2 := hide hown'
            clear hx2 hown' hgrow
            go_wp2
            go_roundw
            case rel => exact ⟨k + 1, by omega, by go_num, by rw [HS.out]; first | (rw [← hl2.out]; exact OW2.out) | (rw [← List.append_assoc, ← hl2.out]; exact OW2.out), B2, HX2.out⟩
            case measure => simp [intOf]; omega
        · have hk' : k = ls.length := by omega
          rw [hk', List.take_length] at hown
          have OW := hide hown
          clear hown hk'
          go_wp2
          go_ret
          exact ⟨_, rfl, by unfold putT; rw [← hl'.out]; exact OW.out, hb⟩
end Go.Proofs.YtpiookjdeopmgaaDoor
