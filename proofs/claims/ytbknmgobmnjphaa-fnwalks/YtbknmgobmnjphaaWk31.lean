/-
  spec.l03Put: its contract.
  spec.l03PutThing: its contract.
  Right nets: lists that ascend; a net under way while it is drawn.
-/
import Derived.Test.YtbknmgobmnjphaaWk30
import Derived.Test.YtbknmgobmnjphaaWk21
import Derived.Deep.RegionHeld3
import Derived.Test.YtbknmgobmnjphaaWk22
namespace Go.Proofs.Ytbknmgobmnjphaa
open Go.RowKit

theorem lkE_one (l : Lk) : ∀ u ∈ lkE l, u.oneCell' = true := by
  intro u hu
  simp only [lkE, List.mem_cons, List.not_mem_nil, or_false] at hu
  rcases hu with rfl | rfl | rfl | rfl <;> rfl

theorem filt_yes {α : Type} {p : α → Bool} {ls : List α} {k : Nat} {x : α} (h : ls[k]? = some x) (hp : p x = true) : (ls.take (k + 1)).filter p = (ls.take k).filter p ++ [x] := by
  obtain ⟨hk, e⟩ := List.getElem?_eq_some_iff.1 h
  rw [List.take_succ_eq_append_getElem hk, List.filter_append, e]
  simp [hp]

theorem filt_no {α : Type} {p : α → Bool} {ls : List α} {k : Nat} {x : α} (h : ls[k]? = some x) (hp : p x = false) : (ls.take (k + 1)).filter p = (ls.take k).filter p := by
  obtain ⟨hk, e⟩ := List.getElem?_eq_some_iff.1 h
  rw [List.take_succ_eq_append_getElem hk, List.filter_append, e]
  simp [hp]

theorem filt_len {α : Type} (p : α → Bool) (ls : List α) (k : Nat) : ((ls.take k).filter p).length ≤ ls.length := by
  have h1 := List.length_filter_le p (ls.take k)
  have h2 := List.length_take_le k ls
  have h3 : (ls.take k).length ≤ ls.length := by simp; omega
  omega

def putLk (ls : List Lk) (l : Lk) : List Lk := ls.filter (fun x => aheadB x l) ++ [l] ++ ls.filter (fun x => aheadB l x)

/-- what a row's own append leaves of a block below its base -/
theorem heap_grown_below {w w' : World} {base size : Nat} {e : TypeId} {v : Value} {n : Nat} {xs : List Value} (hown : w.ownsRow base e size v n xs) (hg : w.grownBy w' v.ownBlock) {b : Nat} (hb : b < base) (hbw : b < w.heap.size) : w'.heap[b]? = w.heap[b]? :=
  hg.block b hbw (fun he => by have := (hown.lt b he.symm).1; omega)

set_option maxRecDepth 100000 in
set_option maxHeartbeats 4000000 in
theorem putL_any (v : Value) (ls : List Lk) (l : Lk) (w : World) (hls : ls.length ≤ 1000) (hv : LinksAt w v ls w.heap.size) :
    Calls Try.prog 36 #[v, lkV l] w fun e w' => ∃ x, e = .returned x ∧ w'.ownsRow (w.heap.size + 1) 91 4 x (putLk ls l).length (flat lkE (putLk ls l)) ∧ Below w.heap.size w w' := by
  obtain ⟨a, cap, rfl⟩ := hv.shape
  have HV := hide hv
  clear hv
  obtain ⟨la, lb, lc, lr⟩ := l
  unfold lkV
  simp only []
  go_enter Try.func36, Try.ntmps36
  go_wp2
  go_loopw [5, 6] (fun u i wr => ∃ k : Nat, k ≤ ls.length ∧ i = .int .i64 k ∧ wr.ownsRow (w.heap.size + 1) 91 4 u ((ls.take k).filter (fun x => aheadB x ⟨la, lb, lc, lr⟩)).length (flat lkE ((ls.take k).filter (fun x => aheadB x ⟨la, lb, lc, lr⟩))) ∧ Below w.heap.size w wr ∧ wr.heap[w.heap.size]? = some (.cells #[.int .i64 la, .int .i64 lb, .int .i64 lc, .int .i64 lr] 91)) (fun _ i _ => ls.length - (intOf i).toNat)
  case atStart =>
    refine ⟨0, by omega, rfl, ?_, ?_, ?_⟩
    · have h := World.ownsRow_lit (base := w.heap.size + 1) (e := 91) (size := 4) (w.alloc (.cells #[.int .i64 la, .int .i64 lb, .int .i64 lc, .int .i64 lr] 91)) #[] 0 (by simp) (by decide) rfl
      simpa [flat] using h
    · exact ((Below.refl _ _).alloc (Nat.le_refl _) _).alloc (by simp) _
    · rw [Below.heap_alloc _ _ _ (by simp), heap_alloc_new]
  case round =>
    obtain ⟨k, hk, rfl, hown, hb, hx⟩ := hrel
    have hfl := filt_len (fun x => aheadB x ⟨la, lb, lc, lr⟩) ls k
    have hxl := lt_of_heap hx
    by_cases hlt : k < ls.length
    · obtain ⟨x, hl⟩ : ∃ l, ls[k]? = some l := ⟨ls[k], List.getElem?_eq_getElem hlt⟩
      obtain ⟨b, off, cap', hve, hbb, c0, c1, c2, c3⟩ := HV.out.cells k x hl
      cases hve
      have d0 := c0
      have d1 := c1
      have d2 := c2
      have d3 := c3
      rw [← hb.cell (p := ⟨b, off + k * 4, none⟩) hbb] at c0
      rw [← hb.cell (p := ⟨b, off + k * 4 + 1, none⟩) hbb] at c1
      rw [← hb.cell (p := ⟨b, off + k * 4 + 2, none⟩) hbb] at c2
      rw [← hb.cell (p := ⟨b, off + k * 4 + 3, none⟩) hbb] at c3
      have g0 := cells_at hx 0
      have g1 := cells_at hx 1
      have g2 := cells_at hx 2
      have g3 := cells_at hx 3
      simp at g0 g1 g2 g3
      have hzr := hb.size
      have hbr : b < wr.heap.size := by omega
      have hki : (0 : Int) ≤ (k : Int) := by omega
      have hkj : (k : Int) < (ls.length : Int) := by omega
      obtain ⟨q, hq⟩ : ∃ q, q = aheadB x ⟨la, lb, lc, lr⟩ := ⟨_, rfl⟩
      have hah := sahead_any x ⟨la, lb, lc, lr⟩
      rw [← hq] at hah
      unfold lkV at hah
      have HAH := hide hah
      have OW := hide hown
      have HX := hide hx
      have HL := hide hl
      have HQ := hide hq
      have D0 := hide d0
      have D1 := hide d1
      have D2 := hide d2
      have D3 := hide d3
      clear hah hown hx hl hq d0 d1 d2 d3
      go_wp2
      go_region_held3 (fun W => W.cell? ⟨b, off + k * 4, none⟩ = some (.int .i64 x.a) ∧ W.cell? ⟨b, off + k * 4 + 1, none⟩ = some (.int .i64 x.b) ∧ W.cell? ⟨b, off + k * 4 + 2, none⟩ = some (.int .i64 x.c) ∧ W.cell? ⟨b, off + k * 4 + 3, none⟩ = some (.int .i64 x.r) ∧ W.cell? ⟨w.heap.size, 0, none⟩ = some (.int .i64 la) ∧ W.cell? ⟨w.heap.size, 1, none⟩ = some (.int .i64 lb) ∧ W.cell? ⟨w.heap.size, 2, none⟩ = some (.int .i64 lc) ∧ W.cell? ⟨w.heap.size, 3, none⟩ = some (.int .i64 lr)) (first | go_keep | (refine ⟨?_, ?_, ?_, ?_, ?_, ?_, ?_, ?_⟩ <;> (rw [hbc.cell (by assumption)]; assumption))) (first | (go_at_call 40; refine (HAH.out _).mono ?_; rintro e w1 ⟨rfl, hbc⟩))
      have B1 : Below w.heap.size w w1 := hb.drew.trans (hbc.mono hb.size)
      have hx1 : w1.heap[w.heap.size]? = some (.cells #[.int .i64 la, .int .i64 lb, .int .i64 lc, .int .i64 lr] 91) := by rw [hbc.block _ hxl]; exact HX.out
      have hown1 := owns_below OW.out.drew hbc (Nat.le_refl _)
      have c0 := D0.out
      have c1 := D1.out
      have c2 := D2.out
      have c3 := D3.out
      rw [← B1.cell (p := ⟨b, off + k * 4, none⟩) hbb] at c0
      rw [← B1.cell (p := ⟨b, off + k * 4 + 1, none⟩) hbb] at c1
      rw [← B1.cell (p := ⟨b, off + k * 4 + 2, none⟩) hbb] at c2
      rw [← B1.cell (p := ⟨b, off + k * 4 + 3, none⟩) hbb] at c3
      have hxl1 := lt_of_heap hx1
      have HX1 := hide hx1
      have OW1 := hide hown1
      clear hx1 hown1 hbc
      cases q
      · have hs := filt_no (p := fun x => aheadB x ⟨la, lb, lc, lr⟩) HL.out HQ.out.symm
        have HS := hide hs
        clear hs
        go_wp2
        go_roundw
        case rel => exact ⟨k + 1, by omega, by go_num, by rw [HS.out]; exact OW1.out, B1, HX1.out⟩
        case measure => simp [intOf]; omega
      · have hs := filt_yes (p := fun x => aheadB x ⟨la, lb, lc, lr⟩) HL.out HQ.out.symm
        have HS := hide hs
        clear hs
        go_wp2_with (first
          | (at_builtin; refine wpList_append_struct lkE_len (by omega) lkE_one (by omega) _ rfl _ _ 24 rfl (w.heap.size + 1) 91 Try.underlying24 (lkV lk0) rfl Try.infoLk u5 _ x rfl (OW1.out.alloc _) ⟨w1.heap.size, 0, none⟩ 1 rfl (news_struct (cs := lkE x)) (by omega) (by simp; omega) ?_))
        intro v' w2 l' hl' hown' hgrow
        have B2 : Below w.heap.size w w2 := (B1.alloc B1.size _).grown hgrow (by simp; omega) (fun k hk => by have := (OW1.out.lt k hk).1; omega)
        have hx2 : w2.heap[w.heap.size]? = some (.cells #[.int .i64 la, .int .i64 lb, .int .i64 lc, .int .i64 lr] 91) := by rw [heap_grown_below (OW1.out.alloc _) hgrow (by omega) (by simp; omega), Below.heap_alloc _ _ _ hxl1]; exact HX1.out
        have HX2 := hide hx2
        have OW2 := hide hown'
        clear hx2 hown' hgrow
        go_wp2
        go_roundw
        case rel => exact ⟨k + 1, by omega, by go_num, by rw [HS.out, ← hl'.out]; exact OW2.out, B2, HX2.out⟩
        case measure => simp [intOf]; omega
    · have hk' : k = ls.length := by omega
      rw [hk', List.take_length] at hown
      have g0 := cells_at hx 0
      have g1 := cells_at hx 1
      have g2 := cells_at hx 2
      have g3 := cells_at hx 3
      simp at g0 g1 g2 g3
      have hzr := hb.size
      have hfl2 : (ls.filter (fun x => aheadB x ⟨la, lb, lc, lr⟩)).length ≤ ls.length := List.length_filter_le _ _
      have OW := hide hown
      have HX := hide hx
      clear hown hx hk'
      obtain ⟨wo, rfl⟩ : ∃ wo : World, wo = wr := ⟨_, rfl⟩
      go_wp2_with (first
        | (at_builtin; refine wpList_append_struct lkE_len (by omega) lkE_one (by omega) _ rfl _ _ 24 rfl (w.heap.size + 1) 91 Try.underlying24 (lkV lk0) rfl Try.infoLk u5 _ ⟨la, lb, lc, lr⟩ rfl (OW.out.alloc _) ⟨wo.heap.size, 0, none⟩ 1 rfl (news_struct (cs := lkE ⟨la, lb, lc, lr⟩)) (by omega) (by simp; omega) ?_))
      intro v' w2 l' hl' hown' hgrow
      have B2 : Below w.heap.size w w2 := (hb.alloc hb.size _).grown hgrow (by simp; omega) (fun k hk => by have := (OW.out.lt k hk).1; omega)
      have hx2 : w2.heap[w.heap.size]? = some (.cells #[.int .i64 la, .int .i64 lb, .int .i64 lc, .int .i64 lr] 91) := by rw [heap_grown_below (OW.out.alloc _) hgrow (by omega) (by simp; omega), Below.heap_alloc _ _ _ hxl]; exact HX.out
      have hll : l'.length ≤ ls.length + 1 := by rw [hl'.out]; simp; omega
      have HX2 := hide hx2
      have OW2 := hide hown'
      clear hx2 hown' hgrow hlt
      go_wp2
      go_loopw [5, 7] (fun u i wr => ∃ k : Nat, k ≤ ls.length ∧ i = .int .i64 k ∧ wr.ownsRow (w.heap.size + 1) 91 4 u (l' ++ (ls.take k).filter (fun x => aheadB ⟨la, lb, lc, lr⟩ x)).length (flat lkE (l' ++ (ls.take k).filter (fun x => aheadB ⟨la, lb, lc, lr⟩ x))) ∧ Below w.heap.size w wr ∧ wr.heap[w.heap.size]? = some (.cells #[.int .i64 la, .int .i64 lb, .int .i64 lc, .int .i64 lr] 91)) (fun _ i _ => ls.length - (intOf i).toNat)
      case atStart => exact ⟨0, by omega, rfl, by simpa using OW2.out, B2, HX2.out⟩
      case round =>
        clear OW2 HX2 B2 OW HX hb g0 g1 g2 g3 hzr hxl
        obtain ⟨k, hk, rfl, hown, hb, hx⟩ := hrel
        have hfl := filt_len (fun x => aheadB ⟨la, lb, lc, lr⟩ x) ls k
        have hfl3 : (l' ++ (ls.take k).filter (fun x => aheadB ⟨la, lb, lc, lr⟩ x)).length ≤ 2 * ls.length + 1 := by rw [List.length_append]; omega
        have hxl := lt_of_heap hx
        by_cases hlt : k < ls.length
        · obtain ⟨x, hl⟩ : ∃ l, ls[k]? = some l := ⟨ls[k], List.getElem?_eq_getElem hlt⟩
          obtain ⟨b, off, cap', hve, hbb, c0, c1, c2, c3⟩ := HV.out.cells k x hl
          cases hve
          have d0 := c0
          have d1 := c1
          have d2 := c2
          have d3 := c3
          rw [← hb.cell (p := ⟨b, off + k * 4, none⟩) hbb] at c0
          rw [← hb.cell (p := ⟨b, off + k * 4 + 1, none⟩) hbb] at c1
          rw [← hb.cell (p := ⟨b, off + k * 4 + 2, none⟩) hbb] at c2
          rw [← hb.cell (p := ⟨b, off + k * 4 + 3, none⟩) hbb] at c3
          have g0 := cells_at hx 0
          have g1 := cells_at hx 1
          have g2 := cells_at hx 2
          have g3 := cells_at hx 3
          simp at g0 g1 g2 g3
          have hzr := hb.size
          have hbr : b < wr.heap.size := by omega
          have hki : (0 : Int) ≤ (k : Int) := by omega
          have hkj : (k : Int) < (ls.length : Int) := by omega
          obtain ⟨q, hq⟩ : ∃ q, q = aheadB ⟨la, lb, lc, lr⟩ x := ⟨_, rfl⟩
          have hah := sahead_any ⟨la, lb, lc, lr⟩ x
          rw [← hq] at hah
          unfold lkV at hah
          have HAH := hide hah
          have OW := hide hown
          have HX := hide hx
          have HL := hide hl
          have HQ := hide hq
          have D0 := hide d0
          have D1 := hide d1
          have D2 := hide d2
          have D3 := hide d3
          clear hah hown hx hl hq d0 d1 d2 d3
          go_wp2
          go_region_held3 (fun W => W.cell? ⟨b, off + k * 4, none⟩ = some (.int .i64 x.a) ∧ W.cell? ⟨b, off + k * 4 + 1, none⟩ = some (.int .i64 x.b) ∧ W.cell? ⟨b, off + k * 4 + 2, none⟩ = some (.int .i64 x.c) ∧ W.cell? ⟨b, off + k * 4 + 3, none⟩ = some (.int .i64 x.r) ∧ W.cell? ⟨w.heap.size, 0, none⟩ = some (.int .i64 la) ∧ W.cell? ⟨w.heap.size, 1, none⟩ = some (.int .i64 lb) ∧ W.cell? ⟨w.heap.size, 2, none⟩ = some (.int .i64 lc) ∧ W.cell? ⟨w.heap.size, 3, none⟩ = some (.int .i64 lr)) (first | go_keep | (refine ⟨?_, ?_, ?_, ?_, ?_, ?_, ?_, ?_⟩ <;> (rw [hbc.cell (by assumption)]; assumption))) (first | (go_at_call 40; refine (HAH.out _).mono ?_; rintro e w1 ⟨rfl, hbc⟩))
          have B1 : Below w.heap.size w w1 := hb.drew.trans (hbc.mono hb.size)
          have hx1 : w1.heap[w.heap.size]? = some (.cells #[.int .i64 la, .int .i64 lb, .int .i64 lc, .int .i64 lr] 91) := by rw [hbc.block _ hxl]; exact HX.out
          have hown1 := owns_below OW.out.drew hbc (Nat.le_refl _)
          have c0 := D0.out
          have c1 := D1.out
          have c2 := D2.out
          have c3 := D3.out
          rw [← B1.cell (p := ⟨b, off + k * 4, none⟩) hbb] at c0
          rw [← B1.cell (p := ⟨b, off + k * 4 + 1, none⟩) hbb] at c1
          rw [← B1.cell (p := ⟨b, off + k * 4 + 2, none⟩) hbb] at c2
          rw [← B1.cell (p := ⟨b, off + k * 4 + 3, none⟩) hbb] at c3
          have hxl1 := lt_of_heap hx1
          have HX1 := hide hx1
          have OW1 := hide hown1
          clear hx1 hown1 hbc
          cases q
          · have hs := filt_no (p := fun x => aheadB ⟨la, lb, lc, lr⟩ x) HL.out HQ.out.symm
            have HS := hide hs
            clear hs
            go_wp2
            go_roundw
            case rel => exact ⟨k + 1, by omega, by go_num, by rw [HS.out]; exact OW1.out, B1, HX1.out⟩
            case measure => simp [intOf]; omega
          · have hs := filt_yes (p := fun x => aheadB ⟨la, lb, lc, lr⟩ x) HL.out HQ.out.symm
            have HS := hide hs
            clear hs
            go_wp2_with (first
              | (at_builtin; refine wpList_append_struct lkE_len (by omega) lkE_one (by omega) _ rfl _ _ 24 rfl (w.heap.size + 1) 91 Try.underlying24 (lkV lk0) rfl Try.infoLk u5 _ x rfl (OW1.out.alloc _) ⟨w1.heap.size, 0, none⟩ 1 rfl (news_struct (cs := lkE x)) (by omega) (by simp; omega) ?_))
            intro v' w2 l2 hl2 hown' hgrow
            have B2 : Below w.heap.size w w2 := (B1.alloc B1.size _).grown hgrow (by simp; omega) (fun k hk => by have := (OW1.out.lt k hk).1; omega)
            have hx2 : w2.heap[w.heap.size]? = some (.cells #[.int .i64 la, .int .i64 lb, .int .i64 lc, .int .i64 lr] 91) := by rw [heap_grown_below (OW1.out.alloc _) hgrow (by omega) (by simp; omega), Below.heap_alloc _ _ _ hxl1]; exact HX1.out
            have HX2 := hide hx2
            have OW2 := hide hown'
            clear hx2 hown' hgrow
            go_wp2
            go_roundw
            case rel => exact ⟨k + 1, by omega, by go_num, by rw [HS.out]; first | (rw [← hl2.out]; exact OW2.out) | (rw [← List.append_assoc, ← hl2.out]; exact OW2.out), B2, HX2.out⟩
            case measure => simp [intOf]; omega
        · have hk' : k = ls.length := by omega
          rw [hk', List.take_length] at hown
          have OW := hide hown
          clear hown hk'
          go_wp2
          go_ret
          exact ⟨_, rfl, by unfold putLk; rw [← hl'.out]; exact OW.out, hb⟩
end Go.Proofs.Ytbknmgobmnjphaa
namespace Go.Proofs.Ytbknmgobmnjphaa
open Go.RowKit

theorem thE_one (l : Th) : ∀ u ∈ thE l, u.oneCell' = true := by
  intro u hu
  simp only [thE, List.mem_cons, List.not_mem_nil, or_false] at hu
  rcases hu with rfl | rfl | rfl | rfl <;> rfl

def putT (ls : List Th) (l : Th) : List Th := ls.filter (fun x => thingB x l) ++ [l] ++ ls.filter (fun x => thingB l x)

set_option maxRecDepth 100000 in
set_option maxHeartbeats 4000000 in
theorem putT_any (v : Value) (ls : List Th) (l : Th) (w : World) (hls : ls.length ≤ 1000) (hv : ThingsAt w v ls w.heap.size) :
    Calls Try.prog 37 #[v, thV l] w fun e w' => ∃ x, e = .returned x ∧ w'.ownsRow (w.heap.size + 1) 61 4 x (putT ls l).length (flat thE (putT ls l)) ∧ Below w.heap.size w w' := by
  obtain ⟨a, cap, rfl⟩ := hv.shape
  have HV := hide hv
  clear hv
  obtain ⟨la, lb, lc, lr⟩ := l
  unfold thV
  simp only []
  go_enter Try.func37, Try.ntmps37
  go_wp2
  go_loopw [5, 6] (fun u i wr => ∃ k : Nat, k ≤ ls.length ∧ i = .int .i64 k ∧ wr.ownsRow (w.heap.size + 1) 61 4 u ((ls.take k).filter (fun x => thingB x ⟨la, lb, lc, lr⟩)).length (flat thE ((ls.take k).filter (fun x => thingB x ⟨la, lb, lc, lr⟩))) ∧ Below w.heap.size w wr ∧ wr.heap[w.heap.size]? = some (.cells #[.int .i64 la, .int .i64 lb, .int .i64 lc, .bool lr] 61)) (fun _ i _ => ls.length - (intOf i).toNat)
  case atStart =>
    refine ⟨0, by omega, rfl, ?_, ?_, ?_⟩
    · have h := World.ownsRow_lit (base := w.heap.size + 1) (e := 61) (size := 4) (w.alloc (.cells #[.int .i64 la, .int .i64 lb, .int .i64 lc, .bool lr] 61)) #[] 0 (by simp) (by decide) rfl
      simpa [flat] using h
    · exact ((Below.refl _ _).alloc (Nat.le_refl _) _).alloc (by simp) _
    · rw [Below.heap_alloc _ _ _ (by simp), heap_alloc_new]
  case round =>
    obtain ⟨k, hk, rfl, hown, hb, hx⟩ := hrel
    have hfl := filt_len (fun x => thingB x ⟨la, lb, lc, lr⟩) ls k
    have hxl := lt_of_heap hx
    by_cases hlt : k < ls.length
    · obtain ⟨x, hl⟩ : ∃ l, ls[k]? = some l := ⟨ls[k], List.getElem?_eq_getElem hlt⟩
      obtain ⟨b, off, cap', hve, hbb, c0, c1, c2, c3⟩ := HV.out.cells k x hl
      cases hve
      have d0 := c0
      have d1 := c1
      have d2 := c2
      have d3 := c3
      rw [← hb.cell (p := ⟨b, off + k * 4, none⟩) hbb] at c0
      rw [← hb.cell (p := ⟨b, off + k * 4 + 1, none⟩) hbb] at c1
      rw [← hb.cell (p := ⟨b, off + k * 4 + 2, none⟩) hbb] at c2
      rw [← hb.cell (p := ⟨b, off + k * 4 + 3, none⟩) hbb] at c3
      have g0 := cells_at hx 0
      have g1 := cells_at hx 1
      have g2 := cells_at hx 2
      have g3 := cells_at hx 3
      simp at g0 g1 g2 g3
      have hzr := hb.size
      have hbr : b < wr.heap.size := by omega
      have hki : (0 : Int) ≤ (k : Int) := by omega
      have hkj : (k : Int) < (ls.length : Int) := by omega
      obtain ⟨q, hq⟩ : ∃ q, q = thingB x ⟨la, lb, lc, lr⟩ := ⟨_, rfl⟩
      have hah := sthing_any x ⟨la, lb, lc, lr⟩
      rw [← hq] at hah
      unfold thV at hah
      have HAH := hide hah
      have OW := hide hown
      have HX := hide hx
      have HL := hide hl
      have HQ := hide hq
      have D0 := hide d0
      have D1 := hide d1
      have D2 := hide d2
      have D3 := hide d3
      clear hah hown hx hl hq d0 d1 d2 d3
      go_wp2
      go_region_held3 (fun W => W.cell? ⟨b, off + k * 4, none⟩ = some (.int .i64 x.o) ∧ W.cell? ⟨b, off + k * 4 + 1, none⟩ = some (.int .i64 x.k) ∧ W.cell? ⟨b, off + k * 4 + 2, none⟩ = some (.int .i64 x.c) ∧ W.cell? ⟨b, off + k * 4 + 3, none⟩ = some (.bool x.f) ∧ W.cell? ⟨w.heap.size, 0, none⟩ = some (.int .i64 la) ∧ W.cell? ⟨w.heap.size, 1, none⟩ = some (.int .i64 lb) ∧ W.cell? ⟨w.heap.size, 2, none⟩ = some (.int .i64 lc) ∧ W.cell? ⟨w.heap.size, 3, none⟩ = some (.bool lr)) (first | go_keep | (refine ⟨?_, ?_, ?_, ?_, ?_, ?_, ?_, ?_⟩ <;> (rw [hbc.cell (by assumption)]; assumption))) (first | (go_at_call 41; refine (HAH.out _).mono ?_; rintro e w1 ⟨rfl, hbc⟩))
      have B1 : Below w.heap.size w w1 := hb.drew.trans (hbc.mono hb.size)
      have hx1 : w1.heap[w.heap.size]? = some (.cells #[.int .i64 la, .int .i64 lb, .int .i64 lc, .bool lr] 61) := by rw [hbc.block _ hxl]; exact HX.out
      have hown1 := owns_below OW.out.drew hbc (Nat.le_refl _)
      have c0 := D0.out
      have c1 := D1.out
      have c2 := D2.out
      have c3 := D3.out
      rw [← B1.cell (p := ⟨b, off + k * 4, none⟩) hbb] at c0
      rw [← B1.cell (p := ⟨b, off + k * 4 + 1, none⟩) hbb] at c1
      rw [← B1.cell (p := ⟨b, off + k * 4 + 2, none⟩) hbb] at c2
      rw [← B1.cell (p := ⟨b, off + k * 4 + 3, none⟩) hbb] at c3
      have hxl1 := lt_of_heap hx1
      have HX1 := hide hx1
      have OW1 := hide hown1
      clear hx1 hown1 hbc
      cases q
      · have hs := filt_no (p := fun x => thingB x ⟨la, lb, lc, lr⟩) HL.out HQ.out.symm
        have HS := hide hs
        clear hs
        go_wp2
        go_roundw
        case rel => exact ⟨k + 1, by omega, by go_num, by rw [HS.out]; exact OW1.out, B1, HX1.out⟩
        case measure => simp [intOf]; omega
      · have hs := filt_yes (p := fun x => thingB x ⟨la, lb, lc, lr⟩) HL.out HQ.out.symm
        have HS := hide hs
        clear hs
        go_wp2_with (first
          | (at_builtin; refine wpList_append_struct thE_len (by omega) thE_one (by omega) _ rfl _ _ 25 rfl (w.heap.size + 1) 61 Try.underlying25 (thV th0) rfl Try.infoTh u5 _ x rfl (OW1.out.alloc _) ⟨w1.heap.size, 0, none⟩ 1 rfl (news_struct (cs := thE x)) (by omega) (by simp; omega) ?_))
        intro v' w2 l' hl' hown' hgrow
        have B2 : Below w.heap.size w w2 := (B1.alloc B1.size _).grown hgrow (by simp; omega) (fun k hk => by have := (OW1.out.lt k hk).1; omega)
        have hx2 : w2.heap[w.heap.size]? = some (.cells #[.int .i64 la, .int .i64 lb, .int .i64 lc, .bool lr] 61) := by rw [heap_grown_below (OW1.out.alloc _) hgrow (by omega) (by simp; omega), Below.heap_alloc _ _ _ hxl1]; exact HX1.out
        have HX2 := hide hx2
        have OW2 := hide hown'
        clear hx2 hown' hgrow
        go_wp2
        go_roundw
        case rel => exact ⟨k + 1, by omega, by go_num, by rw [HS.out, ← hl'.out]; exact OW2.out, B2, HX2.out⟩
        case measure => simp [intOf]; omega
    · have hk' : k = ls.length := by omega
      rw [hk', List.take_length] at hown
      have g0 := cells_at hx 0
      have g1 := cells_at hx 1
      have g2 := cells_at hx 2
      have g3 := cells_at hx 3
      simp at g0 g1 g2 g3
      have hzr := hb.size
      have hfl2 : (ls.filter (fun x => thingB x ⟨la, lb, lc, lr⟩)).length ≤ ls.length := List.length_filter_le _ _
      have OW := hide hown
      have HX := hide hx
      clear hown hx hk'
      obtain ⟨wo, rfl⟩ : ∃ wo : World, wo = wr := ⟨_, rfl⟩
      go_wp2_with (first
        | (at_builtin; refine wpList_append_struct thE_len (by omega) thE_one (by omega) _ rfl _ _ 25 rfl (w.heap.size + 1) 61 Try.underlying25 (thV th0) rfl Try.infoTh u5 _ ⟨la, lb, lc, lr⟩ rfl (OW.out.alloc _) ⟨wo.heap.size, 0, none⟩ 1 rfl (news_struct (cs := thE ⟨la, lb, lc, lr⟩)) (by omega) (by simp; omega) ?_))
      intro v' w2 l' hl' hown' hgrow
      have B2 : Below w.heap.size w w2 := (hb.alloc hb.size _).grown hgrow (by simp; omega) (fun k hk => by have := (OW.out.lt k hk).1; omega)
      have hx2 : w2.heap[w.heap.size]? = some (.cells #[.int .i64 la, .int .i64 lb, .int .i64 lc, .bool lr] 61) := by rw [heap_grown_below (OW.out.alloc _) hgrow (by omega) (by simp; omega), Below.heap_alloc _ _ _ hxl]; exact HX.out
      have hll : l'.length ≤ ls.length + 1 := by rw [hl'.out]; simp; omega
      have HX2 := hide hx2
      have OW2 := hide hown'
      clear hx2 hown' hgrow hlt
      go_wp2
      go_loopw [5, 7] (fun u i wr => ∃ k : Nat, k ≤ ls.length ∧ i = .int .i64 k ∧ wr.ownsRow (w.heap.size + 1) 61 4 u (l' ++ (ls.take k).filter (fun x => thingB ⟨la, lb, lc, lr⟩ x)).length (flat thE (l' ++ (ls.take k).filter (fun x => thingB ⟨la, lb, lc, lr⟩ x))) ∧ Below w.heap.size w wr ∧ wr.heap[w.heap.size]? = some (.cells #[.int .i64 la, .int .i64 lb, .int .i64 lc, .bool lr] 61)) (fun _ i _ => ls.length - (intOf i).toNat)
      case atStart => exact ⟨0, by omega, rfl, by simpa using OW2.out, B2, HX2.out⟩
      case round =>
        clear OW2 HX2 B2 OW HX hb g0 g1 g2 g3 hzr hxl
        obtain ⟨k, hk, rfl, hown, hb, hx⟩ := hrel
        have hfl := filt_len (fun x => thingB ⟨la, lb, lc, lr⟩ x) ls k
        have hfl3 : (l' ++ (ls.take k).filter (fun x => thingB ⟨la, lb, lc, lr⟩ x)).length ≤ 2 * ls.length + 1 := by rw [List.length_append]; omega
        have hxl := lt_of_heap hx
        by_cases hlt : k < ls.length
        · obtain ⟨x, hl⟩ : ∃ l, ls[k]? = some l := ⟨ls[k], List.getElem?_eq_getElem hlt⟩
          obtain ⟨b, off, cap', hve, hbb, c0, c1, c2, c3⟩ := HV.out.cells k x hl
          cases hve
          have d0 := c0
          have d1 := c1
          have d2 := c2
          have d3 := c3
          rw [← hb.cell (p := ⟨b, off + k * 4, none⟩) hbb] at c0
          rw [← hb.cell (p := ⟨b, off + k * 4 + 1, none⟩) hbb] at c1
          rw [← hb.cell (p := ⟨b, off + k * 4 + 2, none⟩) hbb] at c2
          rw [← hb.cell (p := ⟨b, off + k * 4 + 3, none⟩) hbb] at c3
          have g0 := cells_at hx 0
          have g1 := cells_at hx 1
          have g2 := cells_at hx 2
          have g3 := cells_at hx 3
          simp at g0 g1 g2 g3
          have hzr := hb.size
          have hbr : b < wr.heap.size := by omega
          have hki : (0 : Int) ≤ (k : Int) := by omega
          have hkj : (k : Int) < (ls.length : Int) := by omega
          obtain ⟨q, hq⟩ : ∃ q, q = thingB ⟨la, lb, lc, lr⟩ x := ⟨_, rfl⟩
          have hah := sthing_any ⟨la, lb, lc, lr⟩ x
          rw [← hq] at hah
          unfold thV at hah
          have HAH := hide hah
          have OW := hide hown
          have HX := hide hx
          have HL := hide hl
          have HQ := hide hq
          have D0 := hide d0
          have D1 := hide d1
          have D2 := hide d2
          have D3 := hide d3
          clear hah hown hx hl hq d0 d1 d2 d3
          go_wp2
          go_region_held3 (fun W => W.cell? ⟨b, off + k * 4, none⟩ = some (.int .i64 x.o) ∧ W.cell? ⟨b, off + k * 4 + 1, none⟩ = some (.int .i64 x.k) ∧ W.cell? ⟨b, off + k * 4 + 2, none⟩ = some (.int .i64 x.c) ∧ W.cell? ⟨b, off + k * 4 + 3, none⟩ = some (.bool x.f) ∧ W.cell? ⟨w.heap.size, 0, none⟩ = some (.int .i64 la) ∧ W.cell? ⟨w.heap.size, 1, none⟩ = some (.int .i64 lb) ∧ W.cell? ⟨w.heap.size, 2, none⟩ = some (.int .i64 lc) ∧ W.cell? ⟨w.heap.size, 3, none⟩ = some (.bool lr)) (first | go_keep | (refine ⟨?_, ?_, ?_, ?_, ?_, ?_, ?_, ?_⟩ <;> (rw [hbc.cell (by assumption)]; assumption))) (first | (go_at_call 41; refine (HAH.out _).mono ?_; rintro e w1 ⟨rfl, hbc⟩))
          have B1 : Below w.heap.size w w1 := hb.drew.trans (hbc.mono hb.size)
          have hx1 : w1.heap[w.heap.size]? = some (.cells #[.int .i64 la, .int .i64 lb, .int .i64 lc, .bool lr] 61) := by rw [hbc.block _ hxl]; exact HX.out
          have hown1 := owns_below OW.out.drew hbc (Nat.le_refl _)
          have c0 := D0.out
          have c1 := D1.out
          have c2 := D2.out
          have c3 := D3.out
          rw [← B1.cell (p := ⟨b, off + k * 4, none⟩) hbb] at c0
          rw [← B1.cell (p := ⟨b, off + k * 4 + 1, none⟩) hbb] at c1
          rw [← B1.cell (p := ⟨b, off + k * 4 + 2, none⟩) hbb] at c2
          rw [← B1.cell (p := ⟨b, off + k * 4 + 3, none⟩) hbb] at c3
          have hxl1 := lt_of_heap hx1
          have HX1 := hide hx1
          have OW1 := hide hown1
          clear hx1 hown1 hbc
          cases q
          · have hs := filt_no (p := fun x => thingB ⟨la, lb, lc, lr⟩ x) HL.out HQ.out.symm
            have HS := hide hs
            clear hs
            go_wp2
            go_roundw
            case rel => exact ⟨k + 1, by omega, by go_num, by rw [HS.out]; exact OW1.out, B1, HX1.out⟩
            case measure => simp [intOf]; omega
          · have hs := filt_yes (p := fun x => thingB ⟨la, lb, lc, lr⟩ x) HL.out HQ.out.symm
            have HS := hide hs
            clear hs
            go_wp2_with (first
              | (at_builtin; refine wpList_append_struct thE_len (by omega) thE_one (by omega) _ rfl _ _ 25 rfl (w.heap.size + 1) 61 Try.underlying25 (thV th0) rfl Try.infoTh u5 _ x rfl (OW1.out.alloc _) ⟨w1.heap.size, 0, none⟩ 1 rfl (news_struct (cs := thE x)) (by omega) (by simp; omega) ?_))
            intro v' w2 l2 hl2 hown' hgrow
            have B2 : Below w.heap.size w w2 := (B1.alloc B1.size _).grown hgrow (by simp; omega) (fun k hk => by have := (OW1.out.lt k hk).1; omega)
            have hx2 : w2.heap[w.heap.size]? = some (.cells #[.int .i64 la, .int .i64 lb, .int .i64 lc, .bool lr] 61) := by rw [heap_grown_below (OW1.out.alloc _) hgrow (by omega) (by simp; omega), Below.heap_alloc _ _ _ hxl1]; exact HX1.out
            have HX2 := hide hx2
            have OW2 := hide hown'
            clear hx2 hown' hgrow
            go_wp2
            go_roundw
            case rel => exact ⟨k + 1, by omega, by go_num, by rw [HS.out]; first | (rw [← hl2.out]; exact OW2.out) | (rw [← List.append_assoc, ← hl2.out]; exact OW2.out), B2, HX2.out⟩
            case measure => simp [intOf]; omega
        · have hk' : k = ls.length := by omega
          rw [hk', List.take_length] at hown
          have OW := hide hown
          clear hown hk'
          go_wp2
          go_ret
          exact ⟨_, rfl, by unfold putT; rw [← hl'.out]; exact OW.out, hb⟩
end Go.Proofs.Ytbknmgobmnjphaa
namespace Go.Proofs.Ytbknmgobmnjphaa
open Go.RowKit

theorem aheadB_iff (a b : Lk) : aheadB a b = true ↔ (a.a < b.a ∨ (a.a = b.a ∧ (a.b < b.b ∨ (a.b = b.b ∧ a.r < b.r)))) := by
  simp [aheadB]

theorem thingB_iff (a b : Th) : thingB a b = true ↔ (a.k < b.k ∨ (a.k = b.k ∧ a.o < b.o)) := by
  simp [thingB]

def RightL (n : Int) (ls : List Lk) : Prop := (∀ x ∈ ls, linkOkB n x = true) ∧ ls.Pairwise (fun x y => aheadB x y = true)

def RightT (n : Int) (ts : List Th) : Prop := (∀ x ∈ ts, thOkB n x = true) ∧ ts.Pairwise (fun x y => thingB x y = true)

theorem filter_two {α : Type} {p q : α → Bool} (h : ∀ x, p x = true → q x = true → False) : ∀ ls : List α, (ls.filter p).length + (ls.filter q).length ≤ ls.length
  | [] => by simp
  | x :: xs => by
    have ih := filter_two h xs
    have hx := h x
    cases hp : p x <;> cases hq : q x <;> simp_all <;> omega

theorem putL_len (ls : List Lk) (l : Lk) : (putLk ls l).length ≤ ls.length + 1 := by
  have h := filter_two (p := fun x => aheadB x l) (q := fun x => aheadB l x) (fun x h1 h2 => by
    simp only [aheadB_iff] at h1 h2; omega) ls
  unfold putLk
  simp only [List.length_append, List.length_cons, List.length_nil]
  omega

theorem putT_len (ls : List Th) (l : Th) : (putT ls l).length ≤ ls.length + 1 := by
  have h := filter_two (p := fun x => thingB x l) (q := fun x => thingB l x) (fun x h1 h2 => by
    simp only [thingB_iff] at h1 h2; omega) ls
  unfold putT
  simp only [List.length_append, List.length_cons, List.length_nil]
  omega

theorem right_putL {n : Int} {ls : List Lk} {l : Lk} (h : RightL n ls) (hl : linkOkB n l = true) : RightL n (putLk ls l) := by
  refine ⟨?_, ?_⟩
  · intro x hx
    simp only [putLk, List.mem_append, List.mem_filter, List.mem_cons, List.not_mem_nil, or_false] at hx
    rcases hx with (⟨h1, _⟩ | rfl) | ⟨h1, _⟩
    · exact h.1 x h1
    · exact hl
    · exact h.1 x h1
  · unfold putLk
    refine List.pairwise_append.2 ⟨List.pairwise_append.2 ⟨h.2.filter _, List.pairwise_singleton _ _, ?_⟩, h.2.filter _, ?_⟩
    · intro x hx y hy
      simp only [List.mem_filter, List.mem_cons, List.not_mem_nil, or_false] at hx hy
      rw [hy]; exact hx.2
    · intro x hx y hy
      simp only [List.mem_append, List.mem_filter, List.mem_cons, List.not_mem_nil, or_false] at hx hy
      rcases hx with ⟨_, h1⟩ | rfl
      · have h2 := hy.2
        simp only [aheadB_iff] at h1 h2 ⊢
        omega
      · exact hy.2

theorem right_putT {n : Int} {ls : List Th} {l : Th} (h : RightT n ls) (hl : thOkB n l = true) : RightT n (putT ls l) := by
  refine ⟨?_, ?_⟩
  · intro x hx
    simp only [putT, List.mem_append, List.mem_filter, List.mem_cons, List.not_mem_nil, or_false] at hx
    rcases hx with (⟨h1, _⟩ | rfl) | ⟨h1, _⟩
    · exact h.1 x h1
    · exact hl
    · exact h.1 x h1
  · unfold putT
    refine List.pairwise_append.2 ⟨List.pairwise_append.2 ⟨h.2.filter _, List.pairwise_singleton _ _, ?_⟩, h.2.filter _, ?_⟩
    · intro x hx y hy
      simp only [List.mem_filter, List.mem_cons, List.not_mem_nil, or_false] at hx hy
      rw [hy]; exact hx.2
    · intro x hx y hy
      simp only [List.mem_append, List.mem_filter, List.mem_cons, List.not_mem_nil, or_false] at hx hy
      rcases hx with ⟨_, h1⟩ | rfl
      · have h2 := hy.2
        simp only [thingB_iff] at h1 h2 ⊢
        omega
      · exact hy.2

theorem allOk_of {α : Type} {ok : α → Bool} {ls : List α} (h : ∀ x ∈ ls, ok x = true) : allOk ok ls = true := all_true fun j hj => by
  rw [okAt_eq (List.getElem?_eq_getElem hj)]
  exact h _ (List.getElem_mem hj)

theorem ascB_of {α : Type} {ord : α → α → Int} {ls : List α} (h : ls.Pairwise (fun x y => ord x y < 0)) : ascB ord ls = true := all_true fun j hj => by
  match j, hj with
  | 0, _ => rfl
  | j + 1, hj =>
    rw [ascAt_eq (List.getElem?_eq_getElem (by omega)) (List.getElem?_eq_getElem hj)]
    exact decide_eq_true (List.pairwise_iff_getElem.1 h j (j + 1) (by omega) hj (by omega))

theorem linksB_of {n : Int} {ls : List Lk} (h : RightL n ls) (hl : ls.length ≤ 12) : linksB n ls = true := by
  unfold linksB
  rw [decide_eq_true hl, allOk_of h.1, ascB_of (h.2.imp fun hxy => by rw [aheadB_eq] at hxy; exact of_decide_eq_true hxy)]
  rfl

theorem thingsB_of {n : Int} {ls : List Th} (h : RightT n ls) (hl : ls.length ≤ 4) : thingsB n ls = true := by
  unfold thingsB
  rw [decide_eq_true hl, allOk_of h.1, ascB_of (h.2.imp fun hxy => by rw [thingB_eq] at hxy; exact of_decide_eq_true hxy)]
  rfl

theorem inB_of {x a b : Int} (h1 : a ≤ x) (h2 : x ≤ b) : inB x a b = true := by simp [inB, h1, h2]

theorem linkOk_of {n a b c r : Int} (hn : 1 ≤ n ∧ n ≤ 6) (ha : 1 ≤ a) (hab : a < b) (hb : b ≤ n) (hc : 1 ≤ c ∧ c ≤ 1000) (hr : 0 ≤ r ∧ r ≤ 2) : linkOkB n ⟨a, b, c, r⟩ = true := by
  unfold linkOkB
  simp only []
  rw [inB_of hn.1 hn.2, inB_of ha (by omega), inB_of (by omega) hb, inB_of hc.1 hc.2, inB_of hr.1 hr.2, decide_eq_true hab]
  rfl

theorem thOk_of {n o k c : Int} {f : Bool} (ho : 1 ≤ o ∧ o ≤ n) (hk : 1 ≤ k ∧ k ≤ 9) (hc : 1 ≤ c ∧ c ≤ 1000) : thOkB n ⟨o, k, c, f⟩ = true := by
  unfold thOkB
  simp only []
  rw [inB_of ho.1 ho.2, inB_of hk.1 hk.2, inB_of hc.1 hc.2]
  rfl

/-- a net under way: its box in block z, the result's cell in block B0, the cursor in block p -/
structure NetSt (w wr : World) (p B0 z : Nat) (a : Option Addr) (len cap : Nat) (N : Int) (v1 v2 : Value) (ls : List Lk) (ts : List Th) : Prop where
  cur : Cur wr p a len cap
  bel : Below p w wr
  new : w.heap.size ≤ B0
  gro : w.grownBy wr (some p)
  box : wr.heap[z]? = some (.cells #[.int .i64 N, v1, v2] 27)
  res : wr.heap[B0]? = some (.cells #[.int .i64 0, .slice none 0 0, .slice none 0 0] 27)
  o1 : wr.ownsRow (z + 1) 91 4 v1 ls.length (flat lkE ls)
  o2 : wr.ownsRow (z + 1) 61 4 v2 ts.length (flat thE ts)

theorem kept_otherN {w w' : World} {base size p : Nat} {e : TypeId} {v : Value} {n : Nat} {xs : List Value} (h : w.ownsRow base e size v n xs) (hg : w.grownBy w' (some p)) (hp : p < base) : w'.ownsRow base e size v n xs := h.kept hg (by
  rcases h.2 with ⟨e, _⟩ | ⟨g, cp, cur, e, hb, _⟩
  · exact .inl (by rw [e]; rfl)
  · refine .inr ?_
    rw [e]
    intro h
    simp [Value.ownBlock] at h
    omega)

theorem grown_of_belowN {w w' : World} (hb : Below w.heap.size w w') : w.grownBy w' none := ⟨hb.os, hb.tape, hb.output, hb.size, fun k hk _ => hb.block k hk⟩

section
variable {w wr w' : World} {p B0 z : Nat} {a : Option Addr} {len cap : Nat} {N : Int} {v1 v2 : Value} {ls : List Lk} {ts : List Th}

theorem NetSt.grown (h : NetSt w wr p B0 z a len cap N v1 v2 ls ts) (hc : Cur w' p a len cap) (hg : wr.grownBy w' (some p)) (hp : p < B0) (hz : B0 < z) : NetSt w w' p B0 z a len cap N v1 v2 ls ts where
  cur := hc
  bel := h.bel.grown hg (by have := lt_of_cur h.cur; omega) (fun k hk => by simp at hk; omega)
  new := h.new
  gro := grown_trans h.gro hg
  box := by rw [hg.block z (lt_of_heap h.box) (by simp; omega)]; exact h.box
  res := by rw [hg.block B0 (lt_of_heap h.res) (by simp; omega)]; exact h.res
  o1 := kept_otherN h.o1 hg (by omega)
  o2 := kept_otherN h.o2 hg (by omega)

theorem NetSt.below (h : NetSt w wr p B0 z a len cap N v1 v2 ls ts) (hb : Below wr.heap.size wr w') : NetSt w w' p B0 z a len cap N v1 v2 ls ts where
  cur := h.cur.grown (grown_of_belowN hb) (fun b _ => by simp)
  bel := h.bel.trans (hb.mono (by have := lt_of_cur h.cur; omega))
  new := h.new
  gro := grown_trans h.gro ⟨hb.os, hb.tape, hb.output, hb.size, fun k hk _ => hb.block k hk⟩
  box := by rw [hb.block z (lt_of_heap h.box)]; exact h.box
  res := by rw [hb.block B0 (lt_of_heap h.res)]; exact h.res
  o1 := owns_below h.o1 hb (Nat.le_refl _)
  o2 := owns_below h.o2 hb (Nat.le_refl _)

theorem NetSt.alloc (h : NetSt w wr p B0 z a len cap N v1 v2 ls ts) (o : Obj) : NetSt w (wr.alloc o) p B0 z a len cap N v1 v2 ls ts := h.below ((Below.refl _ _).alloc (Nat.le_refl _) _)

theorem NetSt.put1 (h : NetSt w wr p B0 z a len cap N v1 v2 ls ts) (hb : Below wr.heap.size wr w') {v' : Value} {ls' : List Lk} (ho : w'.ownsRow (wr.heap.size + 1) 91 4 v' ls'.length (flat lkE ls')) (hp : p < B0) (hz : B0 < z) : NetSt w (w'.setCell ⟨z, 1, none⟩ v') p B0 z a len cap N v' v2 ls' ts :=
  have h2 := h.below hb
  have hzl := lt_of_heap h.box
  { cur := h2.cur.grown (grown_set w' z 1 v') (fun b hb => by simp; omega)
    bel := h2.bel.setCell (by show p ≤ z; omega) _
    new := h.new
    gro := ⟨h2.gro.os, h2.gro.tape, h2.gro.output, by have := h2.gro.size; simpa using this, fun b hb hne => by rw [heap_setCell_other w' ⟨z, 1, none⟩ _ _ (by show b ≠ z; have := h.new; omega)]; exact h2.gro.block b hb hne⟩
    box := heap_setCell_same _ _ 1 _ _ v' h2.box
    res := by rw [heap_setCell_other w' ⟨z, 1, none⟩ _ _ (by show B0 ≠ z; omega)]; exact h2.res
    o1 := owns_set (owns_baseS ho (by omega)) (by omega)
    o2 := owns_set h2.o2 (by omega) }

theorem NetSt.put2 (h : NetSt w wr p B0 z a len cap N v1 v2 ls ts) (hb : Below wr.heap.size wr w') {v' : Value} {ts' : List Th} (ho : w'.ownsRow (wr.heap.size + 1) 61 4 v' ts'.length (flat thE ts')) (hp : p < B0) (hz : B0 < z) : NetSt w (w'.setCell ⟨z, 2, none⟩ v') p B0 z a len cap N v1 v' ls ts' :=
  have h2 := h.below hb
  have hzl := lt_of_heap h.box
  { cur := h2.cur.grown (grown_set w' z 2 v') (fun b hb => by simp; omega)
    bel := h2.bel.setCell (by show p ≤ z; omega) _
    new := h.new
    gro := ⟨h2.gro.os, h2.gro.tape, h2.gro.output, by have := h2.gro.size; simpa using this, fun b hb hne => by rw [heap_setCell_other w' ⟨z, 2, none⟩ _ _ (by show b ≠ z; have := h.new; omega)]; exact h2.gro.block b hb hne⟩
    box := heap_setCell_same _ _ 2 _ _ v' h2.box
    res := by rw [heap_setCell_other w' ⟨z, 2, none⟩ _ _ (by show B0 ≠ z; omega)]; exact h2.res
    o1 := owns_set h2.o1 (by omega)
    o2 := owns_set (owns_baseS ho (by omega)) (by omega) }

theorem NetSt.c0 (h : NetSt w wr p B0 z a len cap N v1 v2 ls ts) : wr.cell? ⟨z, 0, none⟩ = some (.int .i64 N) := by rw [cells_at h.box]; rfl

theorem NetSt.c1 (h : NetSt w wr p B0 z a len cap N v1 v2 ls ts) : wr.cell? ⟨z, 1, none⟩ = some v1 := by rw [cells_at h.box]; rfl

theorem NetSt.c2 (h : NetSt w wr p B0 z a len cap N v1 v2 ls ts) : wr.cell? ⟨z, 2, none⟩ = some v2 := by rw [cells_at h.box]; rfl

theorem NetSt.drew (h : NetSt w wr p B0 z a len cap N v1 v2 ls ts) : NetSt w wr.drew p B0 z a len cap N v1 v2 ls ts := h.below (Below.refl _ _).drew
end
end Go.Proofs.Ytbknmgobmnjphaa
