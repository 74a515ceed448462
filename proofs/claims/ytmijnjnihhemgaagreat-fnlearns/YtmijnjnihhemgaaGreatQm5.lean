/-
  Right nets: lists that ascend; a net under way while it is drawn.
  spec.l03Net: some right net.
  Rows of truths.
  spec.DrawRightNet: some right net.
  What a node hears, as pairs of nodes and areas: the mathematics.
  What a drawn node hears, pair by pair: the mathematics.
  Rows of ints that a call made.
  laws.eqIntS, markIntS, heldIntS, toIntS, szIntS: their contracts (IntRow2 without nets).
  Nears (two numbers) as values and in rows; laws.toNear, eqNear, toNearS, eqNearS, szNearS.
  Records as values; laws.toRecord, eqRecord, szRecord.
  laws.markNearS, heldNearS, markRecord, heldRecord: only the row's own memory turns; what was marked is held.
-/
import Derived.Test.YtmijnjnihhemgaaGreatQm2
import Derived.Test.YtmijnjnihhemgaaGreatQm4
import Derived.Test.YtmijnjnihhemgaaGreatQm1
import Derived.Maps.AppendAt
import Derived.Test.YtmijnjnihhemgaaGreatQm3
import Derived.Deep.QuietTactic
import Derived.BigQuiet
import Derived.WalkSmall
import Derived.Deep.RegionHeld3
namespace Go.Proofs.YtmijnjnihhemgaaGreat
open Go.RowKit

theorem aheadB_iff (a b : Lk) : aheadB a b = true ↔ (a.a < b.a ∨ (a.a = b.a ∧ (a.b < b.b ∨ (a.b = b.b ∧ a.r < b.r)))) := by
 simp [aheadB]

theorem thingB_iff (a b : Th) : thingB a b = true ↔ (a.k < b.k ∨ (a.k = b.k ∧ a.o < b.o)) := by
 simp [thingB]

def RightL (n : Int) (ls : List Lk) : Prop := (∀ x ∈ ls, linkOkB n x = true) ∧ ls.Pairwise (fun x y => aheadB x y = true)

def RightT (n : Int) (ts : List Th) : Prop := (∀ x ∈ ts, thOkB n x = true) ∧ ts.Pairwise (fun x y => thingB x y = true)

theorem filter_two {α : Type} {p q : α → Bool} (h : ∀ x, p x = true → q x = true → False) : ∀ ls : List α, (ls.filter p).length + (ls.filter q).length ≤ ls.length
 | [] => by simp
 | x :: xs => by
  have ih := filter_two h xs
  have hx := h x
  cases hp : p x <;> cases hq : q x <;> simp_all <;> omega

theorem putL_len (ls : List Lk) (l : Lk) : (putLk ls l).length ≤ ls.length + 1 := by
 have h := filter_two (p := fun x => aheadB x l) (q := fun x => aheadB l x) (fun x h1 h2 => by
  simp only [aheadB_iff] at h1 h2; omega) ls
 unfold putLk
 simp only [List.length_append, List.length_cons, List.length_nil]
 omega

theorem putT_len (ls : List Th) (l : Th) : (putT ls l).length ≤ ls.length + 1 := by
 have h := filter_two (p := fun x => thingB x l) (q := fun x => thingB l x) (fun x h1 h2 => by
  simp only [thingB_iff] at h1 h2; omega) ls
 unfold putT
 simp only [List.length_append, List.length_cons, List.length_nil]
 omega

theorem right_putL {n : Int} {ls : List Lk} {l : Lk} (h : RightL n ls) (hl : linkOkB n l = true) : RightL n (putLk ls l) := by
 refine ⟨?_, ?_⟩
 ·intro x hx
  simp only [putLk, List.mem_append, List.mem_filter, List.mem_cons, List.not_mem_nil, or_false] at hx
  rcases hx with (⟨h1, _⟩ | rfl) | ⟨h1, _⟩
  ·exact h.1 x h1
  ·exact hl
  ·exact h.1 x h1
 ·unfold putLk
  refine List.pairwise_append.2 ⟨List.pairwise_append.2 ⟨h.2.filter _, List.pairwise_singleton _ _, ?_⟩, h.2.filter _, ?_⟩
  ·intro x hx y hy
   simp only [List.mem_filter, List.mem_cons, List.not_mem_nil, or_false] at hx hy
   rw [hy]; exact hx.2
  ·intro x hx y hy
   simp only [List.mem_append, List.mem_filter, List.mem_cons, List.not_mem_nil, or_false] at hx hy
   rcases hx with ⟨_, h1⟩ | rfl
   ·have h2 := hy.2
    simp only [aheadB_iff] at h1 h2 ⊢
    omega
   ·exact hy.2

theorem right_putT {n : Int} {ls : List Th} {l : Th} (h : RightT n ls) (hl : thOkB n l = true) : RightT n (putT ls l) := by
 refine ⟨?_, ?_⟩
 ·intro x hx
  simp only [putT, List.mem_append, List.mem_filter, List.mem_cons, List.not_mem_nil, or_false] at hx
  rcases hx with (⟨h1, _⟩ | rfl) | ⟨h1, _⟩
  ·exact h.1 x h1
  ·exact hl
  ·exact h.1 x h1
 ·unfold putT
  refine List.pairwise_append.2 ⟨List.pairwise_append.2 ⟨h.2.filter _, List.pairwise_singleton _ _, ?_⟩, h.2.filter _, ?_⟩
  ·intro x hx y hy
   simp only [List.mem_filter, List.mem_cons, List.not_mem_nil, or_false] at hx hy
   rw [hy]; exact hx.2
  ·intro x hx y hy
   simp only [List.mem_append, List.mem_filter, List.mem_cons, List.not_mem_nil, or_false] at hx hy
   rcases hx with ⟨_, h1⟩ | rfl
   ·have h2 := hy.2
    simp only [thingB_iff] at h1 h2 ⊢
    omega
   ·exact hy.2

theorem allOk_of {α : Type} {ok : α → Bool} {ls : List α} (h : ∀ x ∈ ls, ok x = true) : allOk ok ls = true := all_true fun j hj => by
 rw [okAt_eq (List.getElem?_eq_getElem hj)]
 exact h _ (List.getElem_mem hj)

theorem ascB_of {α : Type} {ord : α → α → Int} {ls : List α} (h : ls.Pairwise (fun x y => ord x y < 0)) : ascB ord ls = true := all_true fun j hj => by
 match j, hj with
 | 0, _ => rfl
 | j + 1, hj =>
  rw [ascAt_eq (List.getElem?_eq_getElem (by omega)) (List.getElem?_eq_getElem hj)]
  exact decide_eq_true (List.pairwise_iff_getElem.1 h j (j + 1) (by omega) hj (by omega))

theorem linksB_of {n : Int} {ls : List Lk} (h : RightL n ls) (hl : ls.length ≤ 12) : linksB n ls = true := by
 unfold linksB
 rw [decide_eq_true hl, allOk_of h.1, ascB_of (h.2.imp fun hxy => by rw [aheadB_eq] at hxy; exact of_decide_eq_true hxy)]
 rfl

theorem thingsB_of {n : Int} {ls : List Th} (h : RightT n ls) (hl : ls.length ≤ 4) : thingsB n ls = true := by
 unfold thingsB
 rw [decide_eq_true hl, allOk_of h.1, ascB_of (h.2.imp fun hxy => by rw [thingB_eq] at hxy; exact of_decide_eq_true hxy)]
 rfl

theorem inB_of {x a b : Int} (h1 : a ≤ x) (h2 : x ≤ b) : inB x a b = true := by simp [inB, h1, h2]

theorem linkOk_of {n a b c r : Int} (hn : 1 ≤ n ∧ n ≤ 6) (ha : 1 ≤ a) (hab : a < b) (hb : b ≤ n) (hc : 1 ≤ c ∧ c ≤ 1000) (hr : 0 ≤ r ∧ r ≤ 2) : linkOkB n ⟨a, b, c, r⟩ = true := by
 unfold linkOkB
 simp only []
 rw [inB_of hn.1 hn.2, inB_of ha (by omega), inB_of (by omega) hb, inB_of hc.1 hc.2, inB_of hr.1 hr.2, decide_eq_true hab]
 rfl

theorem thOk_of {n o k c : Int} {f : Bool} (ho : 1 ≤ o ∧ o ≤ n) (hk : 1 ≤ k ∧ k ≤ 9) (hc : 1 ≤ c ∧ c ≤ 1000) : thOkB n ⟨o, k, c, f⟩ = true := by
 unfold thOkB
 simp only []
 rw [inB_of ho.1 ho.2, inB_of hk.1 hk.2, inB_of hc.1 hc.2]
 rfl

structure NetSt (w wr : World) (p B0 z : Nat) (a : Option Addr) (len cap : Nat) (N : Int) (v1 v2 : Value) (ls : List Lk) (ts : List Th) : Prop where
 cur : Cur wr p a len cap
 bel : Below p w wr
 new : w.heap.size ≤ B0
 gro : w.grownBy wr (some p)
 box : wr.heap[z]? = some (.cells #[.int .i64 N, v1, v2] 27)
 res : wr.heap[B0]? = some (.cells #[.int .i64 0, .slice none 0 0, .slice none 0 0] 27)
 o1 : wr.ownsRow (z + 1) 83 4 v1 ls.length (flat lkE ls)
 o2 : wr.ownsRow (z + 1) 87 4 v2 ts.length (flat thE ts)

theorem kept_otherN {w w' : World} {base size p : Nat} {e : TypeId} {v : Value} {n : Nat} {xs : List Value} (h : w.ownsRow base e size v n xs) (hg : w.grownBy w' (some p)) (hp : p < base) : w'.ownsRow base e size v n xs := h.kept hg (by
 rcases h.2 with ⟨e, _⟩ | ⟨g, cp, cur, e, hb, _⟩
 ·exact .inl (by rw [e]; rfl)
 ·refine .inr ?_
  rw [e]
  intro h
  simp [Value.ownBlock] at h
  omega)

theorem grown_of_belowN {w w' : World} (hb : Below w.heap.size w w') : w.grownBy w' none := ⟨hb.os, hb.tape, hb.output, hb.size, fun k hk _ => hb.block k hk⟩

section
variable {w wr w' : World} {p B0 z : Nat} {a : Option Addr} {len cap : Nat} {N : Int} {v1 v2 : Value} {ls : List Lk} {ts : List Th}

theorem NetSt.grown (h : NetSt w wr p B0 z a len cap N v1 v2 ls ts) (hc : Cur w' p a len cap) (hg : wr.grownBy w' (some p)) (hp : p < B0) (hz : B0 < z) : NetSt w w' p B0 z a len cap N v1 v2 ls ts where
 cur := hc
 bel := h.bel.grown hg (by have := lt_of_cur h.cur; omega) (fun k hk => by simp at hk; omega)
 new := h.new
 gro := grown_trans h.gro hg
 box := by rw [hg.block z (lt_of_heap h.box) (by simp; omega)]; exact h.box
 res := by rw [hg.block B0 (lt_of_heap h.res) (by simp; omega)]; exact h.res
 o1 := kept_otherN h.o1 hg (by omega)
 o2 := kept_otherN h.o2 hg (by omega)

theorem NetSt.below (h : NetSt w wr p B0 z a len cap N v1 v2 ls ts) (hb : Below wr.heap.size wr w') : NetSt w w' p B0 z a len cap N v1 v2 ls ts where
 cur := h.cur.grown (grown_of_belowN hb) (fun b _ => by simp)
 bel := h.bel.trans (hb.mono (by have := lt_of_cur h.cur; omega))
 new := h.new
 gro := grown_trans h.gro ⟨hb.os, hb.tape, hb.output, hb.size, fun k hk _ => hb.block k hk⟩
 box := by rw [hb.block z (lt_of_heap h.box)]; exact h.box
 res := by rw [hb.block B0 (lt_of_heap h.res)]; exact h.res
 o1 := owns_below h.o1 hb (Nat.le_refl _)
 o2 := owns_below h.o2 hb (Nat.le_refl _)

theorem NetSt.alloc (h : NetSt w wr p B0 z a len cap N v1 v2 ls ts) (o : Obj) : NetSt w (wr.alloc o) p B0 z a len cap N v1 v2 ls ts := h.below ((Below.refl _ _).alloc (Nat.le_refl _) _)

theorem NetSt.put1 (h : NetSt w wr p B0 z a len cap N v1 v2 ls ts) (hb : Below wr.heap.size wr w') {v' : Value} {ls' : List Lk} (ho : w'.ownsRow (wr.heap.size + 1) 83 4 v' ls'.length (flat lkE ls')) (hp : p < B0) (hz : B0 < z) : NetSt w (w'.setCell ⟨z, 1, none⟩ v') p B0 z a len cap N v' v2 ls' ts :=
 have h2 := h.below hb
 have hzl := lt_of_heap h.box
 {cur := h2.cur.grown (grown_set w' z 1 v') (fun b hb => by simp; omega)
  bel := h2.bel.setCell (by show p ≤ z; omega) _
  new := h.new
  gro := ⟨h2.gro.os, h2.gro.tape, h2.gro.output, by have := h2.gro.size; simpa using this, fun b hb hne => by rw [heap_setCell_other w' ⟨z, 1, none⟩ _ _ (by show b ≠ z; have := h.new; omega)]; exact h2.gro.block b hb hne⟩
  box := heap_setCell_same _ _ 1 _ _ v' h2.box
  res := by rw [heap_setCell_other w' ⟨z, 1, none⟩ _ _ (by show B0 ≠ z; omega)]; exact h2.res
  o1 := owns_set (owns_baseS ho (by omega)) (by omega)
  o2 := owns_set h2.o2 (by omega) }

theorem NetSt.put2 (h : NetSt w wr p B0 z a len cap N v1 v2 ls ts) (hb : Below wr.heap.size wr w') {v' : Value} {ts' : List Th} (ho : w'.ownsRow (wr.heap.size + 1) 87 4 v' ts'.length (flat thE ts')) (hp : p < B0) (hz : B0 < z) : NetSt w (w'.setCell ⟨z, 2, none⟩ v') p B0 z a len cap N v1 v' ls ts' :=
 have h2 := h.below hb
 have hzl := lt_of_heap h.box
 {cur := h2.cur.grown (grown_set w' z 2 v') (fun b hb => by simp; omega)
  bel := h2.bel.setCell (by show p ≤ z; omega) _
  new := h.new
  gro := ⟨h2.gro.os, h2.gro.tape, h2.gro.output, by have := h2.gro.size; simpa using this, fun b hb hne => by rw [heap_setCell_other w' ⟨z, 2, none⟩ _ _ (by show b ≠ z; have := h.new; omega)]; exact h2.gro.block b hb hne⟩
  box := heap_setCell_same _ _ 2 _ _ v' h2.box
  res := by rw [heap_setCell_other w' ⟨z, 2, none⟩ _ _ (by show B0 ≠ z; omega)]; exact h2.res
  o1 := owns_set h2.o1 (by omega)
  o2 := owns_set (owns_baseS ho (by omega)) (by omega) }

theorem NetSt.c0 (h : NetSt w wr p B0 z a len cap N v1 v2 ls ts) : wr.cell? ⟨z, 0, none⟩ = some (.int .i64 N) := by rw [cells_at h.box]; rfl

theorem NetSt.c1 (h : NetSt w wr p B0 z a len cap N v1 v2 ls ts) : wr.cell? ⟨z, 1, none⟩ = some v1 := by rw [cells_at h.box]; rfl

theorem NetSt.c2 (h : NetSt w wr p B0 z a len cap N v1 v2 ls ts) : wr.cell? ⟨z, 2, none⟩ = some v2 := by rw [cells_at h.box]; rfl

theorem NetSt.drew (h : NetSt w wr p B0 z a len cap N v1 v2 ls ts) : NetSt w wr.drew p B0 z a len cap N v1 v2 ls ts := h.below (Below.refl _ _).drew
end
end Go.Proofs.YtmijnjnihhemgaaGreat
namespace Go.Proofs.YtmijnjnihhemgaaGreat
open Go.RowKit
set_option linter.unusedSimpArgs false
set_option linter.unusedVariables false
set_option maxRecDepth 100000
set_option maxHeartbeats 8000000
theorem four_cells (w : World) : ∀ k, k < 4 → ∃ z : Int, (0 ≤ z ∧ z ≤ 2) ∧ (w.alloc (.cells #[.int .i64 0, .int .i64 0, .int .i64 1, .int .i64 2] 3)).cell? ⟨w.heap.size, k, none⟩ = some (.int .i64 z) := by
 intro k hk
 have h := cells_at (heap_alloc_new w (.cells #[.int .i64 0, .int .i64 0, .int .i64 1, .int .i64 2] 3)) k
 match k, hk with
 | 0, _ => exact ⟨0, by omega, h⟩
 | 1, _ => exact ⟨0, by omega, h⟩
 | 2, _ => exact ⟨1, by omega, h⟩
 | 3, _ => exact ⟨2, by omega, h⟩
theorem net_fine (p : Nat) (a : Option Addr) (len cap : Nat) (w : World) (hc : Cur w p a len cap) :
  Calls Tryz.prog 92 #[.pointer (some ⟨p, 0, none⟩)] w fun e w' => ∃ (x : NetD) (v1 v2 : Value), e = .returned (.agg #[.int .i64 x.n, v1, v2]) ∧ netOkI x = true ∧ w'.ownsRow w.heap.size 83 4 v1 x.ls.length (flat lkE x.ls) ∧ w'.ownsRow w.heap.size 87 4 v2 x.ts.length (flat thE x.ts) ∧ Cur w' p a len cap ∧ Below p w w' ∧ w.grownBy w' (some p) := by
 have hp := lt_of_cur hc
 have HC := hide hc
 clear hc
 go_enter Tryz.func92, Tryz.ntmps92
 go_wp2_with fail
 refine (below_any p a len cap 4 _ (cur_alloc HC.out _) (by omega) (by omega)).mono ?_
 rintro e w1 ⟨y0, rfl, hy0, hy1, hc1, hg1⟩
 have hsz1 : w.heap.size < w1.heap.size := by have := hg1.size; simp at this; omega
 have st0 : NetSt w (w1.alloc (.cells #[.int .i64 (2 + y0), .slice none 0 0, .slice none 0 0] 27)) p w.heap.size w1.heap.size a len cap (2 + y0) (.slice none 0 0) (.slice none 0 0) [] [] :=
  {cur := cur_alloc hc1 _
   bel := (((Below.refl p w).alloc (by omega) _).grown hg1 (by simp; omega) (fun k hk => by simp at hk; omega)).alloc (by omega) _
   new := Nat.le_refl _
   gro := grown_trans (grown_trans (World.grownBy_alloc w _ _) hg1) (World.grownBy_alloc w1 _ _)
   box := heap_alloc_new w1 _
   res := by
    rw [Below.heap_alloc _ _ _ hsz1, hg1.block _ (by simp) (by simp; omega)]
    exact heap_alloc_new w _
   o1 := ⟨by simp [flat], .inl ⟨rfl, rfl⟩⟩
   o2 := ⟨by simp [flat], .inl ⟨rfl, rfl⟩⟩ }
 have ST0 := hide st0
 clear hc1 hg1 st0 HC
 go_wp2
 go_loopw [4] (fun i wr => ∃ (k : Nat) (v1 : Value) (ls : List Lk), k ≤ 7 ∧ i = .int .i64 k ∧ NetSt w wr p w.heap.size w1.heap.size a len cap (2 + y0) v1 (.slice none 0 0) ls [] ∧ RightL (2 + y0) ls ∧ ls.length ≤ 12) (fun i _ => 8 - (intOf i).toNat)
 case atStart => exact ⟨0, _, [], by omega, rfl, ST0.out, ⟨fun x hx => by simp at hx, List.Pairwise.nil⟩, by simp⟩
 case round =>
  clear ST0
  obtain ⟨k, v1, ls, hk, rfl, st, hr, hll⟩ := hrel
  obtain ⟨b1, c1, rfl⟩ := LinksAt.shape (owns_rowAt st.o1)
  have g0 := cells_at st.box 0
  simp at g0
  have STD := hide st.drew
  have HR := hide hr
  clear hr st
  go_wp2
  go_region_held3 (fun W => W.cell? ⟨w1.heap.size, 0, none⟩ = some (.int .i64 (2 + y0))) (first | go_keep | exact hg2.cell (by assumption) (by simp; omega)) (first | (go_at_call 72; refine (below_any p a len cap 3 _ STD.out.cur ?_ ?_).mono ?_; omega; omega; rintro e w2 ⟨y, rfl, hy2, hy3, hc2, hg2⟩))
  have st2 := STD.out.grown hc2 hg2 hp hsz1
  have ST2 := hide st2
  have s0 := cells_at st2.box 0
  simp at s0
  clear hc2 hg2 st2 STD g0
  rw [show IntKind.i64.wrap (2 + y0 + y) = 2 + y0 + y from wrap_fit _ (by omega) (by omega)]
  by_cases hcond : (k : Int) < 2 + y0 + y
  case neg =>
   have wo : World := wr
   go_wp2
   clear hcond hk
   go_loopw [8] (fun i wr => ∃ (k : Nat) (v2 : Value) (ts : List Th), k ≤ 2 ∧ i = .int .i64 k ∧ NetSt w wr p w.heap.size w1.heap.size a len cap (2 + y0) (.slice b1 ls.length c1) v2 ls ts ∧ RightT (2 + y0) ts ∧ ts.length ≤ k) (fun i _ => 3 - (intOf i).toNat)
   case atStart => exact ⟨0, _, [], by omega, rfl, ST2.out, ⟨fun x hx => by simp at hx, List.Pairwise.nil⟩, by simp⟩
   case round =>
    clear ST2 s0
    obtain ⟨k, v2, ts, hk, rfl, st, hrt, htl⟩ := hrel
    obtain ⟨b2, c2, rfl⟩ := ThingsAt.shape (owns_rowAt st.o2)
    have ST := hide st
    have HRT := hide hrt
    clear st hrt
    go_wp2_with fail
    refine (below_any p a len cap 3 _ ST.out.cur (by omega) (by omega)).mono ?_
    rintro e w3 ⟨y3, rfl, hy30, hy31, hc3, hg3⟩
    have st3 := ST.out.grown hc3 hg3 hp hsz1
    clear hc3 hg3 ST
    have e0 := st3.c0
    have e1 := st3.c1
    have e2 := st3.c2
    by_cases hcond : (k : Int) < y3
    ·have hk1 : k ≤ 1 := by omega
     have st4 := st3.drew
     have d0 := st4.c0
     have d2 := st4.c2
     clear st3 e0 e1 e2
     go_wp2
     go_region_with (first | (go_at_call 72; refine (below_any p a len cap _ _ (show NetSt w _ p w.heap.size w1.heap.size a len cap (2 + y0) (.slice b1 ls.length c1) (.slice b2 ts.length c2) ls ts from by assumption).cur ?_ ?_).mono ?_; omega; omega; rintro e wx ⟨yy, rfl, hh0, hh1, hcc, hgg⟩; have hwr : IntKind.i64.wrap (1 + yy) = 1 + yy := wrap_fit _ (by omega) (by omega); have stx := (show NetSt w _ p w.heap.size w1.heap.size a len cap (2 + y0) (.slice b1 ls.length c1) (.slice b2 ts.length c2) ls ts from by assumption).grown hcc hgg hp hsz1; have ex0 := stx.c0; have ex2 := stx.c2; clear hcc hgg) | (go_at_call 93; refine (once_any p a len cap _ _ (show NetSt w _ p w.heap.size w1.heap.size a len cap (2 + y0) (.slice b1 ls.length c1) (.slice b2 ts.length c2) ls ts from by assumption).cur ?_ ?_).mono ?_; omega; omega; rintro e wx ⟨ff, rfl, hcc, hgg⟩; have stx := (show NetSt w _ p w.heap.size w1.heap.size a len cap (2 + y0) (.slice b1 ls.length c1) (.slice b2 ts.length c2) ls ts from by assumption).grown hcc hgg hp hsz1; have ex0 := stx.c0; have ex2 := stx.c2; clear hcc hgg) | (go_at_call 163; refine (putT_any _ ts ⟨_, _, _, _⟩ _ ?_ (owns_rowAt (show NetSt w _ p w.heap.size w1.heap.size a len cap (2 + y0) (.slice b1 ls.length c1) (.slice b2 ts.length c2) ls ts from by assumption).o2)).mono ?_; omega; rintro e wy ⟨vv, rfl, oy, hby⟩; obtain ⟨b3, c3, rfl⟩ := ThingsAt.shape (owns_rowAt oy); have st8 := (show NetSt w _ p w.heap.size w1.heap.size a len cap (2 + y0) (.slice b1 ls.length c1) (.slice b2 ts.length c2) ls ts from by assumption).below hby; have st9 := (show NetSt w _ p w.heap.size w1.heap.size a len cap (2 + y0) (.slice b1 ls.length c1) (.slice b2 ts.length c2) ls ts from by assumption).put2 hby oy hp hsz1; have ex2 := st8.c2; have fx2 := frozen_at st8.box 2; clear oy hby st8))
     all_goals go_wp2
     all_goals exact ⟨⟨k + 1, _, _, by omega, by go_num, st9, right_putT HRT.out (thOk_of ⟨by omega, by omega⟩ ⟨by omega, by omega⟩ ⟨by omega, by omega⟩), Nat.le_trans (putT_len ts _) (by omega)⟩, by simp [intOf]; omega⟩
    ·have r0 := cells_at st3.res 0
     have r1 := cells_at st3.res 1
     have r2 := cells_at st3.res 2
     have f0 := frozen_at st3.res 0
     have f1 := frozen_at st3.res 1
     have f2 := frozen_at st3.res 2
     simp at r0 r1 r2
     go_wp2
     have hfin : (((w3.setCell ⟨w.heap.size, 0, none⟩ (.int .i64 (2 + y0))).setCell ⟨w.heap.size, 1, none⟩ (.slice b1 ls.length c1)).setCell ⟨w.heap.size, 2, none⟩ (.slice b2 ts.length c2)).heap[w.heap.size]? = some (.cells #[.int .i64 (2 + y0), .slice b1 ls.length c1, .slice b2 ts.length c2] 27) := by
      have k1 := heap_setCell_same _ _ 0 _ _ (.int .i64 (2 + y0)) st3.res
      have k2 := heap_setCell_same _ _ 1 _ _ (.slice b1 ls.length c1) k1
      have k3 := heap_setCell_same _ _ 2 _ _ (.slice b2 ts.length c2) k2
      exact k3
     try simp only [Exit.inBlock, Exit.then]
     refine bodyPost_ret (results_cell_row rfl _ _ w.heap.size 27 #[.int .i64 (2 + y0), .slice b1 ls.length c1, .slice b2 ts.length c2] (0, 0) _ rfl hfin Tryz.underlying27 rfl (by kernel_rfl)) rfl ?_
     refine ⟨⟨2 + y0, ls, ts⟩, _, _, rfl, ?_, ?_, ?_, ?_, ?_, ?_⟩
     ·unfold netOkI
      simp only []
      rw [inB_of (by omega) (by omega), linksB_of HR.out hll, thingsB_of HRT.out (by omega)]
      rfl
     ·exact owns_baseS (owns_set (owns_set (owns_set st3.o1 (by omega)) (by omega)) (by omega)) (by omega)
     ·exact owns_baseS (owns_set (owns_set (owns_set st3.o2 (by omega)) (by omega)) (by omega)) (by omega)
     ·exact ((st3.cur.grown (grown_set _ _ _ _) (fun b hb => by simp; omega)).grown (grown_set _ _ _ _) (fun b hb => by simp; omega)).grown (grown_set _ _ _ _) (fun b hb => by simp; omega)
     ·exact ((st3.bel.setCell (by show p ≤ w.heap.size; omega) _).setCell (by show p ≤ w.heap.size; omega) _).setCell (by show p ≤ w.heap.size; omega) _
     ·refine ⟨st3.gro.os, st3.gro.tape, st3.gro.output, by have := st3.gro.size; simpa using this, fun b hb hne => ?_⟩
      rw [heap_setCell_other _ ⟨w.heap.size, 2, none⟩ _ _ (by show b ≠ w.heap.size; omega), heap_setCell_other _ ⟨w.heap.size, 1, none⟩ _ _ (by show b ≠ w.heap.size; omega), heap_setCell_other _ ⟨w.heap.size, 0, none⟩ _ _ (by show b ≠ w.heap.size; omega)]
      exact st3.gro.block b hb hne
  have hk6 : k ≤ 6 := by omega
  go_wp2_with fail
  refine (below_any p a len cap (2 + y0) _ ST2.out.cur (by omega) (by omega)).mono ?_
  rintro e w3 ⟨x, rfl, hx0, hx1, hc3, hg3⟩
  have st3 := ST2.out.grown hc3 hg3 hp hsz1
  have ST3 := hide st3
  have s0 := cells_at st3.box 0
  simp at s0
  clear hc3 hg3 st3 ST2
  go_wp2_with fail
  refine (below_any p a len cap (2 + y0) _ ST3.out.cur (by omega) (by omega)).mono ?_
  rintro e w4 ⟨x2, rfl, hx2, hx3, hc4, hg4⟩
  have st4 := ST3.out.grown hc4 hg4 hp hsz1
  have ST4 := hide st4
  have s0 := cells_at st4.box 0
  have s1 := cells_at st4.box 1
  simp at s0 s1
  clear hc4 hg4 st4 ST3
  obtain ⟨m, hm⟩ : ∃ m, (1 + x).tmod (2 + y0) = m := ⟨_, rfl⟩
  have hm1 : (1 + x < 2 + y0 ∧ m = 1 + x) ∨ (1 + x = 2 + y0 ∧ m = 0) := by
   rw [← hm, Int.tmod_eq_emod_of_nonneg (by omega)]
   by_cases h : 1 + x < 2 + y0
   ·exact .inl ⟨h, Int.emod_eq_of_lt (by omega) h⟩
   ·have e : 1 + x = 2 + y0 := by omega
    exact .inr ⟨e, by rw [e]; exact Int.emod_self⟩
  have hy00 : ¬ (2 + y0 = 0) := by omega
  go_wp2_with fail
  ·have hab : 1 ≤ (k : Int) + 1 ∧ (k : Int) + 1 < (k : Int) + 2 ∧ (k : Int) + 2 ≤ 2 + y0 := by
    clear ST4 s0 s1 HR
    (try simp only [beq_eq_false_iff_ne, ne_eq, beq_iff_eq] at *)
    omega
   refine (below_any p a len cap 4 _ ST4.out.cur (by omega) (by omega)).mono ?_
   rintro e w5 ⟨c, rfl, hc0, hc9, hc5, hg5⟩
   have st5 := ST4.out.grown hc5 hg5 hp hsz1
   have ST5 := hide st5
   have hp5 := lt_of_cur st5.cur
   clear hc5 hg5 st5 ST4 s0 s1
   go_wp2_with fail
   refine (pickR_any (fun z => 0 ≤ z ∧ z ≤ 2) p a len cap w5.heap.size 4 _ (cur_alloc ST5.out.cur _) (by omega) (by omega) (by omega) (four_cells w5)).mono ?_
   rintro e w6 ⟨r, rfl, ⟨hr0, hr1⟩, hc6, hg6⟩
   have st6 := (ST5.out.alloc _).grown hc6 hg6 hp hsz1
   have ST6 := hide st6
   have s1 := cells_at st6.box 1
   have hbx := lt_of_heap st6.box
   simp at s1
   clear hc6 hg6 st6 ST5
   by_cases h12 : (ls.length : Int) < 12
   ·go_wp2_with fail
    refine (putL_any _ ls ⟨(k : Int) + 1, (k : Int) + 2, 1 + c, r⟩ _ (by omega) (owns_rowAt (ST6.out.alloc _).o1)).mono ?_
    rintro e w7 ⟨v', rfl, o7, b7⟩
    obtain ⟨b2, c2, rfl⟩ := LinksAt.shape (owns_rowAt o7)
    have st7 := (ST6.out.alloc _).put1 b7 o7 hp hsz1
    have t1 := cells_at ((ST6.out.alloc (.cells #[.int .i64 ((k : Int) + 1), .int .i64 ((k : Int) + 2), .int .i64 (1 + c), .int .i64 r] 83)).below b7).box 1
    have f1 := frozen_at ((ST6.out.alloc (.cells #[.int .i64 ((k : Int) + 1), .int .i64 ((k : Int) + 2), .int .i64 (1 + c), .int .i64 r] 83)).below b7).box 1
    simp at t1
    have ST7 := hide st7
    have hr7 := right_putL HR.out (linkOk_of (n := 2 + y0) (c := 1 + c) (r := r) ⟨by omega, by omega⟩ hab.1 hab.2.1 hab.2.2 ⟨by omega, by omega⟩ ⟨hr0, hr1⟩)
    have HR7 := hide hr7
    have hl7 := putL_len ls ⟨(k : Int) + 1, (k : Int) + 2, 1 + c, r⟩
    have HL7 := hide hl7
    clear o7 b7 st7 hr7 hl7 ST6
    go_wp2
    exact ⟨⟨k + 1, _, putLk ls ⟨(k : Int) + 1, (k : Int) + 2, 1 + c, r⟩, by omega, by go_num, ST7.out, HR7.out, by have := HL7.out; omega⟩, by simp [intOf]; omega⟩
   ·go_wp2
    exact ⟨⟨k + 1, _, ls, by omega, by go_num, ST6.out.alloc _, HR.out, hll⟩, by simp [intOf]; omega⟩
  ·have hab : 1 ≤ m + 1 ∧ m + 1 < 1 + x ∧ 1 + x ≤ 2 + y0 := by
    clear ST4 s0 s1 HR
    (try simp only [beq_eq_false_iff_ne, ne_eq, beq_iff_eq] at *)
    omega
   refine (below_any p a len cap 4 _ ST4.out.cur (by omega) (by omega)).mono ?_
   rintro e w5 ⟨c, rfl, hc0, hc9, hc5, hg5⟩
   have st5 := ST4.out.grown hc5 hg5 hp hsz1
   have ST5 := hide st5
   have hp5 := lt_of_cur st5.cur
   clear hc5 hg5 st5 ST4 s0 s1
   go_wp2_with fail
   refine (pickR_any (fun z => 0 ≤ z ∧ z ≤ 2) p a len cap w5.heap.size 4 _ (cur_alloc ST5.out.cur _) (by omega) (by omega) (by omega) (four_cells w5)).mono ?_
   rintro e w6 ⟨r, rfl, ⟨hr0, hr1⟩, hc6, hg6⟩
   have st6 := (ST5.out.alloc _).grown hc6 hg6 hp hsz1
   have ST6 := hide st6
   have s1 := cells_at st6.box 1
   have hbx := lt_of_heap st6.box
   simp at s1
   clear hc6 hg6 st6 ST5
   by_cases h12 : (ls.length : Int) < 12
   ·go_wp2_with fail
    refine (putL_any _ ls ⟨m + 1, 1 + x, 1 + c, r⟩ _ (by omega) (owns_rowAt (ST6.out.alloc _).o1)).mono ?_
    rintro e w7 ⟨v', rfl, o7, b7⟩
    obtain ⟨b2, c2, rfl⟩ := LinksAt.shape (owns_rowAt o7)
    have st7 := (ST6.out.alloc _).put1 b7 o7 hp hsz1
    have t1 := cells_at ((ST6.out.alloc (.cells #[.int .i64 (m + 1), .int .i64 (1 + x), .int .i64 (1 + c), .int .i64 r] 83)).below b7).box 1
    have f1 := frozen_at ((ST6.out.alloc (.cells #[.int .i64 (m + 1), .int .i64 (1 + x), .int .i64 (1 + c), .int .i64 r] 83)).below b7).box 1
    simp at t1
    have ST7 := hide st7
    have hr7 := right_putL HR.out (linkOk_of (n := 2 + y0) (c := 1 + c) (r := r) ⟨by omega, by omega⟩ hab.1 hab.2.1 hab.2.2 ⟨by omega, by omega⟩ ⟨hr0, hr1⟩)
    have HR7 := hide hr7
    have hl7 := putL_len ls ⟨m + 1, 1 + x, 1 + c, r⟩
    have HL7 := hide hl7
    clear o7 b7 st7 hr7 hl7 ST6
    go_wp2
    exact ⟨⟨k + 1, _, putLk ls ⟨m + 1, 1 + x, 1 + c, r⟩, by omega, by go_num, ST7.out, HR7.out, by have := HL7.out; omega⟩, by simp [intOf]; omega⟩
   ·go_wp2
    exact ⟨⟨k + 1, _, ls, by omega, by go_num, ST6.out.alloc _, HR.out, hll⟩, by simp [intOf]; omega⟩
  ·have hab : 1 ≤ 1 + x ∧ 1 + x < m + 1 ∧ m + 1 ≤ 2 + y0 := by
    clear ST4 s0 s1 HR
    (try simp only [beq_eq_false_iff_ne, ne_eq, beq_iff_eq] at *)
    omega
   refine (below_any p a len cap 4 _ ST4.out.cur (by omega) (by omega)).mono ?_
   rintro e w5 ⟨c, rfl, hc0, hc9, hc5, hg5⟩
   have st5 := ST4.out.grown hc5 hg5 hp hsz1
   have ST5 := hide st5
   have hp5 := lt_of_cur st5.cur
   clear hc5 hg5 st5 ST4 s0 s1
   go_wp2_with fail
   refine (pickR_any (fun z => 0 ≤ z ∧ z ≤ 2) p a len cap w5.heap.size 4 _ (cur_alloc ST5.out.cur _) (by omega) (by omega) (by omega) (four_cells w5)).mono ?_
   rintro e w6 ⟨r, rfl, ⟨hr0, hr1⟩, hc6, hg6⟩
   have st6 := (ST5.out.alloc _).grown hc6 hg6 hp hsz1
   have ST6 := hide st6
   have s1 := cells_at st6.box 1
   have hbx := lt_of_heap st6.box
   simp at s1
   clear hc6 hg6 st6 ST5
   by_cases h12 : (ls.length : Int) < 12
   ·go_wp2_with fail
    refine (putL_any _ ls ⟨1 + x, m + 1, 1 + c, r⟩ _ (by omega) (owns_rowAt (ST6.out.alloc _).o1)).mono ?_
    rintro e w7 ⟨v', rfl, o7, b7⟩
    obtain ⟨b2, c2, rfl⟩ := LinksAt.shape (owns_rowAt o7)
    have st7 := (ST6.out.alloc _).put1 b7 o7 hp hsz1
    have t1 := cells_at ((ST6.out.alloc (.cells #[.int .i64 (1 + x), .int .i64 (m + 1), .int .i64 (1 + c), .int .i64 r] 83)).below b7).box 1
    have f1 := frozen_at ((ST6.out.alloc (.cells #[.int .i64 (1 + x), .int .i64 (m + 1), .int .i64 (1 + c), .int .i64 r] 83)).below b7).box 1
    simp at t1
    have ST7 := hide st7
    have hr7 := right_putL HR.out (linkOk_of (n := 2 + y0) (c := 1 + c) (r := r) ⟨by omega, by omega⟩ hab.1 hab.2.1 hab.2.2 ⟨by omega, by omega⟩ ⟨hr0, hr1⟩)
    have HR7 := hide hr7
    have hl7 := putL_len ls ⟨1 + x, m + 1, 1 + c, r⟩
    have HL7 := hide hl7
    clear o7 b7 st7 hr7 hl7 ST6
    go_wp2
    exact ⟨⟨k + 1, _, putLk ls ⟨1 + x, m + 1, 1 + c, r⟩, by omega, by go_num, ST7.out, HR7.out, by have := HL7.out; omega⟩, by simp [intOf]; omega⟩
   ·go_wp2
    exact ⟨⟨k + 1, _, ls, by omega, by go_num, ST6.out.alloc _, HR.out, hll⟩, by simp [intOf]; omega⟩
  ·have hab : 1 ≤ 1 + x2 ∧ 1 + x2 < 1 + x ∧ 1 + x ≤ 2 + y0 := by
    clear ST4 s0 s1 HR
    (try simp only [beq_eq_false_iff_ne, ne_eq, beq_iff_eq] at *)
    omega
   refine (below_any p a len cap 4 _ ST4.out.cur (by omega) (by omega)).mono ?_
   rintro e w5 ⟨c, rfl, hc0, hc9, hc5, hg5⟩
   have st5 := ST4.out.grown hc5 hg5 hp hsz1
   have ST5 := hide st5
   have hp5 := lt_of_cur st5.cur
   clear hc5 hg5 st5 ST4 s0 s1
   go_wp2_with fail
   refine (pickR_any (fun z => 0 ≤ z ∧ z ≤ 2) p a len cap w5.heap.size 4 _ (cur_alloc ST5.out.cur _) (by omega) (by omega) (by omega) (four_cells w5)).mono ?_
   rintro e w6 ⟨r, rfl, ⟨hr0, hr1⟩, hc6, hg6⟩
   have st6 := (ST5.out.alloc _).grown hc6 hg6 hp hsz1
   have ST6 := hide st6
   have s1 := cells_at st6.box 1
   have hbx := lt_of_heap st6.box
   simp at s1
   clear hc6 hg6 st6 ST5
   by_cases h12 : (ls.length : Int) < 12
   ·go_wp2_with fail
    refine (putL_any _ ls ⟨1 + x2, 1 + x, 1 + c, r⟩ _ (by omega) (owns_rowAt (ST6.out.alloc _).o1)).mono ?_
    rintro e w7 ⟨v', rfl, o7, b7⟩
    obtain ⟨b2, c2, rfl⟩ := LinksAt.shape (owns_rowAt o7)
    have st7 := (ST6.out.alloc _).put1 b7 o7 hp hsz1
    have t1 := cells_at ((ST6.out.alloc (.cells #[.int .i64 (1 + x2), .int .i64 (1 + x), .int .i64 (1 + c), .int .i64 r] 83)).below b7).box 1
    have f1 := frozen_at ((ST6.out.alloc (.cells #[.int .i64 (1 + x2), .int .i64 (1 + x), .int .i64 (1 + c), .int .i64 r] 83)).below b7).box 1
    simp at t1
    have ST7 := hide st7
    have hr7 := right_putL HR.out (linkOk_of (n := 2 + y0) (c := 1 + c) (r := r) ⟨by omega, by omega⟩ hab.1 hab.2.1 hab.2.2 ⟨by omega, by omega⟩ ⟨hr0, hr1⟩)
    have HR7 := hide hr7
    have hl7 := putL_len ls ⟨1 + x2, 1 + x, 1 + c, r⟩
    have HL7 := hide hl7
    clear o7 b7 st7 hr7 hl7 ST6
    go_wp2
    exact ⟨⟨k + 1, _, putLk ls ⟨1 + x2, 1 + x, 1 + c, r⟩, by omega, by go_num, ST7.out, HR7.out, by have := HL7.out; omega⟩, by simp [intOf]; omega⟩
   ·go_wp2
    exact ⟨⟨k + 1, _, ls, by omega, by go_num, ST6.out.alloc _, HR.out, hll⟩, by simp [intOf]; omega⟩
  ·have hab : 1 ≤ 1 + x ∧ 1 + x < 1 + x2 ∧ 1 + x2 ≤ 2 + y0 := by
    clear ST4 s0 s1 HR
    (try simp only [beq_eq_false_iff_ne, ne_eq, beq_iff_eq] at *)
    omega
   refine (below_any p a len cap 4 _ ST4.out.cur (by omega) (by omega)).mono ?_
   rintro e w5 ⟨c, rfl, hc0, hc9, hc5, hg5⟩
   have st5 := ST4.out.grown hc5 hg5 hp hsz1
   have ST5 := hide st5
   have hp5 := lt_of_cur st5.cur
   clear hc5 hg5 st5 ST4 s0 s1
   go_wp2_with fail
   refine (pickR_any (fun z => 0 ≤ z ∧ z ≤ 2) p a len cap w5.heap.size 4 _ (cur_alloc ST5.out.cur _) (by omega) (by omega) (by omega) (four_cells w5)).mono ?_
   rintro e w6 ⟨r, rfl, ⟨hr0, hr1⟩, hc6, hg6⟩
   have st6 := (ST5.out.alloc _).grown hc6 hg6 hp hsz1
   have ST6 := hide st6
   have s1 := cells_at st6.box 1
   have hbx := lt_of_heap st6.box
   simp at s1
   clear hc6 hg6 st6 ST5
   by_cases h12 : (ls.length : Int) < 12
   ·go_wp2_with fail
    refine (putL_any _ ls ⟨1 + x, 1 + x2, 1 + c, r⟩ _ (by omega) (owns_rowAt (ST6.out.alloc _).o1)).mono ?_
    rintro e w7 ⟨v', rfl, o7, b7⟩
    obtain ⟨b2, c2, rfl⟩ := LinksAt.shape (owns_rowAt o7)
    have st7 := (ST6.out.alloc _).put1 b7 o7 hp hsz1
    have t1 := cells_at ((ST6.out.alloc (.cells #[.int .i64 (1 + x), .int .i64 (1 + x2), .int .i64 (1 + c), .int .i64 r] 83)).below b7).box 1
    have f1 := frozen_at ((ST6.out.alloc (.cells #[.int .i64 (1 + x), .int .i64 (1 + x2), .int .i64 (1 + c), .int .i64 r] 83)).below b7).box 1
    simp at t1
    have ST7 := hide st7
    have hr7 := right_putL HR.out (linkOk_of (n := 2 + y0) (c := 1 + c) (r := r) ⟨by omega, by omega⟩ hab.1 hab.2.1 hab.2.2 ⟨by omega, by omega⟩ ⟨hr0, hr1⟩)
    have HR7 := hide hr7
    have hl7 := putL_len ls ⟨1 + x, 1 + x2, 1 + c, r⟩
    have HL7 := hide hl7
    clear o7 b7 st7 hr7 hl7 ST6
    go_wp2
    exact ⟨⟨k + 1, _, putLk ls ⟨1 + x, 1 + x2, 1 + c, r⟩, by omega, by go_num, ST7.out, HR7.out, by have := HL7.out; omega⟩, by simp [intOf]; omega⟩
   ·go_wp2
    exact ⟨⟨k + 1, _, ls, by omega, by go_num, ST6.out.alloc _, HR.out, hll⟩, by simp [intOf]; omega⟩
def blE (b : Bool) : List Value := [.bool b]
theorem blE_len (b : Bool) : (blE b).length = 1 := rfl
def BoolsAt (W : World) (v : Value) (bs : List Bool) (B : Nat) : Prop := StructsAt blE 1 W v bs B
theorem BoolsAt.shape {W : World} {v : Value} {bs : List Bool} {B : Nat} (h : BoolsAt W v bs B) : ∃ a cap, v = .slice a bs.length cap := by obtain ⟨a, cap, h, _⟩ := h; exact ⟨a, cap, h⟩
theorem BoolsAt.cell {W : World} {v : Value} {bs : List Bool} {B : Nat} (h : BoolsAt W v bs B) (i : Nat) (b : Bool) (hb : bs[i]? = some b) : ∃ g off cap, v = .slice (some ⟨g, off, none⟩) bs.length cap ∧ g < B ∧ W.cell? ⟨g, off + i, none⟩ = some (.bool b) := by
 obtain ⟨g, off, cap, hv, hg, hc⟩ := StructsAt.cell h blE_len i b hb
 refine ⟨g, off, cap, hv, hg, ?_⟩
 have := hc 0 _ rfl
 simpa using this
theorem Tryz.infoB : (Tryz.prog.info? 4).map (fun i => (i.zero, i.size, i.bytes)) = some (some (.bool false), 1, 1) := by kernel_rfl
theorem netOkI_n {x : NetD} (h : netOkI x = true) : 1 ≤ x.n ∧ x.n ≤ 6 := by
 simp [netOkI, inB] at h
 omega
theorem netOkI_l {x : NetD} (h : netOkI x = true) : x.ls.length ≤ 12 ∧ x.ts.length ≤ 4 := by
 simp [netOkI, linksB, thingsB] at h
 omega
structure DSt (w w5 wr : World) (p z : Nat) (a : Option Addr) (len cap : Nat) : Prop where
 cur : Cur wr p a len cap
 bel : Below w.heap.size w wr
 kept : ∀ b, b < z + 1 → b ≠ p → wr.heap[b]? = w5.heap[b]?
 size : z + 1 ≤ wr.heap.size
theorem DSt.grown {w w5 wr w' : World} {p z : Nat} {a : Option Addr} {len cap : Nat} (h : DSt w w5 wr p z a len cap) (hc : Cur w' p a len cap) (hg : wr.grownBy w' (some p)) (hp : w.heap.size ≤ p) : DSt w w5 w' p z a len cap where
 cur := hc
 bel := h.bel.grown hg h.bel.size (fun k hk => by simp at hk; omega)
 kept := fun b hb hbp => by rw [hg.block b (by have := h.size; omega) (by simp; exact hbp)]; exact h.kept b hb hbp
 size := Nat.le_trans h.size hg.size
theorem DSt.alloc {w w5 wr : World} {p z : Nat} {a : Option Addr} {len cap : Nat} (h : DSt w w5 wr p z a len cap) (o : Obj) : DSt w w5 (wr.alloc o) p z a len cap where
 cur := cur_alloc h.cur o
 bel := h.bel.alloc h.bel.size o
 kept := fun b hb hbp => by rw [Below.heap_alloc _ _ _ (by have := h.size; omega)]; exact h.kept b hb hbp
 size := by have := h.size; simp; omega
def pairsOf : List Int → List (Int × Int)
 | a :: b :: l => (a, b) :: pairsOf l
 | _ => []
theorem pairs_len : ∀ l : List Int, (pairsOf l).length = l.length / 2
 | [] => rfl
 | [_] => by simp [pairsOf]
 | a :: b :: l => by
  simp only [pairsOf, List.length_cons, pairs_len l]
  omega
theorem pairs_at : ∀ (l : List Int) (i : Nat) (a b : Int), l[2 * i]? = some a → l[2 * i + 1]? = some b → (pairsOf l)[i]? = some (a, b)
 | [], _, _, _, h, _ => by simp at h
 | [_], 0, _, _, _, h => by simp at h
 | [_], i + 1, _, _, h, _ => by simp at h
 | x :: y :: l, 0, a, b, h1, h2 => by
  simp at h1 h2
  simp [pairsOf, h1, h2]
 | x :: y :: l, i + 1, a, b, h1, h2 => by
  have e1 : 2 * (i + 1) = 2 * i + 1 + 1 := by omega
  rw [e1] at h1 h2
  simp only [List.getElem?_cons_succ] at h1 h2
  simp only [pairsOf, List.getElem?_cons_succ]
  exact pairs_at l i a b h1 h2
theorem pairs_take (l : List Int) (i : Nat) (a b : Int) (h1 : l[2 * i]? = some a) (h2 : l[2 * i + 1]? = some b) : (pairsOf l).take (i + 1) = (pairsOf l).take i ++ [(a, b)] := by
 have h := pairs_at l i a b h1 h2
 obtain ⟨hi, e⟩ := List.getElem?_eq_some_iff.1 h
 rw [List.take_succ_eq_append_getElem hi, e]
def ordH (p q : Int × Int) : Int := orN [cmpN p.1 q.1, cmpN p.2 q.2]
theorem ordH_lt (p q : Int × Int) : ordH p q < 0 ↔ p.1 < q.1 ∨ (p.1 = q.1 ∧ p.2 < q.2) := by
 unfold ordH cmpN
 simp only [orN]
 rcases Int.lt_trichotomy p.1 q.1 with h | h | h
 ·simp [h]
 ·rcases Int.lt_trichotomy p.2 q.2 with h2 | h2 | h2
  ·simp [h, h2]
  ·simp [h, h2]
  ·have h3 : ¬ p.2 < q.2 := by omega
   simp [h, h2, h3]
 ·have h3 : ¬ p.1 < q.1 := by omega
  have h4 : ¬ p.1 = q.1 := by omega
  simp [h, h3, h4]
def hitP (ls : List Lk) (id : Int) (e : Int × Int) : Bool := !(costN ls id e.1 e.2 == 0)
def heardB (ls : List Lk) (id : Int) (h : List Int) : Bool := (pairsOf h).all (hitP ls id) && (decide (h.length % 2 = 0) && ascB ordH (pairsOf h))
theorem asc_len : ∀ (l : List Int) (a b : Int), l.Pairwise (· < ·) → (∀ x ∈ l, a ≤ x ∧ x ≤ b) → (l.length : Int) ≤ max 0 (b - a + 1)
 | [], _, _, _, _ => by simp; omega
 | x :: l, a, b, hp, hx => by
  rw [List.pairwise_cons] at hp
  have h1 := hx x (by simp)
  have h2 := asc_len l (x + 1) b hp.2 (fun y hy => ⟨by have := hp.1 y hy; omega, (hx y (by simp [hy])).2⟩)
  simp only [List.length_cons]
  omega
theorem chain_asc {l : List (Int × Int)} (h : ascB ordH l = true) : ∀ (d i : Nat) (p q : Int × Int), l[i]? = some p → l[i + d + 1]? = some q → p.1 < q.1 ∨ (p.1 = q.1 ∧ p.2 < q.2)
 | 0, i, p, q, hp, hq => by
  obtain ⟨hl, _⟩ := List.getElem?_eq_some_iff.1 hq
  have h1 := List.all_eq_true.1 h (i + 1) (List.mem_range.2 hl)
  rw [ascAt_eq hp hq] at h1
  exact (ordH_lt p q).1 (by simpa using h1)
 | d + 1, i, p, q, hp, hq => by
  obtain ⟨hl, _⟩ := List.getElem?_eq_some_iff.1 hq
  obtain ⟨m, hm⟩ : ∃ m, l[i + d + 1]? = some m := ⟨l[i + d + 1]'(by omega), List.getElem?_eq_getElem (by omega)⟩
  have h1 := chain_asc h d i p m hp hm
  have h2 := List.all_eq_true.1 h (i + d + 1 + 1) (List.mem_range.2 hl)
  rw [ascAt_eq hm hq] at h2
  have h3 := (ordH_lt m q).1 (by simpa using h2)
  omega
theorem cost_hits {ls : List Lk} {f t r : Int} (h : costN ls f t r ≠ 0) : ∃ l ∈ ls, lkHit f t r l = true := by
 unfold costN at h
 cases e : ls.find? (lkHit f t r) with
 | none => rw [e] at h; simp at h
 | some l => exact ⟨l, List.mem_of_find?_eq_some e, List.find?_some e⟩
theorem linksOf_ok {n : Int} {ls : List Lk} (h : linksB n ls = true) : ∀ l ∈ ls, linkOkB n l = true := by
 intro l hl
 unfold linksB at h
 simp only [Bool.and_eq_true] at h
 obtain ⟨i, hi, e⟩ := List.mem_iff_getElem.1 hl
 have h1 := List.all_eq_true.1 h.1.2 i (List.mem_range.2 hi)
 rw [okAt_eq (List.getElem?_eq_getElem hi), e] at h1
 exact h1
theorem heard_short {x : NetD} {id : Int} {h : List Int} (hn : netOkI x = true) (hh : heardB x.ls id h = true) : h.length ≤ 60 := by
 unfold heardB at hh
 simp only [Bool.and_eq_true, decide_eq_true_eq] at hh
 obtain ⟨h1, h2, h3⟩ := hh
 have hn2 := hn
 simp only [netOkI, Bool.and_eq_true] at hn2
 have hnn : 1 ≤ x.n ∧ x.n ≤ 6 := by
  have := hn2.1.1
  simp only [inB, Bool.and_eq_true, decide_eq_true_eq] at this
  exact this
 have hlk := linksOf_ok hn2.1.2
 have hrange : ∀ e ∈ pairsOf h, 1 ≤ e.1 ∧ e.1 ≤ 6 ∧ 0 ≤ e.2 ∧ e.2 ≤ 2 := by
  intro e he
  have hc := List.all_eq_true.1 h1 e he
  unfold hitP at hc
  obtain ⟨l, hl, hit⟩ := cost_hits (by simpa using hc)
  have hok := hlk l hl
  simp only [linkOkB, inB, Bool.and_eq_true, decide_eq_true_eq] at hok
  simp only [lkHit, Bool.and_eq_true, Bool.or_eq_true, beq_iff_eq] at hit
  omega
 have hp : ((pairsOf h).map (fun e => 3 * e.1 + e.2)).Pairwise (· < ·) := by
  rw [List.pairwise_map, List.pairwise_iff_getElem]
  intro i j hi hj hij
  have hc := chain_asc h3 (j - i - 1) i _ _ (List.getElem?_eq_getElem hi) (by rw [show i + (j - i - 1) + 1 = j by omega]; exact List.getElem?_eq_getElem hj)
  have r1 := hrange _ (List.getElem_mem hi)
  have r2 := hrange _ (List.getElem_mem hj)
  omega
 have hl := asc_len _ 3 20 hp (fun y hy => by
  obtain ⟨e, he, rfl⟩ := List.mem_map.1 hy
  have := hrange e he
  omega)
 rw [List.length_map, pairs_len] at hl
 omega
structure HearUp (ls : List Lk) (id : Int) (h : List Int) (v a : Int) : Prop where
 even : h.length % 2 = 0
 hit : ∀ q ∈ pairsOf h, hitP ls id q = true
 below : ∀ q ∈ pairsOf h, q.1 < v ∨ (q.1 = v ∧ q.2 < a)
 asc : (pairsOf h).Pairwise (fun p q => p.1 < q.1 ∨ (p.1 = q.1 ∧ p.2 < q.2))
 len : (h.length : Int) ≤ 2 * (3 * (v - 1) + a)
theorem HearUp.start (ls : List Lk) (id : Int) : HearUp ls id [] 1 0 := ⟨rfl, by simp [pairsOf], by simp [pairsOf], List.Pairwise.nil, by simp⟩
theorem HearUp.skip {ls : List Lk} {id : Int} {h : List Int} {v a : Int} (u : HearUp ls id h v a) : HearUp ls id h v (a + 1) :=
 ⟨u.even, u.hit, fun q hq => by have := u.below q hq; omega, u.asc, by have := u.len; omega⟩
theorem HearUp.next {ls : List Lk} {id : Int} {h : List Int} {v : Int} (u : HearUp ls id h v 3) : HearUp ls id h (v + 1) 0 :=
 ⟨u.even, u.hit, fun q hq => by have := u.below q hq; omega, u.asc, by have := u.len; omega⟩
theorem pairs_snoc : ∀ (h : List Int) (v a : Int), h.length % 2 = 0 → pairsOf (h ++ [v, a]) = pairsOf h ++ [(v, a)]
 | [], _, _, _ => rfl
 | [_], _, _, h => by simp at h
 | x :: y :: l, v, a, h => by
  have := pairs_snoc l v a (by simp at h; omega)
  simp only [List.cons_append, pairsOf, this]
theorem HearUp.push {ls : List Lk} {id : Int} {h : List Int} {v a : Int} (u : HearUp ls id h v a) (hc : 0 < costN ls id v a) : HearUp ls id (h ++ [v, a]) v (a + 1) := by
 have e := pairs_snoc h v a u.even
 refine ⟨by have := u.even; simp; omega, ?_, ?_, ?_, by have := u.len; simp; omega⟩
 ·intro q hq
  rw [e] at hq
  rcases List.mem_append.1 hq with h1 | h1
  ·exact u.hit q h1
  ·have : q = (v, a) := by simpa using h1
   subst this
   unfold hitP
   simp
   omega
 ·intro q hq
  rw [e] at hq
  rcases List.mem_append.1 hq with h1 | h1
  ·have := u.below q h1; omega
  ·have : q = (v, a) := by simpa using h1
   subst this
   simp
   omega
 ·rw [e, List.pairwise_append]
  refine ⟨u.asc, List.pairwise_singleton _ _, fun p hp q hq => ?_⟩
  have : q = (v, a) := by simpa using hq
  subst this
  exact u.below p hp
theorem HearUp.ok {ls : List Lk} {id : Int} {h : List Int} {v a : Int} (u : HearUp ls id h v a) : heardB ls id h = true := by
 unfold heardB
 rw [Bool.and_eq_true, Bool.and_eq_true]
 refine ⟨List.all_eq_true.2 u.hit, by simpa using u.even, ?_⟩
 unfold ascB
 refine all_true fun j hj => ?_
 cases j with
 | zero => rfl
 | succ k =>
  rw [ascAt_eq (List.getElem?_eq_getElem (by omega)) (List.getElem?_eq_getElem hj)]
  have h2 := List.pairwise_iff_getElem.1 u.asc k (k + 1) (by omega) hj (by omega)
  rw [decide_eq_true_eq, ordH_lt]
  exact h2
def intsOf (l : List Int) : List Value := l.map fun z => Value.int .i64 z
theorem intsOf_append (a b : List Int) : intsOf (a ++ b) = intsOf a ++ intsOf b := by simp [intsOf]
theorem Tryz.info3 : (Tryz.prog.info? 3).map (fun i => (i.zero, i.size, i.bytes)) = some (some (.int .i64 0), 1, 8) := by kernel_rfl
theorem wpList_append_int {P : Program} (w : World) {ops : Array Oper} {rest : List Oper} {o : Oper} {a : Act} {Q : Exit → Act → World → Prop} (hgd : o.guard = none) (s x : Operand) (t : TypeId)
  (ho : o.op = .call { callee := .builtin .append, args := #[s, x], argTypes := #[t, t] }) (base : Nat) (e : TypeId) (ht : P.underlying t = some (.slice e))
  (hinfo : (P.info? e).map (fun i => (i.zero, i.size, i.bytes)) = some (some (.int .i64 0), 1, 8))
  (v : Value) (l : List Int) (z : Int) (hs : a.eval s = v) (hown : w.ownsRow base e 1 v l.length (intsOf l))
  (ad : Addr) (c : Nat) (hx : a.eval x = .slice (some ad) 1 c) (hnews : w.cell? (ad.add 0) = some (.int .i64 z))
  (hlen : l.length + 1 ≤ 1000000000) (hbase : base ≤ w.heap.size)
  (h : ∀ v' w' l', Hid (l' = l ++ [z]) → w'.ownsRow base e 1 v' l'.length (intsOf l') → w.grownBy w' v.ownBlock → wpList P ops Q rest (a.put o.dst v') w') : wpList P ops Q (o :: rest) a w := by
 obtain ⟨i0, hi, hz0, hz1, hz2⟩ := info_parts hinfo
 refine wpList_append_own w hgd s x t ho base e i0 (.int .i64 0) 1 8 ht hi hz0 hz1 hz2 rfl (by decide) v l.length (intsOf l) hs hown ad 1 c (intsOf [z]) hx (by simp [intsOf]) ?_ ?_ (by unfold maxLen; omega) (by omega) hbase ?_
 ·intro j u hj
  have hj' : j = 0 := by have := (List.getElem?_eq_some_iff.1 hj).1; simp [intsOf] at this; omega
  subst hj'
  rw [hnews]
  simpa [intsOf] using hj
 ·intro u hu
  simp only [intsOf, List.mem_map] at hu
  obtain ⟨b, _, rfl⟩ := hu
  rfl
 ·intro v' w' h1 h2 _
  rw [← intsOf_append] at h1
  exact h v' w' (l ++ [z]) rfl (by simpa using h1) h2
def intC (zs : List Int) (j : Nat) : Value := .int .i64 (zs.getD j 0)
def IntsAt (W : World) (v : Value) (zs : List Int) (B : Nat) : Prop := RowAt W v zs.length 1 (intC zs) B
def intE (z : Int) : List Value := [.int .i64 z]
theorem intE_len (z : Int) : (intE z).length = 1 := rfl
theorem flat_int (l : List Int) : flat intE l = intsOf l := by
 induction l with
 | nil => rfl
 | cons x l ih => rw [flat_cons, ih]; rfl
def HopsAt (W : World) (v : Value) (l : List Int) (B : Nat) : Prop := StructsAt intE 1 W v l B
theorem HopsAt.then {W W' : World} {v : Value} {l : List Int} (h : HopsAt W v l W.heap.size) (hb : Below W.heap.size W W') : HopsAt W' v l W'.heap.size := RowAt.then h hb
theorem HopsAt.shape {W : World} {v : Value} {l : List Int} {B : Nat} (h : HopsAt W v l B) : ∃ a cap, v = .slice a l.length cap := by obtain ⟨a, cap, h, _⟩ := h; exact ⟨a, cap, h⟩
theorem HopsAt.ints {W : World} {v : Value} {l : List Int} {B : Nat} (h : HopsAt W v l B) : IntsAt W v l B := by
 obtain ⟨a, cap, hv, h2⟩ := h
 refine ⟨a, cap, hv, ?_⟩
 rcases h2 with h0 | ⟨b, off, ha, hb, hx⟩
 ·exact .inl h0
 ·refine .inr ⟨b, off, ha, hb, fun j hj => ?_⟩
  rw [hx j hj, flat_int]
  have hj' : j < l.length := by omega
  simp [intsOf, intC, List.getD, List.getElem?_eq_getElem hj']
theorem HopsAt.cell {W : World} {v : Value} {l : List Int} {B : Nat} (h : HopsAt W v l B) (i : Nat) (z : Int) (hz : l[i]? = some z) : ∃ b off cap, v = .slice (some ⟨b, off, none⟩) l.length cap ∧ b < B ∧ W.cell? ⟨b, off + i, none⟩ = some (.int .i64 z) := by
 obtain ⟨b, off, cap, hv, hb, hc⟩ := StructsAt.cell h intE_len i z hz
 exact ⟨b, off, cap, hv, hb, by have := hc 0 _ rfl; simpa using this⟩
theorem hops_of {W : World} {base : Nat} {v : Value} {l : List Int} (h : W.ownsRow base 3 1 v l.length (flat intE l)) : HopsAt W v l W.heap.size := owns_rowAt h
structure Nr where
 to : Int
 c : Int
 deriving DecidableEq
instance : Inhabited Nr := ⟨⟨0, 0⟩⟩
def nrV (l : Nr) : Value := .agg #[.int .i64 l.to, .int .i64 l.c]
def nrE (l : Nr) : List Value := [.int .i64 l.to, .int .i64 l.c]
theorem nrE_len (l : Nr) : (nrE l).length = 2 := rfl
def NearsAt (W : World) (v : Value) (ls : List Nr) (B : Nat) : Prop := StructsAt nrE 2 W v ls B
theorem NearsAt.then {W W' : World} {v : Value} {ls : List Nr} (h : NearsAt W v ls W.heap.size) (hb : Below W.heap.size W W') : NearsAt W' v ls W'.heap.size := RowAt.then h hb
theorem NearsAt.shape {W : World} {v : Value} {ls : List Nr} {B : Nat} (h : NearsAt W v ls B) : ∃ a cap, v = .slice a ls.length cap := by obtain ⟨a, cap, h, _⟩ := h; exact ⟨a, cap, h⟩
theorem NearsAt.cells {W : World} {v : Value} {ls : List Nr} {B : Nat} (h : NearsAt W v ls B) (i : Nat) (l : Nr) (hl : ls[i]? = some l) :
  ∃ b off cap, v = .slice (some ⟨b, off, none⟩) ls.length cap ∧ b < B ∧ W.cell? ⟨b, off + i * 2, none⟩ = some (.int .i64 l.to) ∧ W.cell? ⟨b, off + i * 2 + 1, none⟩ = some (.int .i64 l.c) := by
 obtain ⟨b, off, cap, hv, hb, hc⟩ := StructsAt.cell h nrE_len i l hl
 exact ⟨b, off, cap, hv, hb, hc 0 _ rfl, hc 1 _ rfl⟩
def nr0 : Nr := ⟨0, 0⟩
theorem Tryz.infoNr : (Tryz.prog.info? 107).map (fun i => (i.zero, i.size, i.bytes)) = some (some (nrV nr0), 2, 16) := by kernel_rfl
structure RecD where
 area : Int
 kind : Int
 owner : Int
 key : Int
 seq : Int
 near : List Nr
 cost : Int
 far : Bool
 deriving DecidableEq
def recC (x : RecD) (v : Value) : Array Value := #[.int .i64 x.area, .int .i64 x.kind, .int .i64 x.owner, .int .i64 x.key, .int .i64 x.seq, v, .int .i64 x.cost, .bool x.far]
def RecAt (W : World) (v : Value) (x : RecD) (B : Nat) : Prop := ∃ v1, v = .agg (recC x v1) ∧ NearsAt W v1 x.near B
theorem RecAt.then {W W' : World} {v : Value} {x : RecD} (h : RecAt W v x W.heap.size) (hb : Below W.heap.size W W') : RecAt W' v x W'.heap.size := by
 obtain ⟨v1, hv, h1⟩ := h
 exact ⟨v1, hv, h1.then hb⟩
def mk (q : Int) (i : Nat) : Nr := ⟨q + 2 * (i : Int), q + 2 * (i : Int) + 1⟩
theorem own_cell {w : World} {base size g cap : Nat} {e : TypeId} {n : Nat} {xs : List Value} (h : w.ownsRow base e size (.slice (some ⟨g, 0, none⟩) n cap) n xs) (j : Nat) (hj : j < n * size) : ∃ u, w.cell? ⟨g, j, none⟩ = some u := by
 rw [h.cellAt j hj]
 have hl : j < xs.length := by rw [h.1]; exact hj
 exact ⟨_, List.getElem?_eq_getElem hl⟩
theorem grown_refl (w : World) (r : Option Nat) : w.grownBy w r := ⟨rfl, rfl, rfl, Nat.le_refl _, fun _ _ _ => rfl⟩
theorem ret_int1 {a b : Int} (h : a = b) : Ending.returned (.int .i64 a) = .returned (.int .i64 b) := by rw [h]
end Go.Proofs.YtmijnjnihhemgaaGreat
