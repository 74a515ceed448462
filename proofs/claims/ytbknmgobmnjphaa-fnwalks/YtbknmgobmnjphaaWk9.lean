/-
  spec.CostTo: its contract.
  Rows of truths.
  spec.l13Open: its contract.
  spec.NextTo, spec.AreasOf, spec.Border: their contracts.
-/
import Derived.Test.YtbknmgobmnjphaaWk8
import Derived.Test.YtbknmgobmnjphaaWk1
import Derived.Test.YtbknmgobmnjphaaWk3
namespace Go.Proofs.Ytbknmgobmnjphaa
open Go.RowKit

def lkHit (f t r : Int) (l : Lk) : Bool := l.r == r && ((l.a == f && l.b == t) || (l.a == t && l.b == f))

def costN (ls : List Lk) (f t r : Int) : Int := ((ls.find? (lkHit f t r)).map (·.c)).getD 0

theorem find_first {α : Type} (p : α → Bool) : ∀ (ls : List α) (k : Nat) (l : α), (∀ j, j < k → ∀ x, ls[j]? = some x → p x = false) → ls[k]? = some l → p l = true → ls.find? p = some l
  | [], _, _, _, h, _ => by simp at h
  | y :: ys, 0, l, _, h, hp => by simp at h; subst h; simp [hp]
  | y :: ys, k + 1, l, hno, h, hp => by
    have h0 := hno 0 (by omega) y rfl
    rw [List.find?_cons, h0]
    exact find_first p ys k l (fun j hj x hx => hno (j + 1) (by omega) x (by simpa using hx)) (by simpa using h) hp

theorem find_noneL {α : Type} (p : α → Bool) (ls : List α) (h : ∀ j, j < ls.length → ∀ x, ls[j]? = some x → p x = false) : ls.find? p = none := by
  rw [List.find?_eq_none]
  intro x hx
  obtain ⟨i, hi, e⟩ := List.mem_iff_getElem.1 hx
  rw [h i hi x (by rw [List.getElem?_eq_getElem hi, e])]
  decide

theorem no_next {α : Type} {p : α → Bool} {ls : List α} {k : Nat} {l : α} (h : ∀ j, j < k → ∀ x, ls[j]? = some x → p x = false) (hl : ls[k]? = some l) (hp : p l = false) : ∀ j, j < k + 1 → ∀ x, ls[j]? = some x → p x = false := by
  intro j hj x hx
  by_cases e : j = k
  · subst e; rw [hl] at hx; cases hx; exact hp
  · exact h j (by omega) x hx

theorem cost_hit {ls : List Lk} {f t r : Int} {k : Nat} {l : Lk} (h : ∀ j, j < k → ∀ x, ls[j]? = some x → lkHit f t r x = false) (hl : ls[k]? = some l) (hp : lkHit f t r l = true) : costN ls f t r = l.c := by
  unfold costN; rw [find_first _ ls k l h hl hp]; rfl

theorem cost_next {ls : List Lk} {f t r : Int} {k : Nat} {l : Lk} (h : ∀ j, j < k → ∀ x, ls[j]? = some x → lkHit f t r x = false) (hl : ls[k]? = some l) (hp : lkHit f t r l = false) : ∀ j, j < k + 1 → ∀ x, ls[j]? = some x → lkHit f t r x = false := no_next h hl hp

theorem cost_none {ls : List Lk} {f t r : Int} {k : Nat} (h : ∀ j, j < k → ∀ x, ls[j]? = some x → lkHit f t r x = false) (hk : k = ls.length) : costN ls f t r = 0 := by
  unfold costN; rw [find_noneL _ ls (by rw [← hk]; exact h)]; rfl

set_option maxRecDepth 100000 in
set_option maxHeartbeats 1000000 in
theorem scost_any (n : Value) (v tv : Value) (ls : List Lk) (f t r : Int) (w : World) (hls : ls.length ≤ 1048576) (hv : LinksAt w v ls w.heap.size) :
    Calls Try.prog 57 #[.agg #[n, v, tv], .int .i64 f, .int .i64 t, .int .i64 r] w fun e w' => e = .returned (.int .i64 (costN ls f t r)) ∧ Below w.heap.size w w' := by
  obtain ⟨a, cap, rfl⟩ : ∃ a cap, v = .slice a ls.length cap := by obtain ⟨a, cap, h, _⟩ := hv; exact ⟨a, cap, h⟩
  have HV := hide hv
  clear hv
  go_enter Try.func57, Try.ntmps57
  go_wp2
  go_loopw [9] (fun i wr => ∃ k : Nat, k ≤ ls.length ∧ i = .int .i64 k ∧ (∀ j, j < k → ∀ l, ls[j]? = some l → lkHit f t r l = false) ∧ Below w.heap.size w wr ∧ wr.heap[w.heap.size]? = some (.cells #[n, .slice a ls.length cap, tv] 27)) (fun i _ => ls.length - (intOf i).toNat)
  case atStart => exact ⟨0, by omega, rfl, by omega, (Below.refl _ _).alloc (Nat.le_refl _) _, heap_alloc_new w _⟩
  case round =>
    obtain ⟨k, hk, rfl, hno, hb, hx⟩ := hrel
    have hx1 : wr.cell? ⟨w.heap.size, 1, none⟩ = some (.slice a ls.length cap) := by rw [cells_at hx]; rfl
    have HX := hide hx
    have HNO := hide hno
    clear hx hno
    by_cases hlt : k < ls.length
    · obtain ⟨l, hl⟩ : ∃ l, ls[k]? = some l := ⟨ls[k], List.getElem?_eq_getElem hlt⟩
      obtain ⟨b, off, cap', hve, hbb, c0, c1, c2, c3⟩ := HV.out.cells k l hl
      cases hve
      rw [← hb.cell (p := ⟨b, off + k * 4, none⟩) hbb] at c0
      rw [← hb.cell (p := ⟨b, off + k * 4 + 1, none⟩) hbb] at c1
      rw [← hb.cell (p := ⟨b, off + k * 4 + 2, none⟩) hbb] at c2
      rw [← hb.cell (p := ⟨b, off + k * 4 + 3, none⟩) hbb] at c3
      have HL := hide hl
      clear hl
      obtain ⟨la, lb, lc, lr⟩ := l
      go_wp2
      all_goals first
        | (go_ret
           refine ⟨ret_int (cost_hit HNO.out HL.out ?_).symm, hb.alloc hb.size _⟩
           clear HV HX HL HNO hb hx1 c0 c1 c2 c3
           simp only [lkHit]
           grind)
        | (refine ⟨⟨k + 1, by omega, by go_num, cost_next HNO.out HL.out ?_, hb.alloc hb.size _, ?_⟩, by simp [intOf]; omega⟩
           · clear HV HX HL HNO hb hx1 c0 c1 c2 c3
             simp only [lkHit]
             grind
           · rw [Below.heap_alloc _ _ _ (lt_of_heap HX.out)]; exact HX.out)
        | (subst_vars
           refine ⟨⟨k + 1, by omega, by go_num, cost_next HNO.out HL.out ?_, hb.alloc hb.size _, ?_⟩, by simp [intOf]; omega⟩
           · clear HV HX HL HNO hb hx1 c0 c1 c2 c3
             simp only [lkHit]
             grind
           · rw [Below.heap_alloc _ _ _ (lt_of_heap HX.out)]; exact HX.out)
    · have hk' : k = ls.length := by omega
      have HK := hide hk'
      clear hk'
      go_wp2
      go_ret
      exact ⟨ret_int (cost_none HNO.out HK.out).symm, hb⟩
end Go.Proofs.Ytbknmgobmnjphaa
namespace Go.Proofs.Ytbknmgobmnjphaa
open Go.RowKit

def blE (b : Bool) : List Value := [.bool b]

theorem blE_len (b : Bool) : (blE b).length = 1 := rfl

theorem blE_one (b : Bool) : ∀ u ∈ blE b, u.oneCell' = true := by
  intro u hu
  simp only [blE, List.mem_cons, List.not_mem_nil, or_false] at hu
  subst hu; rfl

/-- the row v of truths bs, below B -/
def BoolsAt (W : World) (v : Value) (bs : List Bool) (B : Nat) : Prop := StructsAt blE 1 W v bs B

theorem BoolsAt.shape {W : World} {v : Value} {bs : List Bool} {B : Nat} (h : BoolsAt W v bs B) : ∃ a cap, v = .slice a bs.length cap := by obtain ⟨a, cap, h, _⟩ := h; exact ⟨a, cap, h⟩

theorem BoolsAt.cell {W : World} {v : Value} {bs : List Bool} {B : Nat} (h : BoolsAt W v bs B) (i : Nat) (b : Bool) (hb : bs[i]? = some b) : ∃ g off cap, v = .slice (some ⟨g, off, none⟩) bs.length cap ∧ g < B ∧ W.cell? ⟨g, off + i, none⟩ = some (.bool b) := by
  obtain ⟨g, off, cap, hv, hg, hc⟩ := StructsAt.cell h blE_len i b hb
  refine ⟨g, off, cap, hv, hg, ?_⟩
  have := hc 0 _ rfl
  simpa using this
end Go.Proofs.Ytbknmgobmnjphaa
namespace Go.Proofs.Ytbknmgobmnjphaa
open Go.RowKit

def opHit (f t r : Int) (p : Lk × Bool) : Bool := p.2 && lkHit f t r p.1

/-- what a link that is up costs -/
def openN (ls : List Lk) (bs : List Bool) (f t r : Int) : Int := (((ls.zip bs).find? (opHit f t r)).map (·.1.c)).getD 0

theorem zip_at {ls : List Lk} {bs : List Bool} {k : Nat} {l : Lk} {b : Bool} (h : ls[k]? = some l) (hb : bs[k]? = some b) : (ls.zip bs)[k]? = some (l, b) := by
  rw [List.getElem?_zip_eq_some]; exact ⟨h, hb⟩

theorem open_hit {ls : List Lk} {bs : List Bool} {f t r : Int} {k : Nat} {l : Lk} {b : Bool} (h : ∀ j, j < k → ∀ x, (ls.zip bs)[j]? = some x → opHit f t r x = false) (hl : (ls.zip bs)[k]? = some (l, b)) (hp : opHit f t r (l, b) = true) : openN ls bs f t r = l.c := by
  unfold openN; rw [find_first _ _ k _ h hl hp]; rfl

theorem open_none {ls : List Lk} {bs : List Bool} {f t r : Int} {k : Nat} (h : ∀ j, j < k → ∀ x, (ls.zip bs)[j]? = some x → opHit f t r x = false) (hk : k = ls.length) : openN ls bs f t r = 0 := by
  unfold openN
  rw [find_noneL _ _ (fun j hj => h j (by rw [List.length_zip] at hj; omega))]; rfl

/-- none of the first k links that are up is such a one -/
def NoHit (ls : List Lk) (bs : List Bool) (f t r : Int) (k : Nat) : Prop := ∀ j, j < k → ∀ x, (ls.zip bs)[j]? = some x → opHit f t r x = false

set_option maxRecDepth 100000 in
set_option maxHeartbeats 1000000 in
theorem sopen_any (n : Value) (v tv y : Value) (ls : List Lk) (bs : List Bool) (f t r : Int) (w : World) (hls : ls.length ≤ 1048576) (hbs : bs.length = ls.length) (hv : LinksAt w v ls w.heap.size) (hy : BoolsAt w y bs w.heap.size) :
    Calls Try.prog 18 #[.agg #[n, v, tv], y, .int .i64 f, .int .i64 t, .int .i64 r] w fun e w' => e = .returned (.int .i64 (openN ls bs f t r)) ∧ Below w.heap.size w w' := by
  obtain ⟨a, cap, rfl⟩ : ∃ a cap, v = .slice a ls.length cap := by obtain ⟨a, cap, h, _⟩ := hv; exact ⟨a, cap, h⟩
  obtain ⟨a2, cap2, rfl⟩ := hy.shape
  have HV := hide hv
  have HY := hide hy
  have HBS := hide hbs
  clear hv hy hbs
  go_enter Try.func18, Try.ntmps18
  go_wp2
  go_loopw [11] (fun i wr => ∃ k : Nat, k ≤ ls.length ∧ i = .int .i64 k ∧ NoHit ls bs f t r k ∧ Below w.heap.size w wr ∧ wr.heap[w.heap.size]? = some (.cells #[n, .slice a ls.length cap, tv] 27)) (fun i _ => ls.length - (intOf i).toNat)
  case atStart => exact ⟨0, by omega, rfl, fun j hj => absurd hj (Nat.not_lt_zero _), (Below.refl _ _).alloc (Nat.le_refl _) _, heap_alloc_new w _⟩
  case round =>
    obtain ⟨k, hk, rfl, hno, hb, hx⟩ := hrel
    have hx1 : wr.cell? ⟨w.heap.size, 1, none⟩ = some (.slice a ls.length cap) := by rw [cells_at hx]; rfl
    have HX := hide hx
    have HNO := hide hno
    clear hx hno
    by_cases hlt : k < ls.length
    · obtain ⟨l, hl⟩ : ∃ l, ls[k]? = some l := ⟨ls[k], List.getElem?_eq_getElem hlt⟩
      have hltb : k < bs.length := by have := HBS.out; omega
      obtain ⟨b1, hb1⟩ : ∃ b, bs[k]? = some b := ⟨bs[k], List.getElem?_eq_getElem hltb⟩
      obtain ⟨b, off, cap', hve, hbb, c0, c1, c2, c3⟩ := HV.out.cells k l hl
      cases hve
      obtain ⟨g, off2, cap2', hve2, hgg, d0⟩ := HY.out.cell k b1 hb1
      cases hve2
      rw [← hb.cell (p := ⟨b, off + k * 4, none⟩) hbb] at c0
      rw [← hb.cell (p := ⟨b, off + k * 4 + 1, none⟩) hbb] at c1
      rw [← hb.cell (p := ⟨b, off + k * 4 + 2, none⟩) hbb] at c2
      rw [← hb.cell (p := ⟨b, off + k * 4 + 3, none⟩) hbb] at c3
      rw [← hb.cell (p := ⟨g, off2 + k, none⟩) hgg] at d0
      have HL := hide (zip_at hl hb1)
      have hlb : (k : Int) < (bs.length : Int) := by omega
      have hgw : g < wr.heap.size := by have := hb.size; omega
      clear hl hb1 hgg
      obtain ⟨la, lb, lc, lr⟩ := l
      cases b1
      all_goals go_wp2
      all_goals first
        | (go_ret
           refine ⟨ret_int (open_hit HNO.out HL.out ?_).symm, hb.alloc hb.size _⟩
           clear HV HX HL HNO hb hx1 c0 c1 c2 c3 d0 HY
           simp only [opHit, lkHit]
           grind)
        | (refine ⟨⟨k + 1, by omega, by go_num, no_next HNO.out HL.out ?_, hb.alloc hb.size _, ?_⟩, by simp [intOf]; omega⟩
           · clear HV HX HL HNO hb hx1 c0 c1 c2 c3 d0 HY
             simp only [opHit, lkHit]
             grind
           · rw [Below.heap_alloc _ _ _ (lt_of_heap HX.out)]; exact HX.out)
        | (subst_vars
           refine ⟨⟨k + 1, by omega, by go_num, no_next HNO.out HL.out ?_, hb.alloc hb.size _, ?_⟩, by simp [intOf]; omega⟩
           · clear HV HX HL HNO hb hx1 c0 c1 c2 c3 d0 HY
             simp only [opHit, lkHit]
             grind
           · rw [Below.heap_alloc _ _ _ (lt_of_heap HX.out)]; exact HX.out)
    · have hk' : k = ls.length := by omega
      have HK := hide hk'
      clear hk'
      go_wp2
      go_ret
      exact ⟨ret_int (open_none HNO.out HK.out).symm, hb⟩
end Go.Proofs.Ytbknmgobmnjphaa
namespace Go.Proofs.Ytbknmgobmnjphaa
open Go.RowKit

def nextL (ls : List Lk) (v r : Int) : List Int := ([1, 2, 3, 4, 5, 6] : List Int).filter fun u => decide (0 < costN ls v u r)

def areasL (ls : List Lk) (v : Int) : List Int := ([0, 1, 2] : List Int).filter fun r => decide (0 < (nextL ls v r).length)

def bordB (ls : List Lk) (v : Int) : Bool := decide (1 < (areasL ls v).length) && ((areasL ls v).head? == some 0)

/-- the numbers 1 .. k that pass -/
def passed (p : Int → Bool) (s : Int) : Nat → List Int
  | 0 => []
  | k + 1 => passed p s k ++ (if p (s + (k : Int)) then [s + (k : Int)] else [])

theorem passed_len (p : Int → Bool) (s : Int) : ∀ k, (passed p s k).length ≤ k
  | 0 => by simp [passed]
  | k + 1 => by
    have := passed_len p s k
    simp only [passed]
    split <;> simp <;> omega

theorem next_passed (ls : List Lk) (v r : Int) : nextL ls v r = passed (fun u => decide (0 < costN ls v u r)) 1 6 := by
  simp [nextL, passed, List.filter_cons]
  repeat' split
  all_goals simp

set_option maxRecDepth 100000 in
set_option maxHeartbeats 1000000 in
theorem snext_any (n : Value) (v tv : Value) (ls : List Lk) (f r : Int) (w : World) (hls : ls.length ≤ 1048576) (hv : LinksAt w v ls w.heap.size) :
    Calls Try.prog 30 #[.agg #[n, v, tv], .int .i64 f, .int .i64 r] w fun e w' => ∃ x, e = .returned x ∧ w'.ownsRow w.heap.size 3 1 x (nextL ls f r).length (intsOf (nextL ls f r)) ∧ Below w.heap.size w w' := by
  have HV := hide hv
  clear hv
  rw [next_passed]
  go_enter Try.func30, Try.ntmps30
  go_wp2
  go_loopw [7, 8] (fun x i wr => ∃ k : Nat, k ≤ 6 ∧ i = .int .i64 (1 + (k : Int)) ∧ Below w.heap.size w wr ∧ wr.heap[w.heap.size]? = some (.cells #[n, v, tv] 27) ∧ wr.ownsRow (w.heap.size + 1) 3 1 x (passed (fun u => decide (0 < costN ls f u r)) 1 k).length (intsOf (passed (fun u => decide (0 < costN ls f u r)) 1 k))) (fun _ i _ => 8 - (intOf i).toNat)
  case atStart =>
    refine ⟨0, by omega, rfl, below_two _ _, ?_, ?_⟩
    · rw [Below.heap_alloc _ _ _ (show w.heap.size < (w.alloc (.cells #[n, v, tv] 27)).heap.size by simp), heap_alloc_new]
    · have h0 := World.ownsRow_lit (base := w.heap.size + 1) (w.alloc (.cells #[n, v, tv] 27)) (#[] : Array Value) 0 (by simp) (by decide) (e := 3) (size := 1) rfl
      simpa [passed, intsOf] using h0
  case round =>
    obtain ⟨k, hk, rfl, hb, hx, hown⟩ := hrel
    have c0 : wr.cell? ⟨w.heap.size, 0, none⟩ = some n := by rw [cells_at hx]; rfl
    have c1 : wr.cell? ⟨w.heap.size, 1, none⟩ = some v := by rw [cells_at hx]; rfl
    have c2 : wr.cell? ⟨w.heap.size, 2, none⟩ = some tv := by rw [cells_at hx]; rfl
    have hxl := lt_of_heap hx
    have HX := hide hx
    have OW := hide hown
    clear hx hown
    by_cases hlt : k < 6
    · go_wp2_with fail
      refine (scost_any n v tv ls f (1 + (k : Int)) r wr hls (HV.out.then hb)).mono ?_
      rintro e w1 ⟨rfl, b1⟩
      have hown1 := owns_below OW.out b1 (Nat.le_refl _)
      have hx1 : w1.heap[w.heap.size]? = some (.cells #[n, v, tv] 27) := by rw [b1.block _ hxl]; exact HX.out
      have hb1 : Below w.heap.size w w1 := hb.trans (b1.mono hb.size)
      have hz1 := b1.size
      have hpl := passed_len (fun u => decide (0 < costN ls f u r)) 1 k
      have HX1 := hide hx1
      obtain ⟨l2, hl20⟩ : ∃ l2, l2 = passed (fun u => decide (0 < costN ls f u r)) 1 (k + 1) := ⟨_, rfl⟩
      have HL20 := hide hl20
      have hps : Hid (l2 = passed (fun u => decide (0 < costN ls f u r)) 1 k ++ (if decide (0 < costN ls f (1 + (k : Int)) r) then [1 + (k : Int)] else [])) := hl20
      clear hl20
      clear b1 hx1 c0 c1 c2 OW HX
      generalize passed (fun u => decide (0 < costN ls f u r)) 1 k = l at hown1 hpl hps
      generalize costN ls f (1 + (k : Int)) r = c at hps ⊢
      by_cases hc : 0 < c
      · have hl2 : l2 = l ++ [1 + (k : Int)] := by rw [hps.out]; simp [hc]
        have HL2 := hide hl2
        clear hl2 hps
        go_wp2_with (first
          | (at_builtin; refine wpList_append_int _ rfl _ _ 39 rfl (w.heap.size + 1) 3 Try.underlying39 Try.info3 u7 l (1 + (k : Int)) rfl (hown1.alloc _) ⟨w1.heap.size, 0, none⟩ 1 rfl ?_ (by omega) (by simp; omega) ?_))
        · rw [add_zero', World.cell?_alloc_at _ _ _ _ rfl]; rfl
        intro v' w4 l' hl' hown' hgrow
        have hb4 : Below w.heap.size w w4 := (hb1.alloc (by omega) _).grown hgrow (by simp; omega) (fun k hk => by have := (hown1.lt k hk).1; omega)
        have hx4 : w4.heap[w.heap.size]? = some (.cells #[n, v, tv] 27) := by
          rw [hgrow.block _ (by simp; omega) (fun h => by have := (hown1.lt _ h.symm).1; omega), Below.heap_alloc _ _ _ (by omega)]
          exact HX1.out
        have e : l' = l2 := by rw [hl'.out, HL2.out]
        subst e
        have OW2 := hide hown'
        have HX4 := hide hx4
        clear hgrow hown' hx4 hown1
        go_wp2
        go_roundw
        case rel => exact ⟨k + 1, by omega, by go_num, hb4, HX4.out, by rw [← HL20.out]; exact OW2.out⟩
        case measure => simp [intOf]; omega
      · have hl2 : l2 = l := by rw [hps.out]; simp [hc]
        subst hl2
        have OW2 := hide hown1
        clear hown1 hps
        go_wp2
        go_roundw
        case rel => exact ⟨k + 1, by omega, by go_num, hb1, HX1.out, by rw [← HL20.out]; exact OW2.out⟩
        case measure => simp [intOf]; omega
    · have hk' : k = 6 := by omega
      subst hk'
      go_wp2
      go_ret
      exact ⟨_, rfl, owns_base OW.out (by omega), hb⟩
end Go.Proofs.Ytbknmgobmnjphaa
