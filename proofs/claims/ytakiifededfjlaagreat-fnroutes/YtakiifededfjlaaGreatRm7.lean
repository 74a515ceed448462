/-
  The search of spec.WaysIn: its tables in the heap, and one round of it.
  Lists of ways, each with a row of its own.
  laws.szWayS, toWayS, eqWayS: their contracts.
  laws.markWayS, heldWayS: only the list's own memory turns; what was marked is held.
  How many nodes are done; what the end of a search tells, as a list of ways.
  Ways of several areas, Together: as values.
  spec.Better, impl.Better: their contracts.
  spec.Together: its contract.
  Contracts of the library, laid at this program: slices_Sort_int, slices_Sort_int_none, slices_Compact_int, slices_Compact_int_empty.
-/
import Derived.Test.YtakiifededfjlaaGreatRm5
import Derived.Test.YtakiifededfjlaaGreatRm6
import Derived.Test.YtakiifededfjlaaGreatRm4
import Derived.Test.YtakiifededfjlaaGreatRm1
import Derived.Test.YtakiifededfjlaaGreatRm2
import Derived.Deep.RegionHeld3
import Derived.Shelf.Small.Bits
import Derived.Shelf.Strconv.Itoa0
import Derived.Shelf.Sort.Plain
import Derived.Ground.Names2Prog
import Derived.Shelf.Slices.CompactI
import Derived.Shelf.Slices.In.SortNone
import Derived.Test.YtakiifededfjlaaGreatProg
namespace Go.Proofs.YtakiifededfjlaaGreat
open Go.RowKit
set_option linter.unusedSimpArgs false
set_option linter.unusedVariables false
set_option maxRecDepth 100000
set_option maxHeartbeats 8000000
def ZeE (xs : List RecD) (area : Int) (u v : Nat) : Int := if (1 <= u /\ u <= 6) /\ (1 <= v /\ v <= 6) then Zma xs area u v else 0
theorem Zgy {ns : List Nr} {bk : Int -> Int} {v : Nat} (h : ∀ n ∈ ns, 1 <= n.c /\ n.c <= 1000) : ∀ k, 0 <= ZdO ns bk v k /\ ZdO ns bk v k <= 1000
 | 0 => by simp [ZdO]
 | k + 1 => by
  have ih := Zgy (bk := bk) (v := v) h k
  cases e : ns[k]? with
  | none =>
   have : ZdO ns bk v (k + 1) = ZdO ns bk v k := by
    show (match ns[k]? with
     | some n => if n.to = (v : Int) /\ inB n.to 1 6 = true /\ 0 < bk n.to then n.c else ZdO ns bk v k
     | none => ZdO ns bk v k) = _
    rw [e]
   rw [this]; exact ih
  | some n =>
   rw [ZdW bk v e]
   have := h n (List.mem_of_getElem? e)
   split
   ·omega
   ·exact ih
theorem Zdn {α : Type} {ok : α -> Bool} {ls : List α} (h : Zcg ok ls = true) {a : α} (ha : a ∈ ls) : ok a = true := by
 obtain ⟨k, hk, e⟩ := List.mem_iff_getElem.1 ha
 unfold Zcg at h
 rw [List.all_eq_true] at h
 have := h k (by simpa using hk)
 unfold okAt at this
 rw [List.getElem?_eq_getElem hk, e] at this
 exact this
theorem ZgE {x : RecD} (h : Za3 x = true) : x.near = [] \/ (x.kind = 1 /\ Zbd x.owner x.near = true) := by
 unfold Za3 at h
 simp only [Bool.and_eq_true] at h
 have h2 := h.2
 split at h2
 ·rename_i e
  simp only [Bool.and_eq_true] at h2
  exact .inr ⟨e, h2.1.1.2⟩
 ·split at h2
  ·simp only [Bool.and_eq_true, beq_iff_eq] at h2
   exact .inl (List.eq_nil_of_length_eq_zero h2.1.1.2)
  ·split at h2
   ·simp only [Bool.and_eq_true, beq_iff_eq] at h2
    exact .inl (List.eq_nil_of_length_eq_zero h2.1.2)
   ·cases h2
theorem ZfX {x : RecD} (h : Za3 x = true) : ∀ n ∈ x.near, 1 <= n.c /\ n.c <= 1000 := by
 intro n hn
 rcases ZgE h with e | ⟨_, e⟩
 ·rw [e] at hn; cases hn
 ·unfold Zbd at e
  simp only [Bool.and_eq_true] at e
  have := Zdn e.1 hn
  unfold Zb8 at this
  simp only [Bool.and_eq_true] at this
  exact ZdI.1 this.2
theorem ZiE {xs : List RecD} {r : RecD} : Zil xs r ∈ xs \/ Zil xs r = ZbN := by
 rcases Zgo xs r with hz | ⟨j, y, hz, hy, _⟩
 ·exact .inr (Zim hz).1
 ·rw [(Zmm hz hy).1]; exact .inl (List.mem_of_getElem? hy)
theorem Zf0 {xs : List RecD} {area node : Int} (h : ZaE xs = true) : ∀ n ∈ (Zcr xs area node).near, 1 <= n.c /\ n.c <= 1000 := by
 intro n hn
 unfold Zcr at hn
 rcases ZiE (xs := xs) (r := ZfC area node) with hm | he
 ·unfold ZaE at h
  simp only [Bool.and_eq_true] at h
  have hr := Zdn h.1.2 hm
  exact ZfX hr n hn
 ·rw [he] at hn; cases hn
theorem Zeo {xs : List RecD} {area : Int} (h : ZaE xs = true) : Links (ZeE xs area) 1000 := by
 refine ⟨fun u v => ?_, fun u v => ?_, fun u v hl => ?_⟩
 ·unfold ZeE; split
  ·exact (Zgy (Zf0 h) _).1
  ·omega
 ·unfold ZeE; split
  ·exact (Zgy (Zf0 h) _).2
  ·omega
 ·unfold ZeE at hl
  split at hl
  ·rename_i e; exact e
  ·omega
def Zlx (c : Nat -> Int) (i : Nat) : Value := .int .i64 (if i = 0 then 0 else c i)
def doneV (F : Nat -> Bool) (i : Nat) : Value := .bool (F i)
def upd {α : Type} (f : Nat -> α) (v : Nat) (x : α) (i : Nat) : α := if i = v then x else f i
theorem Zau {α : Type} (f : Nat -> α) (v : Nat) (x : α) : upd f v x v = x := by simp [upd]
theorem Zao {α : Type} (f : Nat -> α) {v i : Nat} (x : α) (h : i ≠ v) : upd f v x i = f i := by simp [upd, h]
structure SSt (W : World) (g b : Nat) (o : Nat -> Nat -> Int) (F : Nat -> Bool) (c : Nat -> Int) (h : Nat -> List Int) (hv : Nat -> Value) : Prop where
 gb : g < b
 ln : W.heap[g]? = some (.cells (rowA (ZgG o) 49) 3)
 cs : W.heap[b]? = some (.cells (rowA (Zlx c) 7) 3)
 hs : W.heap[b + 1]? = some (.cells (rowA hv 7) 34)
 ds : W.heap[b + 1 + 1]? = some (.cells (rowA (doneV F) 7) 4)
 rows : ∀ v, W.ownsRow (b + 3) 3 1 (hv v) (h v).length (flat intE (h v))
 short : ∀ v, (h v).length <= 6
theorem SSt.size {W : World} {g b : Nat} {o : Nat -> Nat -> Int} {F : Nat -> Bool} {c : Nat -> Int} {h : Nat -> List Int} {hv : Nat -> Value} (s : SSt W g b o F c h hv) : b + 3 <= W.heap.size := by
 have := Zab s.ds; omega
theorem SSt.below {W W' : World} {g b : Nat} {o : Nat -> Nat -> Int} {F : Nat -> Bool} {c : Nat -> Int} {h : Nat -> List Int} {hv : Nat -> Value} (s : SSt W g b o F c h hv) (hb : Below W.heap.size W W') : SSt W' g b o F c h hv :=
 ⟨s.gb, (hb.block _ (Zab s.ln)).trans s.ln, (hb.block _ (Zab s.cs)).trans s.cs, (hb.block _ (Zab s.hs)).trans s.hs, (hb.block _ (Zab s.ds)).trans s.ds, fun v => Zae (s.rows v) hb (Nat.le_refl _), s.short⟩
theorem SSt.cost {W : World} {g b : Nat} {o : Nat -> Nat -> Int} {F : Nat -> Bool} {c : Nat -> Int} {h : Nat -> List Int} {hv : Nat -> Value} (s : SSt W g b o F c h hv) {v : Nat} (h1 : 1 <= v) (h6 : v <= 6) : W.cell? ⟨b, v, none⟩ = some (.int .i64 (c v)) := by
 rw [Ze2 s.cs (by omega)]; unfold Zlx; rw [if_neg (by omega)]
theorem SSt.done {W : World} {g b : Nat} {o : Nat -> Nat -> Int} {F : Nat -> Bool} {c : Nat -> Int} {h : Nat -> List Int} {hv : Nat -> Value} (s : SSt W g b o F c h hv) {v : Nat} (h6 : v <= 6) : W.cell? ⟨b + 1 + 1, v, none⟩ = some (.bool (F v)) := by
 rw [Ze2 s.ds (by omega)]; rfl
theorem SSt.hop {W : World} {g b : Nat} {o : Nat -> Nat -> Int} {F : Nat -> Bool} {c : Nat -> Int} {h : Nat -> List Int} {hv : Nat -> Value} (s : SSt W g b o F c h hv) {v : Nat} (h6 : v <= 6) : W.cell? ⟨b + 1, v, none⟩ = some (hv v) := Ze2 s.hs (by omega)
theorem SSt.link {W : World} {g b : Nat} {o : Nat -> Nat -> Int} {F : Nat -> Bool} {c : Nat -> Int} {h : Nat -> List Int} {hv : Nat -> Value} (s : SSt W g b o F c h hv) {u v : Nat} (h5 : u <= 6) (h6 : v <= 6) : W.cell? ⟨g, u * 7 + v, none⟩ = some (.int .i64 (o u v)) := Zkg s.ln h5 h6
theorem SSt.setC {W : World} {g b : Nat} {o : Nat -> Nat -> Int} {F : Nat -> Bool} {c : Nat -> Int} {h : Nat -> List Int} {hv : Nat -> Value} (s : SSt W g b o F c h hv) {v : Nat} (h1 : 1 <= v) (x : Int) : SSt (W.setCell ⟨b, v, none⟩ (.int .i64 x)) g b o F (upd c v x) h hv := by
 have hg := s.gb
 refine ⟨s.gb, (heap_setCell_other W ⟨b, v, none⟩ g _ (by show g ≠ b; omega)).trans s.ln, ?_, (heap_setCell_other W ⟨b, v, none⟩ (b + 1) _ (by show b + 1 ≠ b; omega)).trans s.hs, (heap_setCell_other W ⟨b, v, none⟩ (b + 1 + 1) _ (by show b + 1 + 1 ≠ b; omega)).trans s.ds, fun u => ZaB (s.rows u) (by omega), s.short⟩
 rw [ZfD s.cs, Zdl (fun i _ => ?_)]
 unfold Zlx upd
 by_cases e : i = v
 ·subst e; rw [if_pos rfl, if_neg (by omega), if_pos rfl]
 ·rw [if_neg e]; simp [e]
theorem SSt.setD {W : World} {g b : Nat} {o : Nat -> Nat -> Int} {F : Nat -> Bool} {c : Nat -> Int} {h : Nat -> List Int} {hv : Nat -> Value} (s : SSt W g b o F c h hv) (v : Nat) : SSt (W.setCell ⟨b + 1 + 1, v, none⟩ (.bool true)) g b o (fun x => F x || x == v) c h hv := by
 have hg := s.gb
 refine ⟨s.gb, (heap_setCell_other W ⟨b + 1 + 1, v, none⟩ g _ (by show g ≠ b + 1 + 1; omega)).trans s.ln, (heap_setCell_other W ⟨b + 1 + 1, v, none⟩ b _ (by show b ≠ b + 1 + 1; omega)).trans s.cs, (heap_setCell_other W ⟨b + 1 + 1, v, none⟩ (b + 1) _ (by show b + 1 ≠ b + 1 + 1; omega)).trans s.hs, ?_, fun u => ZaB (s.rows u) (by omega), s.short⟩
 rw [ZfD s.ds, Zdl (fun i _ => ?_)]
 unfold doneV
 by_cases e : i = v
 ·subst e; simp
 ·simp [e]
theorem SSt.setH {W : World} {g b : Nat} {o : Nat -> Nat -> Int} {F : Nat -> Bool} {c : Nat -> Int} {h : Nat -> List Int} {hv : Nat -> Value} (s : SSt W g b o F c h hv) (v : Nat) {x : Value} {l : List Int} (hx : W.ownsRow (b + 3) 3 1 x l.length (flat intE l)) (hl : l.length <= 6) : SSt (W.setCell ⟨b + 1, v, none⟩ x) g b o F c (upd h v l) (upd hv v x) := by
 have hg := s.gb
 refine ⟨s.gb, (heap_setCell_other W ⟨b + 1, v, none⟩ g _ (by show g ≠ b + 1; omega)).trans s.ln, (heap_setCell_other W ⟨b + 1, v, none⟩ b _ (by show b ≠ b + 1; omega)).trans s.cs, ?_, (heap_setCell_other W ⟨b + 1, v, none⟩ (b + 1 + 1) _ (by show b + 1 + 1 ≠ b + 1; omega)).trans s.ds, fun u => ?_, fun u => ?_⟩
 ·rw [ZfD s.hs]; rfl
 ·unfold upd
  by_cases e : u = v
  ·rw [if_pos e, if_pos e]; exact ZaB hx (by omega)
  ·rw [if_neg e, if_neg e]; exact ZaB (s.rows u) (by omega)
 ·unfold upd
  by_cases e : u = v
  ·rw [if_pos e]; exact hl
  ·rw [if_neg e]; exact s.short u
theorem SSt.congr {W : World} {g b : Nat} {o : Nat -> Nat -> Int} {F : Nat -> Bool} {c d : Nat -> Int} {h : Nat -> List Int} {hv : Nat -> Value} (s : SSt W g b o F c h hv) (hc : ∀ v, 1 <= v -> v <= 6 -> d v = c v) : SSt W g b o F d h hv := by
 refine ⟨s.gb, s.ln, ?_, s.hs, s.ds, s.rows, s.short⟩
 rw [s.cs, Zdl (fun i hi => ?_)]
 unfold Zlx
 by_cases e : i = 0
 ·rw [if_pos e, if_pos e]
 ·rw [if_neg e, if_neg e, hc i (by omega) (by omega)]
theorem SSt.start {W : World} {g : Nat} {o : Nat -> Nat -> Int} (hg : W.heap[g]? = some (.cells (rowA (ZgG o) 49) 3)) :
  SSt (((W.alloc (.cells (rowA (fun _ => .int .i64 0) 7) 3)).alloc (.cells (rowA (fun _ => .slice none 0 0) 7) 34)).alloc (.cells (rowA (fun _ => .bool false) 7) 4)) g W.heap.size o (fun _ => false) (fun _ => 0) (fun _ => []) (fun _ => .slice none 0 0) := by
 have hlt := Zab hg
 refine ⟨hlt, ?_, ?_, ?_, ?_, fun v => World.ownsRow_nil _ _ _ _, by simp⟩
 ·rw [Below.heap_alloc _ _ _ (by simp; omega), Below.heap_alloc _ _ _ (by simp; omega), Below.heap_alloc _ _ _ hlt]; exact hg
 ·rw [Below.heap_alloc _ _ _ (by simp; omega), Below.heap_alloc _ _ _ (by simp), heap_alloc_new, Zdl (fun i _ => ?_)]
  unfold Zlx; simp
 ·rw [Below.heap_alloc _ _ _ (by simp)]
  have e := heap_alloc_new (W.alloc (.cells (rowA (fun _ => .int .i64 0) 7) 3)) (.cells (rowA (fun _ => .slice none 0 0) 7) 34)
  rw [show (W.alloc (.cells (rowA (fun _ => .int .i64 0) 7) 3)).heap.size = W.heap.size + 1 by simp] at e
  exact e
 ·have e := heap_alloc_new ((W.alloc (.cells (rowA (fun _ => .int .i64 0) 7) 3)).alloc (.cells (rowA (fun _ => .slice none 0 0) 7) 34)) (.cells (rowA (fun _ => .bool false) 7) 4)
  rw [show ((W.alloc (.cells (rowA (fun _ => .int .i64 0) 7) 3)).alloc (.cells (rowA (fun _ => .slice none 0 0) 7) 34)).heap.size = W.heap.size + 1 + 1 by simp] at e
  exact e
theorem ZhY (a b : List Int) (x : Int) : ∀ k : Nat, x ∈ addT a b k ↔ (1 <= x /\ x <= (k : Int) /\ (x ∈ a \/ x ∈ b))
 | 0 => by simp [addT]; omega
 | k + 1 => by
  unfold addT
  rw [List.mem_append, ZhY a b x k]
  by_cases e : (k : Int) + 1 ∈ a \/ (k : Int) + 1 ∈ b
  ·rw [if_pos e]
   simp only [List.mem_singleton]
   constructor
   ·rintro (⟨h1, h2, h3⟩ | rfl)
    ·exact ⟨h1, by omega, h3⟩
    ·exact ⟨by omega, by omega, e⟩
   ·rintro ⟨h1, h2, h3⟩
    by_cases e2 : x = (k : Int) + 1
    ·exact .inr e2
    ·exact .inl ⟨h1, by omega, h3⟩
  ·rw [if_neg e]
   simp only [List.not_mem_nil, or_false]
   constructor
   ·rintro ⟨h1, h2, h3⟩; exact ⟨h1, by omega, h3⟩
   ·rintro ⟨h1, h2, h3⟩
    refine ⟨h1, ?_, h3⟩
    by_cases e2 : x = (k : Int) + 1
    ·subst e2; exact absurd h3 e
    ·omega
theorem Zj5 (a b : List Int) : ∀ k : Nat, (addT a b k).Pairwise (· < ·)
 | 0 => by simp [addT]
 | k + 1 => by
  unfold addT
  rw [List.pairwise_append]
  refine ⟨Zj5 a b k, by split <;> simp, ?_⟩
  intro x hx y hy
  have h1 := (ZhY a b x k).1 hx
  split at hy
  ·simp at hy; omega
  ·cases hy
theorem ZfI {a b : List Int} {x : Int} : x ∈ addL a b ↔ (1 <= x /\ x <= 6 /\ (x ∈ a \/ x ∈ b)) := ZhY a b x 6
theorem ZfE (a b : List Int) : (addL a b).Pairwise (· < ·) := Zj5 a b 6
theorem Zco (a b : List Int) : (addL a b).length <= 6 := ZhN a b 6
def wayL (src : Nat) (h : Nat -> List Int) (u v : Nat) : List Int := if u = src then [(v : Int)] else h u
theorem Zhz {src : Nat} {h : Nat -> List Int} {u v : Nat} {x : Int} : x ∈ wayL src h u v ↔ Zdu src h u v x := by
 unfold wayL Zdu
 by_cases e : u = src
 ·rw [if_pos e]; simp [e]
 ·rw [if_neg e]; simp [e]
def Zbt (L : Nat -> Nat -> Int) (src : Nat) (c : Nat -> Int) (h : Nat -> List Int) (u v : Nat) : List Int :=
 if 0 < L u v then (if c v < 0 \/ c u + L u v < c v then addL [] (wayL src h u v) else if c u + L u v = c v then addL (h v) (wayL src h u v) else h v) else h v
theorem Zei {L : Nat -> Nat -> Int} {K : Int} {src : Nat} {F : Nat -> Bool} {c : Nat -> Int} {h : Nat -> List Int} (I : Inv L src F c h) (hL : Links L K) {u : Nat} (hu : 0 <= c u) (v : Nat) : RelaxH L src c h u v (Zbt L src c h u v) := by
 have hrng : ∀ x, 0 < L u v -> Zdu src h u v x -> 1 <= x /\ x <= 6 := by
  intro x hl ho
  rcases ho with ⟨_, rfl⟩ | ⟨_, h2⟩
  ·have := (hL.node u v hl).2; unfold ZcN at this; omega
  ·exact I.rng u x h2
 have hneg : c v < 0 -> ∀ x, x ∉ h v := by
  intro hc x hx
  by_cases e : v = src
  ·subst e; rw [I.start0] at hx; cases hx
  ·have := ((I.hop v e x).1 hx).1; omega
 unfold Zbt
 by_cases h1 : 0 < L u v
 ·rw [if_pos h1]
  by_cases h2 : c v < 0 \/ c u + L u v < c v
  ·rw [if_pos h2]
   have e : Zay L c u v = c u + L u v := by unfold Zay; rw [if_pos ⟨h1, h2⟩]
   refine ⟨ZfE _ _, fun x => ?_⟩
   rw [ZfI, e, Zhz]
   constructor
   ·rintro ⟨_, _, h5 | h5⟩
    ·cases h5
    ·exact .inr ⟨h1, rfl, h5⟩
   ·rintro (⟨h5, h6⟩ | ⟨_, _, h5⟩)
    ·omega
    ·have := hrng x h1 h5; exact ⟨this.1, this.2, .inr h5⟩
  ·rw [if_neg h2]
   have e : Zay L c u v = c v := by unfold Zay; rw [if_neg (fun hc => h2 hc.2)]
   by_cases h3 : c u + L u v = c v
   ·rw [if_pos h3]
    refine ⟨ZfE _ _, fun x => ?_⟩
    rw [ZfI, e, Zhz]
    constructor
    ·rintro ⟨_, _, h5 | h5⟩
     ·exact .inl ⟨h5, rfl⟩
     ·exact .inr ⟨h1, h3.symm, h5⟩
    ·rintro (⟨h5, _⟩ | ⟨_, _, h5⟩)
     ·have := I.rng v x h5; exact ⟨this.1, this.2, .inl h5⟩
     ·have := hrng x h1 h5; exact ⟨this.1, this.2, .inr h5⟩
   ·rw [if_neg h3]
    refine ⟨I.asc v, fun x => ?_⟩
    rw [e]
    constructor
    ·intro h5; exact .inl ⟨h5, rfl⟩
    ·rintro (⟨h5, _⟩ | ⟨_, h6, _⟩)
     ·exact h5
     ·omega
 ·rw [if_neg h1]
  have e : Zay L c u v = c v := by unfold Zay; rw [if_neg (fun hc => h1 hc.1)]
  refine ⟨I.asc v, fun x => ?_⟩
  rw [e]
  constructor
  ·intro h5; exact .inl ⟨h5, rfl⟩
  ·rintro (⟨h5, _⟩ | ⟨h6, _⟩)
   ·exact h5
   ·exact absurd h6 h1
def mixC (L : Nat -> Nat -> Int) (c : Nat -> Int) (u j v : Nat) : Int := if v < j then Zay L c u v else c v
def mixH (L : Nat -> Nat -> Int) (src : Nat) (c : Nat -> Int) (h : Nat -> List Int) (u j v : Nat) : List Int := if v < j then Zbt L src c h u v else h v
theorem Zj4 {L : Nat -> Nat -> Int} {K : Int} (hL : Links L K) (c : Nat -> Int) (u : Nat) : mixC L c u 1 = c := by
 funext v
 unfold mixC
 by_cases e : v < 1
 ·rw [if_pos e]
  unfold Zay
  rw [if_neg (fun hc => by have := (hL.node u v hc.1).2; unfold ZcN at this; omega)]
 ·rw [if_neg e]
theorem Zkf {L : Nat -> Nat -> Int} {K : Int} (hL : Links L K) (src : Nat) (c : Nat -> Int) (h : Nat -> List Int) (u : Nat) : mixH L src c h u 1 = h := by
 funext v
 unfold mixH
 by_cases e : v < 1
 ·rw [if_pos e]
  unfold Zbt
  rw [if_neg (fun hc => by have := (hL.node u v hc).2; unfold ZcN at this; omega)]
 ·rw [if_neg e]
theorem Zc9 (L : Nat -> Nat -> Int) (c : Nat -> Int) (u j : Nat) : mixC L c u (j + 1) = upd (mixC L c u j) j (Zay L c u j) := by
 funext v
 unfold upd
 show (if v < j + 1 then Zay L c u v else c v) = if v = j then Zay L c u j else if v < j then Zay L c u v else c v
 by_cases e : v = j
 ·rw [if_pos (by omega), if_pos e, e]
 ·rw [if_neg e]
  by_cases e2 : v < j
  ·rw [if_pos e2, if_pos (by omega)]
  ·rw [if_neg e2, if_neg (by omega)]
theorem Zb4 (L : Nat -> Nat -> Int) (src : Nat) (c : Nat -> Int) (h : Nat -> List Int) (u j : Nat) : mixH L src c h u (j + 1) = upd (mixH L src c h u j) j (Zbt L src c h u j) := by
 funext v
 unfold upd
 show (if v < j + 1 then Zbt L src c h u v else h v) = if v = j then Zbt L src c h u j else if v < j then Zbt L src c h u v else h v
 by_cases e : v = j
 ·rw [if_pos (by omega), if_pos e, e]
 ·rw [if_neg e]
  by_cases e2 : v < j
  ·rw [if_pos e2, if_pos (by omega)]
  ·rw [if_neg e2, if_neg (by omega)]
theorem Zdh {L : Nat -> Nat -> Int} {c : Nat -> Int} {u j : Nat} : mixC L c u j j = c j := by
 unfold mixC; rw [if_neg (by omega)]
theorem ZeL {L : Nat -> Nat -> Int} {src : Nat} {c : Nat -> Int} {h : Nat -> List Int} {u j : Nat} : mixH L src c h u j j = h j := by
 unfold mixH; rw [if_neg (by omega)]
theorem ZnN {α : Type} (f : Nat -> α) (v : Nat) : upd f v (f v) = f := by
 funext i
 unfold upd
 by_cases e : i = v
 ·rw [if_pos e, e]
 ·rw [if_neg e]
theorem ZcS {L : Nat -> Nat -> Int} {c : Nat -> Int} {u j : Nat} (e : Zay L c u j = c j) : mixC L c u (j + 1) = mixC L c u j := by
 rw [Zc9, e, <- Zdh (L := L) (c := c) (u := u) (j := j), ZnN]
theorem ZeI {L : Nat -> Nat -> Int} {src : Nat} {c : Nat -> Int} {h : Nat -> List Int} {u j : Nat} (e : Zbt L src c h u j = h j) : mixH L src c h u (j + 1) = mixH L src c h u j := by
 rw [Zb4, e, <- ZeL (L := L) (src := src) (c := c) (h := h) (u := u) (j := j), ZnN]
theorem ZjZ {L : Nat -> Nat -> Int} {K : Int} (hL : Links L K) (c : Nat -> Int) (u : Nat) : mixC L c u 7 = fun v => Zay L c u v := by
 funext v
 unfold mixC
 by_cases e : v < 7
 ·rw [if_pos e]
 ·rw [if_neg e]
  unfold Zay
  rw [if_neg (fun hc => by have := (hL.node u v hc.1).2; unfold ZcN at this; omega)]
theorem ZjO {L : Nat -> Nat -> Int} {K : Int} (hL : Links L K) (src : Nat) (c : Nat -> Int) (h : Nat -> List Int) (u : Nat) : mixH L src c h u 7 = fun v => Zbt L src c h u v := by
 funext v
 unfold mixH
 by_cases e : v < 7
 ·rw [if_pos e]
 ·rw [if_neg e]
  unfold Zbt
  rw [if_neg (fun hc => by have := (hL.node u v hc).2; unfold ZcN at this; omega)]
theorem Zeu {L : Nat -> Nat -> Int} {src : Nat} {c : Nat -> Int} {h : Nat -> List Int} {u v : Nat} (e : ¬ 0 < L u v) : Zbt L src c h u v = h v /\ Zay L c u v = c v := by
 unfold Zbt Zay
 rw [if_neg e, if_neg (fun hc => e hc.1)]
 exact ⟨rfl, rfl⟩
theorem Zdr {L : Nat -> Nat -> Int} {src : Nat} {c : Nat -> Int} {h : Nat -> List Int} {u v : Nat} (h0 : 0 <= c v) (e : c v < c u + L u v) : Zbt L src c h u v = h v /\ Zay L c u v = c v := by
 unfold Zbt Zay
 constructor
 ·split
  ·rw [if_neg (by omega), if_neg (by omega)]
  ·rfl
 ·rw [if_neg (by omega)]
theorem ZcP {L : Nat -> Nat -> Int} {src : Nat} {c : Nat -> Int} {h : Nat -> List Int} {u v : Nat} (hl : 0 < L u v) (e : c v < 0 \/ c u + L u v < c v) : Zbt L src c h u v = addL [] (wayL src h u v) /\ Zay L c u v = c u + L u v := by
 unfold Zbt Zay
 rw [if_pos hl, if_pos e, if_pos ⟨hl, e⟩]
 exact ⟨rfl, rfl⟩
theorem Zes {L : Nat -> Nat -> Int} {src : Nat} {c : Nat -> Int} {h : Nat -> List Int} {u v : Nat} (hl : 0 < L u v) (h0 : 0 <= c v) (e : c u + L u v = c v) : Zbt L src c h u v = addL (h v) (wayL src h u v) /\ Zay L c u v = c v := by
 unfold Zbt Zay
 rw [if_pos hl, if_neg (by omega), if_pos e, if_neg (by omega)]
 exact ⟨rfl, rfl⟩
abbrev WP := WayD × Value
def encW (p : WP) : List Value := [.int .i64 p.1.to, .int .i64 p.1.cost, p.2]
def Zbc : WayD := ⟨0, 0, []⟩
theorem Za9 (p : WP) : (encW p).length = 3 := rfl
def ZcF (W : World) (v : Value) (ps : List WP) (B : Nat) : Prop := Za2 encW 3 W v ps B /\ ∀ p ∈ ps, ZaK W p.2 p.1.hops B
theorem ZcF.shape {W : World} {v : Value} {ps : List WP} {B : Nat} (h : ZcF W v ps B) : ∃ a cap, v = .slice a ps.length cap := by
 obtain ⟨⟨a, cap, h, _⟩, _⟩ := h
 exact ⟨a, cap, h⟩
theorem ZcF.later {W W' : World} {v : Value} {ps : List WP} {B C : Nat} (h : ZcF W v ps B) (hb : Below C W W') (hBC : B <= C) : ZcF W' v ps B :=
 ⟨ZaR.later h.1 hb hBC, fun p hp => ZaR.later (h.2 p hp) hb hBC⟩
theorem ZcF.more {W : World} {v : Value} {ps : List WP} {B C : Nat} (h : ZcF W v ps B) (hBC : B <= C) : ZcF W v ps C :=
 ⟨ZaR.more h.1 hBC, fun p hp => ZaR.more (h.2 p hp) hBC⟩
theorem ZcF.then {W W' : World} {v : Value} {ps : List WP} (h : ZcF W v ps W.heap.size) (hb : Below W.heap.size W W') : ZcF W' v ps W'.heap.size := (h.later hb (Nat.le_refl _)).more hb.size
def Zbv (W : World) (lo hi : Nat) (p : WP) : Prop := W.ownsRow lo 3 1 p.2 p.1.hops.length (flat intE p.1.hops) /\ ∀ k, p.2.ownBlock = some k -> k < hi
def Zcu (p q : WP) : Prop := ∀ k, p.2.ownBlock = some k -> q.2.ownBlock ≠ some k
structure WaysOwn (W : World) (lo hi : Nat) (v : Value) (ps : List WP) : Prop where
 row : W.ownsRow lo 46 3 v ps.length (flat encW ps)
 top : ∀ k, v.ownBlock = some k -> k < hi
 nears : ∀ p ∈ ps, Zbv W lo hi p
 apart : ps.Pairwise Zcu
theorem Zbv.keep {W W' : World} {lo hi : Nat} {p : WP} (h : Zbv W lo hi p) (hk : ∀ k, lo <= k -> k < hi -> k < W.heap.size -> W'.heap[k]? = W.heap[k]?) : Zbv W' lo hi p :=
 ⟨Zap h.1 (fun k e => hk k (h.1.lt k e).1 (h.2 k e) (h.1.lt k e).2), h.2⟩
theorem Zbv.wide {W : World} {lo hi lo' hi' : Nat} {p : WP} (h : Zbv W lo hi p) (hl : lo' <= lo) (hh : hi <= hi') : Zbv W lo' hi' p :=
 ⟨Zag h.1 hl, fun k e => Nat.lt_of_lt_of_le (h.2 k e) hh⟩
theorem Zbv.at {W : World} {lo hi : Nat} {p : WP} (h : Zbv W lo hi p) : ZaK W p.2 p.1.hops hi := by
 have h1 := Zat h.1
 obtain ⟨a, cap, hv, h2⟩ := h1
 refine ⟨a, cap, hv, ?_⟩
 rcases h2 with h0 | ⟨b, off, ha, hb1, hx⟩
 ·exact .inl h0
 ·exact .inr ⟨b, off, ha, h.2 b (by rw [hv, ha]; rfl), hx⟩
theorem WaysOwn.keep {W W' : World} {lo hi : Nat} {v : Value} {ps : List WP} (h : WaysOwn W lo hi v ps) (hk : ∀ k, lo <= k -> k < hi -> k < W.heap.size -> W'.heap[k]? = W.heap[k]?) : WaysOwn W' lo hi v ps where
 row := Zap h.row (fun k e => hk k (h.row.lt k e).1 (h.top k e) (h.row.lt k e).2)
 top := h.top
 nears := fun p hp => (h.nears p hp).keep hk
 apart := h.apart
theorem WaysOwn.below {W W' : World} {lo hi B : Nat} {v : Value} {ps : List WP} (h : WaysOwn W lo hi v ps) (hb : Below B W W') (hB : hi <= B) : WaysOwn W' lo hi v ps := h.keep (fun k _ h2 _ => hb.block k (by omega))
theorem WaysOwn.wide {W : World} {lo hi lo' hi' : Nat} {v : Value} {ps : List WP} (h : WaysOwn W lo hi v ps) (hl : lo' <= lo) (hh : hi <= hi') : WaysOwn W lo' hi' v ps where
 row := Zag h.row hl
 top := fun k e => Nat.lt_of_lt_of_le (h.top k e) hh
 nears := fun p hp => (h.nears p hp).wide hl hh
 apart := h.apart
theorem WaysOwn.at {W : World} {lo hi : Nat} {v : Value} {ps : List WP} (h : WaysOwn W lo hi v ps) : ZcF W v ps hi := by
 refine ⟨?_, fun p hp => (h.nears p hp).at⟩
 have h1 := Zat h.row
 obtain ⟨a, cap, hv, h2⟩ := h1
 refine ⟨a, cap, hv, ?_⟩
 rcases h2 with h0 | ⟨b, off, ha, hb1, hx⟩
 ·exact .inl h0
 ·exact .inr ⟨b, off, ha, h.top b (by rw [hv, ha]; rfl), hx⟩
theorem WaysOwn.frame {W W' : World} {lo hi l2 h2 : Nat} {v : Value} {ps : List WP} (h : WaysOwn W lo hi v ps) (hb : Frame l2 h2 W W') (hB : hi <= l2 \/ h2 <= lo) : WaysOwn W' lo hi v ps := h.keep (fun k h1 h2 h3 => hb.block k h3 (by omega))
theorem ZkR {W : World} {lo hi : Nat} {ps : List WP} {p : WP} (h : ps.Pairwise Zcu) (hn : ∀ q ∈ ps, Zbv W lo hi q) (hp : ∀ k, p.2.ownBlock = some k -> hi <= k) : (ps ++ [p]).Pairwise Zcu := by
 rw [List.pairwise_append]
 refine ⟨h, by simp, ?_⟩
 intro a ha b hb
 have : b = p := by simpa using hb
 subst this
 intro k hk he
 have h1 := (hn a ha).2 k hk
 have h2 := hp k he
 omega
def totW (ps : List WP) : Nat := (ps.map (fun p => 1 + p.1.hops.length)).sum
theorem Zgq (p : WP) (ps : List WP) : totW (p :: ps) = 1 + p.1.hops.length + totW ps := by simp [totW]
theorem Zjp (a b : List WP) : totW (a ++ b) = totW a + totW b := by simp [totW]
theorem Zd4 (ps : List WP) : ps.length <= totW ps := by
 induction ps with
 | nil => simp [totW]
 | cons p ps ih => rw [Zgq, List.length_cons]; omega
theorem ZjS {ps : List WP} {p : WP} (h : p ∈ ps) : p.1.hops.length <= totW ps := by
 induction ps with
 | nil => simp at h
 | cons q ps ih =>
  rw [Zgq]
  rcases List.mem_cons.1 h with rfl | h1
  ·omega
  ·have := ih h1; omega
theorem ZcF.cells {W : World} {v : Value} {ps : List WP} {B : Nat} (h : ZcF W v ps B) (i : Nat) (p : WP) (hp : ps[i]? = some p) :
  ∃ b off cap, v = .slice (some ⟨b, off, none⟩) ps.length cap /\ b < B /\ W.cell? ⟨b, off + i * 3, none⟩ = some (.int .i64 p.1.to) /\ W.cell? ⟨b, off + i * 3 + 1, none⟩ = some (.int .i64 p.1.cost) /\ W.cell? ⟨b, off + i * 3 + 2, none⟩ = some p.2 /\ ZaK W p.2 p.1.hops B := by
 obtain ⟨b, off, cap, hv, hb, hc⟩ := Za2.cell h.1 Za9 i p hp
 exact ⟨b, off, cap, hv, hb, hc 0 _ rfl, hc 1 _ rfl, hc 2 _ rfl, h.2 p (List.mem_of_getElem? hp)⟩
abbrev putW (W : World) (g o : Nat) (p : WP) : World := ((W.setCell ⟨g, o, none⟩ (.int .i64 p.1.to)).setCell ⟨g, o + 1, none⟩ (.int .i64 p.1.cost)).setCell ⟨g, o + 2, none⟩ p.2
theorem Zg9 (W : World) (g o : Nat) (p : WP) : W.grownBy (putW W g o p) (some g) := Zal (Zal (Zam W g _ _) (Zam _ g _ _)) (Zam _ g _ _)
theorem Zmo {W : World} {base g cap n j : Nat} {xs : List WP} {p : WP} (h : W.ownsRow base 46 3 (.slice (some ⟨g, 0, none⟩) n cap) n (flat encW xs)) (hj : j < xs.length) :
  (putW W g (j * 3) p).ownsRow base 46 3 (.slice (some ⟨g, 0, none⟩) n cap) n (flat encW (xs.set j p)) := by
 have e : (((flat encW xs).set (j * 3) (.int .i64 p.1.to)).set (j * 3 + 1) (.int .i64 p.1.cost)).set (j * 3 + 2) p.2 = flat encW (xs.set j p) := ZjV Za9 xs j p hj
 rw [<- e]
 exact (((h.stored (j * 3) _).1.stored (j * 3 + 1) _).1.stored (j * 3 + 2) _).1
theorem Tryz.infoWay : (Tryz.prog.info? 46).map (fun i => (i.zero, i.size, i.bytes)) = some (some (.agg (wayC Zbc (.slice none 0 0))), 3, 40) := by kernel_rfl
def Zah (ps : List WP) : List WayD := ps.map (·.1)
theorem Zc6 {ps : List WP} {i : Nat} {p : WP} (h : ps[i]? = some p) : (Zah ps)[i]? = some p.1 := by simp [Zah, h]
theorem Zhe (ps : List WP) : ps.Pairwise Zcu ↔ (ps.map (·.2)).Pairwise (fun a b : Value => ∀ k, a.ownBlock = some k -> b.ownBlock ≠ some k) := by
 rw [List.pairwise_map]
 exact Iff.rfl
theorem Zme {ps : List WP} (h : ps.Pairwise Zcu) {i k : Nat} {p q : WP} (hi : ps[i]? = some p) (hk : ps[k]? = some q) (hne : i ≠ k) : Zcu p q := by
 obtain ⟨h1, e1⟩ := List.getElem?_eq_some_iff.1 hi
 obtain ⟨h2, e2⟩ := List.getElem?_eq_some_iff.1 hk
 rw [List.pairwise_iff_getElem] at h
 rcases Nat.lt_or_ge i k with hl | hl
 ·have := h i k h1 h2 hl
  rw [e1, e2] at this
  exact this
 ·have := h k i h2 h1 (by omega)
  rw [e1, e2] at this
  exact fun j hj he => this j he hj
theorem Zm8 {ps : List WP} {k : Nat} {p q : WP} (hk : ps[k]? = some p) (h : q.2 = p.2) : (ps.set k q).map (·.2) = ps.map (·.2) := by
 apply List.ext_getElem?
 intro i
 by_cases e : i = k
 ·subst e
  obtain ⟨h1, e1⟩ := List.getElem?_eq_some_iff.1 hk
  rw [List.getElem?_map, List.getElem?_set_self h1, List.getElem?_map, hk]
  simp [h]
 ·simp [List.getElem?_set_ne (Ne.symm e)]
theorem WaysOwn.turn {W W8 : World} {lo hi g n cap k : Nat} {xs : List WP} {p q : WP} (h : WaysOwn W lo hi (.slice (some ⟨g, 0, none⟩) n cap) xs) (hn : xs.length = n) (hk : xs[k]? = some p) (hq : q.2 = p.2)
  (row : W8.ownsRow lo 46 3 (.slice (some ⟨g, 0, none⟩) n cap) n (flat encW (xs.set k q))) (near : W8.ownsRow lo 3 1 q.2 q.1.hops.length (flat intE q.1.hops))
  (hkeep : ∀ j, j < W.heap.size -> j ≠ g -> some j ≠ p.2.ownBlock -> W8.heap[j]? = W.heap[j]?) : WaysOwn W8 lo hi (.slice (some ⟨g, 0, none⟩) n cap) (xs.set k q) where
 row := by rw [List.length_set, hn]; exact row
 top := h.top
 apart := by rw [Zhe, Zm8 hk hq, <- Zhe]; exact h.apart
 nears := by
  intro r hr
  obtain ⟨i, hi, e⟩ := List.getElem_of_mem hr
  have hr2 : (xs.set k q)[i]? = some r := by rw [<- e]; exact List.getElem?_eq_getElem hi
  by_cases ek : i = k
  ·subst ek
   rw [List.getElem?_set_self (by simpa using hi)] at hr2
   cases hr2
   refine ⟨near, ?_⟩
   rw [hq]
   exact (h.nears p (List.mem_of_getElem? hk)).2
  ·rw [List.getElem?_set_ne (Ne.symm ek)] at hr2
   have ho := h.nears r (List.mem_of_getElem? hr2)
   refine ⟨Zap ho.1 (fun j hj => ?_), ho.2⟩
   refine hkeep j (ho.1.lt j hj).2 ?_ ?_
   ·rintro rfl
    obtain ⟨cur, hh⟩ : ∃ cur, W.heap[j]? = some (.cells cur 46 (0, 0)) := by
     rcases h.row.2 with ⟨h0, _⟩ | ⟨g', cap', cur', hv', _, hh', _⟩
     ·cases h0
     ·cases hv'; exact ⟨cur', hh'⟩
    rcases ho.1.2 with ⟨h0, _⟩ | ⟨g', cap', cur', hv', _, hh', _⟩
    ·rw [h0] at hj; simp [Value.ownBlock] at hj
    ·rw [hv'] at hj
     simp [Value.ownBlock] at hj
     subst hj
     rw [hh] at hh'
     simp at hh'
   ·intro he
    exact Zme h.apart hr2 hk ek j hj he.symm
def Zb3 (F : Nat -> Bool) : Nat := (F 1).toNat + (F 2).toNat + (F 3).toNat + (F 4).toNat + (F 5).toNat + (F 6).toNat
theorem Zfs {u : Nat} (h : 1 <= u /\ u <= 6) : u = 1 \/ u = 2 \/ u = 3 \/ u = 4 \/ u = 5 \/ u = 6 := by omega
theorem ZdU {F : Nat -> Bool} {u : Nat} (hu : 1 <= u /\ u <= 6) (hF : F u = false) : Zb3 (fun v => F v || v == u) = Zb3 F + 1 := by
 unfold Zb3
 rcases Zfs hu with rfl | rfl | rfl | rfl | rfl | rfl <;> simp [hF] <;> omega
theorem ZhH (F : Nat -> Bool) : Zb3 F <= 6 := by
 unfold Zb3
 have h1 := Bool.toNat_le (F 1)
 have h2 := Bool.toNat_le (F 2)
 have h3 := Bool.toNat_le (F 3)
 have h4 := Bool.toNat_le (F 4)
 have h5 := Bool.toNat_le (F 5)
 have h6 := Bool.toNat_le (F 6)
 omega
theorem Zmn {F : Nat -> Bool} (h : Zb3 F = 6) {u : Nat} (hu : 1 <= u /\ u <= 6) : F u = true := by
 cases e : F u with
 | true => rfl
 | false =>
  have := ZdU hu e
  have := ZhH (fun v => F v || v == u)
  omega
theorem Zgk : Zb3 (fun _ => false) = 0 := rfl
def ZcK (c : Nat -> Int) (h : Nat -> List Int) : Nat -> List WayD
 | 0 => []
 | k + 1 => ZcK c h k ++ (if 0 <= c (k + 1) then [⟨((k + 1 : Nat) : Int), c (k + 1), h (k + 1)⟩] else [])
theorem Zhd {c d : Nat -> Int} {h g : Nat -> List Int} (e : ∀ v, (0 <= c v -> d v = c v /\ g v = h v) /\ (0 <= d v -> 0 <= c v)) : ∀ k, ZcK c h k = ZcK d g k
 | 0 => rfl
 | k + 1 => by
  unfold ZcK
  rw [Zhd e k]
  congr 1
  by_cases h0 : 0 <= c (k + 1)
  ·have := (e (k + 1)).1 h0
   rw [if_pos h0, if_pos (by omega), this.1, this.2]
  ·rw [if_neg h0, if_neg (fun hc => h0 ((e (k + 1)).2 hc))]
theorem Fix.coll {L : Nat -> Nat -> Int} {src : Nat} {c d : Nat -> Int} {h g : Nat -> List Int} (A : Fix L src c h) (B : Fix L src d g) : ZcK c h 6 = ZcK d g 6 := by
 refine Zhd (fun v => ⟨fun h0 => ⟨A.cost B v h0, A.hops B v h0⟩, fun h0 => ?_⟩) 6
 have := B.cost A v h0
 omega
def Zbs (xs : List RecD) (area src : Int) (ds : List WayD) : Prop :=
 if (ZaE xs && inB src 1 6 && ZhT xs area src) = true then ∃ c h, Fix (ZeE xs area) src.toNat c h /\ ds = ZcK c h 6 else ds = []
theorem Zbs.unique {xs : List RecD} {area src : Int} {ds es : List WayD} (h1 : Zbs xs area src ds) (h2 : Zbs xs area src es) : ds = es := by
 unfold Zbs at h1 h2
 split at h1
 ·rename_i e
  rw [if_pos e] at h2
  obtain ⟨c, h, A, rfl⟩ := h1
  obtain ⟨d, g, B, rfl⟩ := h2
  exact A.coll B
 ·rename_i e
  rw [if_neg e] at h2
  rw [h1, h2]
theorem ZeD (c : Nat -> Int) (h : Nat -> List Int) {v : Nat} (hv : 1 <= v) : ZcK c h v = ZcK c h (v - 1) ++ (if 0 <= c v then [⟨(v : Int), c v, h v⟩] else []) := by
 obtain ⟨k, rfl⟩ : ∃ k, v = k + 1 := ⟨v - 1, by omega⟩
 rfl
theorem ZjW (c : Nat -> Int) (h : Nat -> List Int) : ∀ k, (ZcK c h k).length <= k
 | 0 => by simp [ZcK]
 | k + 1 => by
  unfold ZcK
  have := ZjW c h k
  rw [List.length_append]
  split <;> simp <;> omega
theorem Zmt {L : Nat -> Nat -> Int} {c : Nat -> Int} {u j : Nat} (hu : 0 <= c u) : mixC L c u j u = c u := by
 unfold mixC
 split
 ·exact Zds hu (Int.le_refl _)
 ·rfl
theorem Zer {L : Nat -> Nat -> Int} {src : Nat} {c : Nat -> Int} {h : Nat -> List Int} {u v : Nat} (h0 : 0 <= c v) (hv : c v <= c u) : Zbt L src c h u v = h v /\ Zay L c u v = c v := by
 by_cases hl : 0 < L u v
 ·exact Zdr h0 (by omega)
 ·exact Zeu hl
theorem Zjr {L : Nat -> Nat -> Int} {src : Nat} {c : Nat -> Int} {h : Nat -> List Int} {u j : Nat} (hu : 0 <= c u) : mixH L src c h u j u = h u := by
 unfold mixH
 split
 ·exact (Zer hu (Int.le_refl _)).1
 ·rfl
theorem Zfx {L : Nat -> Nat -> Int} {c : Nat -> Int} {u v : Nat} {B : Int} (h : ∀ v, c v <= B) (hL : ∀ u v, L u v <= 1000) : Zay L c u v <= B + 1000 := by
 unfold Zay
 have := h v
 have := h u
 have := hL u v
 split <;> omega
def Zi7 (F : Nat -> Bool) (c : Nat -> Int) (v a : Nat) : Prop :=
 (a = 0 /\ ∀ x, 1 <= x -> x < v -> F x = false -> c x < 0) \/ (1 <= a /\ a < v /\ F a = false /\ 0 <= c a /\ ∀ x, 1 <= x -> x < v -> F x = false -> 0 <= c x -> c a <= c x)
theorem Zfi {F : Nat -> Bool} {c : Nat -> Int} {v a : Nat} (h : Zi7 F c v a) (hs : F v = true \/ c v < 0 \/ (1 <= a /\ c a <= c v)) : Zi7 F c (v + 1) a := by
 rcases h with ⟨h1, h2⟩ | ⟨h1, h2, h3, h4, h5⟩
 ·refine .inl ⟨h1, fun x hx1 hx2 hF => ?_⟩
  by_cases e : x = v
  ·subst e
   rcases hs with h | h | h
   ·rw [hF] at h; cases h
   ·exact h
   ·omega
  ·exact h2 x hx1 (by omega) hF
 ·refine .inr ⟨h1, by omega, h3, h4, fun x hx1 hx2 hF hc => ?_⟩
  by_cases e : x = v
  ·subst e
   rcases hs with h | h | h
   ·rw [hF] at h; cases h
   ·omega
   ·exact h.2
  ·exact h5 x hx1 (by omega) hF hc
theorem ZgP {F : Nat -> Bool} {c : Nat -> Int} {v a : Nat} (h : Zi7 F c v a) (h1v : 1 <= v) (hF : F v = false) (hc : 0 <= c v) (hs : a = 0 \/ c v < c a) : Zi7 F c (v + 1) v := by
 refine .inr ⟨h1v, by omega, hF, hc, fun x hx1 hx2 hFx hcx => ?_⟩
 by_cases e : x = v
 ·subst e; omega
 ·rcases h with ⟨h1, h2⟩ | ⟨h1, h2, h3, h4, h5⟩
  ·have := h2 x hx1 (by omega) hFx; omega
  ·have := h5 x hx1 (by omega) hFx hcx; omega
structure AtRound (L : Nat -> Nat -> Int) (src : Nat) (F : Nat -> Bool) (c : Nat -> Int) (h : Nat -> List Int) (r : Nat) : Prop where
 inv : Inv L src F c h
 bnd : ∀ v, c v <= 1000 * (Zb3 F : Int)
 at' : Zb3 F + 1 = r \/ (r = 7 /\ ∀ v, 0 <= c v -> F v = true)
theorem AtRound.init {L : Nat -> Nat -> Int} {src : Nat} (hs : ZcN src) : AtRound L src (fun _ => false) (fun v => if v = src then 0 else -1) (fun _ => []) 1 := by
 refine ⟨Inv.init hs, fun v => ?_, .inl rfl⟩
 rw [Zgk]
 show (if v = src then (0 : Int) else -1) <= _
 split <;> omega
theorem AtRound.fin {L : Nat -> Nat -> Int} {src : Nat} {F : Nat -> Bool} {c : Nat -> Int} {h : Nat -> List Int} (a : AtRound L src F c h 7) : Fix L src c h /\ ∀ v, F v = true ↔ 0 <= c v := by
 have hf : ∀ v, 0 <= c v -> F v = true := by
  rcases a.at' with h1 | ⟨_, h1⟩
  ·intro v hv
   exact Zmn (by omega) (a.inv.cnode v hv)
  ·exact h1
 exact ⟨⟨F, a.inv, hf⟩, fun v => ⟨fun hv => (a.inv.fnode v hv).2, hf v⟩⟩
theorem AtRound.none {L : Nat -> Nat -> Int} {src : Nat} {F : Nat -> Bool} {c : Nat -> Int} {h : Nat -> List Int} {r : Nat} (a : AtRound L src F c h r) (hm : Zi7 F c 7 0) : AtRound L src F c h 7 := by
 refine ⟨a.inv, a.bnd, .inr ⟨rfl, fun v hv => ?_⟩⟩
 have hn := a.inv.cnode v hv
 unfold ZcN at hn
 cases e : F v with
 | true => rfl
 | false =>
  rcases hm with ⟨_, h2⟩ | ⟨h1, _⟩
  ·have := h2 v hn.1 (by omega) e; omega
  ·omega
theorem AtRound.next {L : Nat -> Nat -> Int} {src : Nat} {F : Nat -> Bool} {c : Nat -> Int} {h : Nat -> List Int} {r u : Nat} (a : AtRound L src F c h r) (hL : Links L 1000) (hr : r < 7) (hm : Zi7 F c 7 u) (hu : 1 <= u) : AtRound L src (fun v => F v || v == u) (fun v => Zay L c u v) (fun v => Zbt L src c h u v) (r + 1) := by
 rcases hm with ⟨h1, _⟩ | ⟨h1, h2, h3, h4, h5⟩
 ·omega
 ·have hcard : Zb3 (fun v => F v || v == u) = Zb3 F + 1 := ZdU ⟨h1, by omega⟩ h3
  refine ⟨a.inv.step hL h3 h4 (fun v hv hc => ?_) (fun v => Zei a.inv hL h4 v), fun v => ?_, .inl ?_⟩
  ·have hn := a.inv.cnode v hc
   unfold ZcN at hn
   exact h5 v hn.1 (by omega) hv hc
  ·rw [hcard]
   have := Zfx (L := L) (u := u) (v := v) a.bnd hL.le
   omega
  ·rw [hcard]
   rcases a.at' with h6 | ⟨h6, _⟩
   ·omega
   ·omega
theorem ZeP (W : World) (lo : Nat) (hb : lo <= W.heap.size) : WaysOwn (W.alloc (.cells #[] 46)) lo (W.alloc (.cells #[] 46)).heap.size (.slice (some ⟨W.heap.size, 0, none⟩) 0 0) [] where
 row := World.ownsRow_lit W #[] 0 hb (by unfold maxLen; omega) (by simp)
 top := by intro k hk; simp [Value.ownBlock] at hk; subst hk; simp
 nears := by simp
 apart := by simp
end Go.Proofs.YtakiifededfjlaaGreat
namespace Go.Proofs.YtakiifededfjlaaGreat
open Go.RowKit

open Classical in
noncomputable def ZbR (xs : List RecD) (area src : Int) : List WayD := if h : ∃ ds, Zbs xs area src ds then Classical.choose h else []

theorem Zbs.eq {xs : List RecD} {area src : Int} {ds : List WayD} (h : Zbs xs area src ds) : ds = ZbR xs area src := by
 unfold ZbR
 rw [dif_pos ⟨ds, h⟩]
 exact h.unique (Classical.choose_spec (⟨ds, h⟩ : ∃ ds, Zbs xs area src ds))

def Zd9 (tog : WayD -> WayD -> WayD) (best : Option WayD) (w : Option WayD) : Option WayD := match w with
 | none => best
 | some w => match best with
  | none => some w
  | some b => some (tog b w)

def ZaI (ds : List WayD) (to : Int) : Option WayD := ds.find? (fun x => x.to == to)

end Go.Proofs.YtakiifededfjlaaGreat
namespace Go.Proofs.YtakiifededfjlaaGreat
open Go.RowKit
set_option linter.unusedSimpArgs false
set_option linter.unusedVariables false
set_option maxRecDepth 100000
set_option maxHeartbeats 8000000
def Zbb (x y : WayD) : Bool := decide (x.cost < y.cost)
theorem Zgd (u1 u2 : Value) (x y : WayD) (w : World) : Calls Tryz.prog 109 #[.agg (wayC x u1), .agg (wayC y u2)] w fun e w' => e = .returned (.bool (Zbb x y)) /\ Below w.heap.size w w' := by
 unfold wayC Zbb
 go_enter Tryz.func109, Tryz.ntmps109
 go_wp2
 go_ret
 exact ⟨rfl, Za1 _ _⟩
theorem Zb9 (u1 u2 : Value) (x y : WayD) (w : World) : Calls Tryz.prog 99 #[.agg (wayC x u1), .agg (wayC y u2)] w fun e w' => e = .returned (.bool (Zbb x y)) /\ Below w.heap.size w w' := by
 unfold wayC Zbb
 go_enter Tryz.func99, Tryz.ntmps99
 go_wp2
 go_ret
 exact ⟨rfl, Za1 _ _⟩
def togD (x y : WayD) : WayD := if Zbb x y then x else if Zbb y x then y else ⟨x.to, x.cost, addL x.hops y.hops⟩
theorem ZfP (a b : List Int) : (addL a b).length <= 6 := ZhN a b 6
theorem Zls {x y : WayD} {n : Nat} (hx : x.hops.length <= n) (hy : y.hops.length <= n) (h6 : 6 <= n) : (togD x y).hops.length <= n := by
 unfold togD
 split
 ·exact hx
 ·split
  ·exact hy
  ·exact Nat.le_trans (ZfP _ _) h6
theorem cellW3 {W : World} {g b j : Nat} {x0 x1 x2 : Value} (h : b ≠ g) : (((W.setCell ⟨g, 0, none⟩ x0).setCell ⟨g, 1, none⟩ x1).setCell ⟨g, 2, none⟩ x2).cell? ⟨b, j, none⟩ = W.cell? ⟨b, j, none⟩ := by
 refine World.cell?_of_block ?_
 show (((W.setCell ⟨g, 0, none⟩ x0).setCell ⟨g, 1, none⟩ x1).setCell ⟨g, 2, none⟩ x2).heap[b]? = W.heap[b]?
 rw [heap_setCell_other _ ⟨g, 2, none⟩ b _ h, heap_setCell_other _ ⟨g, 1, none⟩ b _ h, heap_setCell_other _ ⟨g, 0, none⟩ b _ h]
theorem Zkd (x y : WayD) (u1 u2 : Value) (b1 b2 : Nat) (w : World) (h1 : w.ownsRow b1 3 1 u1 x.hops.length (flat intE x.hops)) (h2 : w.ownsRow b2 3 1 u2 y.hops.length (flat intE y.hops)) (hx : x.hops.length <= 1048576) (hy : y.hops.length <= 1048576) :
  Calls Tryz.prog 82 #[.agg (wayC x u1), .agg (wayC y u2)] w fun e w' => ∃ v', e = .returned (.agg (wayC (togD x y) v')) /\ w'.ownsRow w.heap.size 3 1 v' (togD x y).hops.length (flat intE (togD x y).hops) /\ Below w.heap.size w w' := by
 obtain ⟨a1, c1, rfl⟩ := Zac h1
 obtain ⟨a2, c2, rfl⟩ := Zac h2
 have HC1 := hide (fun W (hb : Below w.heap.size w W) => ZfY x (.slice a1 x.hops.length c1) b1 W (Zae h1 hb (Nat.le_refl _)) hx)
 have HC2 := hide (fun W (hb : Below w.heap.size w W) => ZfY y (.slice a2 y.hops.length c2) b2 W (Zae h2 hb (Nat.le_refl _)) hy)
 have HB1 := hide (fun W => Zgd (.slice a1 x.hops.length c1) (.slice a2 y.hops.length c2) x y W)
 have HB2 := hide (fun W => Zgd (.slice a2 y.hops.length c2) (.slice a1 x.hops.length c1) y x W)
 have HAD := hide (fun W (hb : Below w.heap.size w W) => ZbD (.slice a1 x.hops.length c1) (.slice a2 y.hops.length c2) x.hops y.hops W hx hy ((ZaR.later (Zat h1) hb (Nat.le_refl _)).more hb.size) ((ZaR.later (Zat h2) hb (Nat.le_refl _)).more hb.size))
 obtain ⟨P, hP⟩ : ∃ P, P = Zbb x y := ⟨_, rfl⟩
 obtain ⟨Q, hQ⟩ : ∃ Q, Q = Zbb y x := ⟨_, rfl⟩
 obtain ⟨D, hD⟩ : ∃ D, D = togD x y := ⟨_, rfl⟩
 rw [<- hP] at HB1
 rw [<- hQ] at HB2
 rw [<- hD]
 have HD := hide hD
 unfold togD at HD
 rw [<- hP, <- hQ] at HD
 have BW := Zgl (w := w) (.cells #[.int .i64 x.to, .int .i64 x.cost, .slice a1 x.hops.length c1] 46) (.cells #[.int .i64 y.to, .int .i64 y.cost, .slice a2 y.hops.length c2] 46) (.cells #[.int .i64 0, .int .i64 0, .slice none 0 0] 46)
 have q0 := Zmq w (.cells #[.int .i64 x.to, .int .i64 x.cost, .slice a1 x.hops.length c1] 46) (.cells #[.int .i64 y.to, .int .i64 y.cost, .slice a2 y.hops.length c2] 46) (.cells #[.int .i64 0, .int .i64 0, .slice none 0 0] 46)
 have q1 := ZlU w (.cells #[.int .i64 x.to, .int .i64 x.cost, .slice a1 x.hops.length c1] 46) (.cells #[.int .i64 y.to, .int .i64 y.cost, .slice a2 y.hops.length c2] 46) (.cells #[.int .i64 0, .int .i64 0, .slice none 0 0] 46)
 have q2 := Zl0 w (.cells #[.int .i64 x.to, .int .i64 x.cost, .slice a1 x.hops.length c1] 46) (.cells #[.int .i64 y.to, .int .i64 y.cost, .slice a2 y.hops.length c2] 46) (.cells #[.int .i64 0, .int .i64 0, .slice none 0 0] 46)
 obtain ⟨w0, hw0⟩ : ∃ W, W = ((w.alloc (.cells #[.int .i64 x.to, .int .i64 x.cost, .slice a1 x.hops.length c1] 46)).alloc (.cells #[.int .i64 y.to, .int .i64 y.cost, .slice a2 y.hops.length c2] 46)).alloc (.cells #[.int .i64 0, .int .i64 0, .slice none 0 0] 46) := ⟨_, rfl⟩
 rw [<- hw0] at BW q0 q1 q2
 clear h1 h2 hP hQ hD
 unfold wayC at *
 have fin : ∀ (X : WayD) (na : Option Addr) (nc lo : Nat) (W : World), W.heap[w.heap.size + 1 + 1]? = some (.cells #[.int .i64 0, .int .i64 0, .slice none 0 0] 46) -> W.ownsRow lo 3 1 (.slice na X.hops.length nc) X.hops.length (flat intE X.hops) -> w.heap.size + 1 + 1 < lo -> Below w.heap.size w W -> (Za0 W (w.heap.size + 1 + 1) X (.slice na X.hops.length nc)).heap[w.heap.size + 1 + 1]? = some (.cells (wayC X (.slice na X.hops.length nc)) 46) /\ (Za0 W (w.heap.size + 1 + 1) X (.slice na X.hops.length nc)).ownsRow w.heap.size 3 1 (.slice na X.hops.length nc) X.hops.length (flat intE X.hops) /\ Below w.heap.size w (Za0 W (w.heap.size + 1 + 1) X (.slice na X.hops.length nc)) := by
  intro X na nc lo W hz ho hlo hb
  have G := ZaX W (w.heap.size + 1 + 1) X (.slice na X.hops.length nc)
  refine ⟨Zc7 X _ hz, Zag (Zap ho (fun k hk => G.block k (ho.lt k hk).2 (fun e => by have := (ho.lt k hk).1; simp at e; omega))) (by omega), hb.grown G hb.size (fun k hk => by simp at hk; omega)⟩
 have FIN := hide fin
 clear fin
 have r0 := Zaa q0 0
 have r1 := Zaa q0 1
 have r2 := Zaa q0 2
 have s0 := Zaa q1 0
 have s1 := Zaa q1 1
 have s2 := Zaa q1 2
 simp at r0 r1 r2 s0 s1 s2
 have z0 := Zab q0
 have z1 := Zab q1
 have z2 := Zab q2
 go_enter Tryz.func82, Tryz.ntmps82
 go_wp2_with fail
 rw [<- hw0]
 clear hw0
 refine (HB1.out _).mono ?_
 rintro e w1 ⟨rfl, e1⟩
 have e1s := e1.size
 have B1 : Below w.heap.size w w1 := BW.trans (e1.mono BW.size)
 have p0 := (e1.block _ z0).trans q0
 have p1 := (e1.block _ z1).trans q1
 have p2 := (e1.block _ z2).trans q2
 clear r0 r1 r2 s0 s1 s2 q0 q1 q2 e1
 have r0 := Zaa p0 0
 have r1 := Zaa p0 1
 have r2 := Zaa p0 2
 have s0 := Zaa p1 0
 have s1 := Zaa p1 1
 have s2 := Zaa p1 2
 simp at r0 r1 r2 s0 s1 s2
 cases P
 ·go_wp2_with fail
  refine (HB2.out _).mono ?_
  rintro e w2 ⟨rfl, e2⟩
  have e2s := e2.size
  have B2 : Below w.heap.size w w2 := B1.trans (e2.mono B1.size)
  have k0 := (e2.block _ (Zab p0)).trans p0
  have k1 := (e2.block _ (Zab p1)).trans p1
  have k2 := (e2.block _ (Zab p2)).trans p2
  clear r0 r1 r2 s0 s1 s2 p0 p1 p2 e2
  have r0 := Zaa k0 0
  have r1 := Zaa k0 1
  have r2 := Zaa k0 2
  have s0 := Zaa k1 0
  have s1 := Zaa k1 1
  have s2 := Zaa k1 2
  simp at r0 r1 r2 s0 s1 s2
  cases Q
  ·have hDe : D = ⟨x.to, x.cost, addL x.hops y.hops⟩ := HD.out
   have zz0 : w.heap.size < w2.heap.size := by omega
   have zz1 : w.heap.size + 1 < w2.heap.size := by omega
   have B2D : Below w.heap.size w w2.drew := B2.drew
   have HAL := hide (ZfP x.hops y.hops)
   have K2 := hide k2
   clear k0 k1 k2
   go_wp2
   go_region_held3 (fun W => W.cell? ⟨w.heap.size, 0, none⟩ = some (.int .i64 x.to) /\ W.cell? ⟨w.heap.size, 1, none⟩ = some (.int .i64 x.cost) /\ W.cell? ⟨w.heap.size, 2, none⟩ = some (.slice a1 x.hops.length c1) /\ W.cell? ⟨w.heap.size + 1, 2, none⟩ = some (.slice a2 y.hops.length c2)) (first | (refine ⟨?_, ?_, ?_, ?_⟩ <;> (rw [b3.cell (by assumption)]; assumption)) | (refine ⟨?_, ?_, ?_, ?_⟩ <;> (rw [cellW3 (by omega), b3.cell (by assumption)]; assumption)) | go_keep) (first | (go_at_call 50; refine (HAD.out _ B2D).mono ?_; rintro e w3 ⟨v3, rfl, o3, b3⟩; obtain ⟨na, nc, rfl⟩ := Zac o3; have k3 := (b3.block _ (show w.heap.size + 1 + 1 < w2.drew.heap.size from Zab K2.out)).trans K2.out; have t0 := Zaa k3 0; have t1 := Zaa k3 1; have t2 := Zaa k3 2; simp at t0 t1 t2; have ft := Zaf k3))
   have F := FIN.out ⟨x.to, x.cost, addL x.hops y.hops⟩ na nc _ w3 k3 o3 (Zab K2.out) (B2D.trans (b3.mono B2D.size))
   subst hDe
   clear k3 t0 t1 t2 ft
   have FF := hide F.1
   have O5 := hide F.2.1
   have B5 := hide F.2.2
   clear F
   go_wp2_with fail
   (try simp only [Exit.inBlock, Exit.then])
   refine bodyPost_ret (results_cell_row rfl _ _ (w.heap.size + 1 + 1) 46 (wayC _ _) (0, 0) _ rfl FF.out Tryz.underlying46 rfl (by kernel_rfl)) rfl ?_
   exact ⟨_, rfl, O5.out, B5.out⟩
  ·have hDe : D = y := HD.out
   subst hDe
   go_wp2_with fail
   refine (HC2.out _ B2).mono ?_
   rintro e w3 ⟨v3, rfl, o3, b3⟩
   obtain ⟨na, nc, rfl⟩ := Zac o3
   have k3 := (b3.block _ (Zab k2)).trans k2
   have t0 := Zaa k3 0
   have t1 := Zaa k3 1
   have t2 := Zaa k3 2
   simp at t0 t1 t2
   have ft := Zaf k3
   have F := FIN.out D na nc _ w3 k3 o3 (Zab k2) (B2.trans (b3.mono B2.size))
   clear k0 k1 k2 k3 o3 r0 r1 r2 s0 s1 s2
   have FF := hide F.1
   have O5 := hide F.2.1
   have B5 := hide F.2.2
   clear F
   go_wp2_with fail
   (try simp only [Exit.inBlock, Exit.then])
   refine bodyPost_ret (results_cell_row rfl _ _ (w.heap.size + 1 + 1) 46 (wayC _ _) (0, 0) _ rfl FF.out Tryz.underlying46 rfl (by kernel_rfl)) rfl ?_
   exact ⟨_, rfl, O5.out, B5.out⟩
 ·have hDe : D = x := HD.out
  subst hDe
  go_wp2_with fail
  refine (HC1.out _ B1).mono ?_
  rintro e w3 ⟨v3, rfl, o3, b3⟩
  obtain ⟨na, nc, rfl⟩ := Zac o3
  have k3 := (b3.block _ (Zab p2)).trans p2
  have t0 := Zaa k3 0
  have t1 := Zaa k3 1
  have t2 := Zaa k3 2
  simp at t0 t1 t2
  have ft := Zaf k3
  have F := FIN.out D na nc _ w3 k3 o3 (Zab p2) (B1.trans (b3.mono B1.size))
  clear p0 p1 p2 k3 o3 r0 r1 r2 s0 s1 s2
  have FF := hide F.1
  have O5 := hide F.2.1
  have B5 := hide F.2.2
  clear F
  go_wp2_with fail
  (try simp only [Exit.inBlock, Exit.then])
  refine bodyPost_ret (results_cell_row rfl _ _ (w.heap.size + 1 + 1) 46 (wayC _ _) (0, 0) _ rfl FF.out Tryz.underlying46 rfl (by kernel_rfl)) rfl ?_
  exact ⟨_, rfl, O5.out, B5.out⟩
end Go.Proofs.YtakiifededfjlaaGreat
namespace Go.Proofs
open Go.Shelf
def Tryz.lays189_ren : Go.Shelf.Ren := ⟨fun | 189 => 118 | 125 => 116 | 257 => 140 | 128 => 138 | 129 => 139 | 294 => 149 | 295 => 150 | 296 => 151 | 297 => 152 | 298 => 153 | 299 => 154 | 216 => 155 | 300 => 156 | 301 => 157 | 328 => 161 | 329 => 145 | 330 => 146 | 331 => 162 | 332 => 163 | 215 => 126 | 343 => 164 | n => n, fun | 28 => 34 | 3 => 3 | 46 => 150 | 0 => 0 | 51 => 187 | 53 => 189 | 4 => 4 | 183 => 181 | 182 => 180 | 131 => 113 | 5 => 5 | 9 => 9 | 218 => 198 | 222 => 202 | 228 => 211 | 229 => 212 | n => n, fun | n => n⟩
theorem Tryz.lays189 : Go.Proofs.Lays.n189 Tryz.prog Tryz.lays189_ren := {
 mixed := by kernel_rfl
 f125 := Tryz.func116.trans (congrArg some (by kernel_rfl))
 f128 := Tryz.func138.trans (congrArg some (by kernel_rfl))
 f129 := Tryz.func139.trans (congrArg some (by kernel_rfl))
 f189 := Tryz.func118.trans (congrArg some (by kernel_rfl))
 f215 := Tryz.func126.trans (congrArg some (by kernel_rfl))
 f216 := Tryz.func155.trans (congrArg some (by kernel_rfl))
 f257 := Tryz.func140.trans (congrArg some (by kernel_rfl))
 f294 := Tryz.func149.trans (congrArg some (by kernel_rfl))
 f295 := Tryz.func150.trans (congrArg some (by kernel_rfl))
 f296 := Tryz.func151.trans (congrArg some (by kernel_rfl))
 f297 := Tryz.func152.trans (congrArg some (by kernel_rfl))
 f298 := Tryz.func153.trans (congrArg some (by kernel_rfl))
 f299 := Tryz.func154.trans (congrArg some (by kernel_rfl))
 f300 := Tryz.func156.trans (congrArg some (by kernel_rfl))
 f301 := Tryz.func157.trans (congrArg some (by kernel_rfl))
 f328 := Tryz.func161.trans (congrArg some (by kernel_rfl))
 f329 := Tryz.func145.trans (congrArg some (by kernel_rfl))
 f330 := Tryz.func146.trans (congrArg some (by kernel_rfl))
 f331 := Tryz.func162.trans (congrArg some (by kernel_rfl))
 f332 := Tryz.func163.trans (congrArg some (by kernel_rfl))
 f343 := Tryz.func164.trans (congrArg some (by kernel_rfl))
 t0 := Tryz.underlying0
 a0 := Tryz.isAgg0
 z0 := Tryz.sizeOf0
 v0 := Tryz.zeroValue0
 t3 := Tryz.underlying3
 a3 := Tryz.isAgg3
 z3 := Tryz.sizeOf3
 v3 := Tryz.zeroValue3
 t4 := Tryz.underlying4
 a4 := Tryz.isAgg4
 z4 := Tryz.sizeOf4
 v4 := Tryz.zeroValue4
 t5 := Tryz.underlying5
 a5 := Tryz.isAgg5
 z5 := Tryz.sizeOf5
 v5 := Tryz.zeroValue5
 t9 := Tryz.underlying9
 a9 := Tryz.isAgg9
 z9 := Tryz.sizeOf9
 v9 := Tryz.zeroValue9
 t28 := Tryz.underlying34
 a28 := Tryz.isAgg34
 z28 := Tryz.sizeOf34
 v28 := Tryz.zeroValue34
 t46 := Tryz.underlying150
 a46 := Tryz.isAgg150
 z46 := Tryz.sizeOf150
 v46 := Tryz.zeroValue150
 t51 := Tryz.underlying187
 a51 := Tryz.isAgg187
 z51 := Tryz.sizeOf187
 v51 := Tryz.zeroValue187
 t53 := Tryz.underlying189
 a53 := Tryz.isAgg189
 z53 := Tryz.sizeOf189
 v53 := Tryz.zeroValue189
 t131 := Tryz.underlying113
 a131 := Tryz.isAgg113
 z131 := Tryz.sizeOf113
 v131 := Tryz.zeroValue113
 t182 := Tryz.underlying180
 a182 := Tryz.isAgg180
 z182 := Tryz.sizeOf180
 v182 := Tryz.zeroValue180
 t183 := Tryz.underlying181
 a183 := Tryz.isAgg181
 z183 := Tryz.sizeOf181
 v183 := Tryz.zeroValue181
 t218 := Tryz.underlying198
 a218 := Tryz.isAgg198
 z218 := Tryz.sizeOf198
 v218 := Tryz.zeroValue198
 t222 := Tryz.underlying202
 a222 := Tryz.isAgg202
 z222 := Tryz.sizeOf202
 v222 := Tryz.zeroValue202
 t228 := Tryz.underlying211
 a228 := Tryz.isAgg211
 z228 := Tryz.sizeOf211
 v228 := Tryz.zeroValue211
 t229 := Tryz.underlying212
 a229 := Tryz.isAgg212
 z229 := Tryz.sizeOf212
 v229 := Tryz.zeroValue212 }
open Go.Sort Go.RowKit in
theorem Tryz.slices_Sort_int (blk off cap : Nat) (zs : List Int) (w : World) (hH : Holds (Value.int .i64) w blk off zs.toArray) (hblk : blk < w.heap.size) (hsz : zs.length < 4611686018427387904) :
  Calls Tryz.prog 118 #[.slice (some ⟨blk, off, none⟩) zs.length cap] w fun e w' =>
   e = .returned (.tuple #[]) /\ ∃ n os, w' = grow (putRow (Value.int .i64) (Sort.ahead w n) blk off (zs.mergeSort fun x y => decide (x <= y)).toArray) os := Any.slices_Sort_int Tryz.lays189 blk off cap zs w hH hblk hsz
open Go.RowKit Go.Sort in
theorem Tryz.slices_Sort_int_none (p : Option Addr) (cap : Nat) (w : World) :
  Calls Tryz.prog 118 #[.slice p 0 cap] w fun e w' => e = .returned (.tuple #[]) /\ w' = w := Any.slices_Sort_int_none Tryz.lays189 p cap w
def Tryz.laysNm220_ren : Go.Shelf.Ren := ⟨fun | 20 => 119 | n => n, fun | 22 => 34 | 3 => 3 | 4 => 4 | 0 => 0 | n => n, fun | n => n⟩
theorem Tryz.laysNm220 : Go.Proofs.Lays2.n20 Tryz.prog Tryz.laysNm220_ren := {
 mixed := by kernel_rfl
 f20 := Tryz.func119.trans (congrArg some (by kernel_rfl))
 t0 := Tryz.underlying0
 a0 := Tryz.isAgg0
 z0 := Tryz.sizeOf0
 v0 := Tryz.zeroValue0
 t3 := Tryz.underlying3
 a3 := Tryz.isAgg3
 z3 := Tryz.sizeOf3
 v3 := Tryz.zeroValue3
 t4 := Tryz.underlying4
 a4 := Tryz.isAgg4
 z4 := Tryz.sizeOf4
 v4 := Tryz.zeroValue4
 t22 := Tryz.underlying34
 a22 := Tryz.isAgg34
 z22 := Tryz.sizeOf34
 v22 := Tryz.zeroValue34
 i3 := by kernel_rfl }
open Go.RowKit Go.Lib Go.Sort in
theorem Tryz.slices_Compact_int (blk off cap : Nat) (zs : List Int) (w : World) (hH : Holds (Value.int .i64) w blk off zs.toArray) (hsz : zs.length <= 9223372036854775807) (hcap : zs.length <= cap) :
  Calls Tryz.prog 119 #[.slice (some ⟨blk, off, none⟩) zs.length cap] w fun e w' => e = .returned (.slice (some ⟨blk, off, none⟩) (Lib.compact zs).length cap) /\ ∃ q, w' = putRow (Value.int .i64) (Sort.ahead w q) blk off (Lib.compact zs ++ List.replicate (zs.length - (Lib.compact zs).length) 0).toArray := Any.slices_Compact_int Tryz.laysNm220 blk off cap zs w hH hsz hcap
open Go.RowKit Go.Lib Go.Sort in
theorem Tryz.slices_Compact_int_empty (a : Option Addr) (cap : Nat) (w : World) :
  Calls Tryz.prog 119 #[.slice a 0 cap] w fun e w' => e = .returned (.slice a 0 cap) /\ w' = w := Any.slices_Compact_int_empty Tryz.laysNm220 a cap w
end Go.Proofs
