/-
  The plain mathematics of numbers in bytes and figures; small laws on rows of bytes that a call makes.
  What every walk of this seat imports; the element type's row of the table.
  Rows that a call made, and what stays of them.
  Rows whose elements are structs: their cells one behind another.
  What rows of structs and struct results want, of no function.
  Links and things as values; laws.toLink, toThing, eqLink, eqThing.
  Links and things in a row.
  spec.CostTo: its contract.
  Rows of truths.
  spec.l13Open: its contract.
  Rows of ints that a call made.
  spec.NextTo, spec.AreasOf, spec.Border: their contracts.
  Nears (two numbers) as values and in rows; laws.toNear, eqNear, toNearS, eqNearS, szNearS.
  Records as values; laws.toRecord, eqRecord, szRecord.
  laws.markNearS, heldNearS, markRecord, heldRecord: only the row's own memory turns; what was marked is held.
  'append(out, x)' of a struct of four cells, out a row that the call itself made.
  Lists of records, each with a row of its own.
  laws.szRecordS, toRecordS, eqRecordS: their contracts.
-/
import Derived.WalkKit
import Derived.Laws.IdiomStrings
import Derived.Test.YtdaigojpeofmpaaGreatRows
import Derived.WalkSpells
import Derived.WalkLawsBesides
import Derived.OwnWalk
import Derived.Deep.QuietTactic
import Derived.BigQuiet
import Derived.Handy
import Derived.Deep.RegionHeld3
namespace Go.Proofs.YtdaigojpeofmpaaGreat
open Go.RowKit

theorem hide {p : Prop} (h : p) : Hid p := h

def bs (l : List UInt8) : ByteArray := ⟨l.toArray⟩

theorem add_zero' (b o : Nat) : (⟨b, o, none⟩ : Addr).add 0 = ⟨b, o, none⟩ := rfl

theorem wrap_fit (x : Int) (h0 : -1000000000000000000 ≤ x) (h1 : x ≤ 1000000000000000000) : IntKind.i64.wrap x = x := by
  simp only [IntKind.wrap, IntKind.signed, IntKind.bits]
  simp
  omega

theorem ret_int {k : IntKind} {a b : Int} (h : a = b) : Ending.returned (.int k a) = .returned (.int k b) := by rw [h]
end Go.Proofs.YtdaigojpeofmpaaGreat
namespace Go.Proofs.YtdaigojpeofmpaaGreat
open Go.RowKit

end Go.Proofs.YtdaigojpeofmpaaGreat
namespace Go.Proofs.YtdaigojpeofmpaaGreat
open Go.RowKit

theorem owns_below {w w' : World} {base B : Nat} {e : TypeId} {size : Nat} {v : Value} {n : Nat} {xs : List Value} (h : w.ownsRow base e size v n xs) (hb : Below B w w') (hB : w.heap.size ≤ B) : w'.ownsRow base e size v n xs := by
  refine ⟨h.1, ?_⟩
  rcases h.2 with h2 | ⟨g, cap, cur, hv, hg, hh, r⟩
  · exact .inl h2
  · have hlt : g < w.heap.size := by
      rcases Nat.lt_or_ge g w.heap.size with hl | hl
      · exact hl
      · rw [Array.getElem?_eq_none hl] at hh; cases hh
    exact .inr ⟨g, cap, cur, hv, hg, by rw [hb.block g (by omega)]; exact hh, r⟩

theorem owns_shape {w : World} {base : Nat} {e : TypeId} {v : Value} {n : Nat} {xs : List Value} (h : w.ownsRow base e 1 v n xs) (hn : 0 < n) :
    ∃ g cap, v = .slice (some ⟨g, 0, none⟩) n cap ∧ base ≤ g ∧ g < w.heap.size := by
  rcases h.2 with ⟨_, h0⟩ | ⟨g, cap, cur, hv, hb, hg, _⟩
  · omega
  · refine ⟨g, cap, hv, hb, ?_⟩
    rcases Nat.lt_or_ge g w.heap.size with hlt | hge
    · exact hlt
    · rw [Array.getElem?_eq_none hge] at hg; cases hg

theorem owns_len {w : World} {base : Nat} {e : TypeId} {v : Value} {n : Nat} {xs : List Value} (h : w.ownsRow base e 1 v n xs) : ∃ a cap, v = .slice a n cap := by
  rcases h.2 with ⟨h1, h0⟩ | ⟨g, cap, cur, hv, _⟩
  · exact ⟨none, 0, by rw [h1, h0]⟩
  · exact ⟨_, cap, hv⟩

theorem owns_lenS {w : World} {base size : Nat} {e : TypeId} {v : Value} {n : Nat} {xs : List Value} (h : w.ownsRow base e size v n xs) : ∃ a cap, v = .slice a n cap := by
  rcases h.2 with ⟨h1, h0⟩ | ⟨g, cap, cur, hv, _⟩
  · exact ⟨none, 0, by rw [h1, h0]⟩
  · exact ⟨_, cap, hv⟩

theorem owns_baseS {w : World} {b0 b1 size : Nat} {e : TypeId} {v : Value} {n : Nat} {xs : List Value} (h : w.ownsRow b1 e size v n xs) (hb : b0 ≤ b1) : w.ownsRow b0 e size v n xs := by
  refine ⟨h.1, ?_⟩
  rcases h.2 with h2 | ⟨g, cap, cur, hv, hg, r⟩
  · exact .inl h2
  · exact .inr ⟨g, cap, cur, hv, Nat.le_trans hb hg, r⟩

/-- a row stays where another block is written -/
theorem owns_set {w : World} {base size p j : Nat} {e : TypeId} {v u : Value} {n : Nat} {xs : List Value} (h : w.ownsRow base e size v n xs) (hp : p < base) : (w.setCell ⟨p, j, none⟩ u).ownsRow base e size v n xs := by
  refine ⟨h.1, ?_⟩
  rcases h.2 with h2 | ⟨g, cap, cur, hv, hg, hh, r⟩
  · exact .inl h2
  · exact .inr ⟨g, cap, cur, hv, hg, by rw [heap_setCell_other w ⟨p, j, none⟩ g _ (by show g ≠ p; omega)]; exact hh, r⟩

theorem owns_base {w : World} {b0 b1 : Nat} {e : TypeId} {v : Value} {n : Nat} {xs : List Value} (h : w.ownsRow b1 e 1 v n xs) (hb : b0 ≤ b1) : w.ownsRow b0 e 1 v n xs := by
  refine ⟨h.1, ?_⟩
  rcases h.2 with h2 | ⟨g, cap, cur, hv, hg, r⟩
  · exact .inl h2
  · exact .inr ⟨g, cap, cur, hv, Nat.le_trans hb hg, r⟩

theorem cells_at {w : World} {p : Nat} {C : Array Value} {t : TypeId} (h : w.heap[p]? = some (.cells C t (0, 0))) (j : Nat) : w.cell? ⟨p, j, none⟩ = C[j]? := by
  simp [World.cell?, h]

theorem frozen_at {w : World} {p : Nat} {C : Array Value} {t : TypeId} (h : w.heap[p]? = some (.cells C t (0, 0))) (j : Nat) : w.frozen? ⟨p, j, none⟩ = false := by
  simp [World.frozen?, h]

theorem grown_set (w : World) (p j : Nat) (v : Value) : w.grownBy (w.setCell ⟨p, j, none⟩ v) (some p) := ⟨rfl, rfl, rfl, by simp, fun k _ hk => heap_setCell_other w ⟨p, j, none⟩ k _ (fun e => hk (by simp [e]))⟩

theorem grown_drewN (w : World) (n : Nat) (row : Option Nat) : w.grownBy (w.drewN n) row := ⟨rfl, rfl, rfl, Nat.le_refl _, fun _ _ _ => rfl⟩

theorem grown_trans {a b c : World} {row : Option Nat} (h : a.grownBy b row) (k : b.grownBy c row) : a.grownBy c row :=
  ⟨k.os.trans h.os, k.tape.trans h.tape, k.output.trans h.output, Nat.le_trans h.size k.size, fun i hi hr => (k.block i (Nat.lt_of_lt_of_le hi h.size) hr).trans (h.block i hi hr)⟩

theorem lt_of_heap {w : World} {p : Nat} {o : Obj} (h : w.heap[p]? = some o) : p < w.heap.size := by
  rcases Nat.lt_or_ge p w.heap.size with hl | hl
  · exact hl
  · rw [Array.getElem?_eq_none hl] at h; cases h
end Go.Proofs.YtdaigojpeofmpaaGreat
namespace Go.Proofs.YtdaigojpeofmpaaGreat
open Go.RowKit

def flat {α : Type} (enc : α → List Value) (xs : List α) : List Value := xs.flatMap enc

section
variable {α : Type} {enc : α → List Value} {sz : Nat}

theorem flat_cons (x : α) (xs : List α) : flat enc (x :: xs) = enc x ++ flat enc xs := rfl

theorem flat_len (h : ∀ a, (enc a).length = sz) (xs : List α) : (flat enc xs).length = xs.length * sz := by
  induction xs with
  | nil => simp [flat]
  | cons x xs ih => rw [flat_cons, List.length_append, h, ih, List.length_cons, Nat.add_mul, Nat.one_mul, Nat.add_comm]

theorem flat_get (h : ∀ a, (enc a).length = sz) : ∀ (xs : List α) (i r : Nat) (x : α), xs[i]? = some x → r < sz → (flat enc xs)[i * sz + r]? = (enc x)[r]?
  | [], i, r, x, hx, _ => by simp at hx
  | y :: ys, 0, r, x, hx, hr => by
    simp at hx
    subst hx
    rw [flat_cons, Nat.zero_mul, Nat.zero_add, List.getElem?_append_left (by rw [h]; exact hr)]
  | y :: ys, i + 1, r, x, hx, hr => by
    have e : (i + 1) * sz + r = sz + (i * sz + r) := by rw [Nat.add_mul, Nat.one_mul]; omega
    rw [flat_cons, List.getElem?_append_right (by rw [h, e]; omega), h, e, Nat.add_sub_cancel_left]
    exact flat_get h ys i r x (by simpa using hx) hr

end

/-- the slice v has n elements of sz cells; cell j (of n * sz) holds f j; all lie in a block below B -/
def RowAt (W : World) (v : Value) (n sz : Nat) (f : Nat → Value) (B : Nat) : Prop :=
  ∃ a cap, v = .slice a n cap ∧ (n = 0 ∨ ∃ b off, a = some ⟨b, off, none⟩ ∧ b < B ∧ ∀ j, j < n * sz → W.cell? ⟨b, off + j, none⟩ = some (f j))

theorem RowAt.later {W W' : World} {v : Value} {n sz : Nat} {f : Nat → Value} {B C : Nat} (h : RowAt W v n sz f B) (hb : Below C W W') (hBC : B ≤ C) : RowAt W' v n sz f B := by
  obtain ⟨a, cap, hv, h2⟩ := h
  refine ⟨a, cap, hv, ?_⟩
  rcases h2 with h0 | ⟨b, off, ha, hb1, hx⟩
  · exact .inl h0
  · exact .inr ⟨b, off, ha, hb1, fun j hj => by rw [hb.cell (p := ⟨b, off + j, none⟩) (by show b < C; omega)]; exact hx j hj⟩

theorem RowAt.more {W : World} {v : Value} {n sz : Nat} {f : Nat → Value} {B C : Nat} (h : RowAt W v n sz f B) (hBC : B ≤ C) : RowAt W v n sz f C := by
  obtain ⟨a, cap, hv, h2⟩ := h
  refine ⟨a, cap, hv, ?_⟩
  rcases h2 with h0 | ⟨b, off, ha, hb1, hx⟩
  · exact .inl h0
  · exact .inr ⟨b, off, ha, by omega, hx⟩

/-- the same row in a later world, all of it below that world's end -/
theorem RowAt.then {W W' : World} {v : Value} {n sz : Nat} {f : Nat → Value} (h : RowAt W v n sz f W.heap.size) (hb : Below W.heap.size W W') : RowAt W' v n sz f W'.heap.size := (h.later hb (Nat.le_refl _)).more hb.size

/-- a row of structs: the cells of its elements -/
def StructsAt {α : Type} (enc : α → List Value) (sz : Nat) (W : World) (v : Value) (xs : List α) (B : Nat) : Prop := RowAt W v xs.length sz (fun j => (flat enc xs).getD j undef) B

section
variable {α : Type} {enc : α → List Value} {sz : Nat}

theorem StructsAt.cell {W : World} {v : Value} {xs : List α} {B : Nat} (h : StructsAt enc sz W v xs B) (hs : ∀ a, (enc a).length = sz) (i : Nat) (x : α) (hx : xs[i]? = some x) :
    ∃ b off cap, v = .slice (some ⟨b, off, none⟩) xs.length cap ∧ b < B ∧ ∀ r u, (enc x)[r]? = some u → W.cell? ⟨b, off + i * sz + r, none⟩ = some u := by
  have hi : i < xs.length := (List.getElem?_eq_some_iff.1 hx).1
  obtain ⟨a, cap, hv, h2⟩ := h
  rcases h2 with h0 | ⟨b, off, ha, hb, hc⟩
  · omega
  · refine ⟨b, off, cap, by rw [hv, ha], hb, fun r u hu => ?_⟩
    have hr : r < sz := by have := (List.getElem?_eq_some_iff.1 hu).1; rw [hs] at this; exact this
    have hg := flat_get hs xs i r x hx hr
    have hlt : i * sz + r < xs.length * sz := by
      have : (i + 1) * sz ≤ xs.length * sz := Nat.mul_le_mul_right _ hi
      rw [Nat.add_mul, Nat.one_mul] at this
      omega
    rw [Nat.add_assoc, hc _ hlt]
    simp only [List.getD_eq_getElem?_getD, hg, hu]
    rfl

theorem owns_rowAt {W : World} {base : Nat} {e : TypeId} {v : Value} {xs : List α} (h : W.ownsRow base e sz v xs.length (flat enc xs)) : StructsAt enc sz W v xs W.heap.size := by
  rcases h.2 with ⟨hv, h0⟩ | ⟨g, cap, cur, hv, hg, hh, hnc, hcm, hcs, htk⟩
  · exact ⟨none, 0, by rw [hv, h0], .inl h0⟩
  · have hlt : g < W.heap.size := by
      rcases Nat.lt_or_ge g W.heap.size with hl | hl
      · exact hl
      · rw [Array.getElem?_eq_none hl] at hh; cases hh
    refine ⟨_, cap, hv, .inr ⟨g, 0, rfl, hlt, fun j hj => ?_⟩⟩
    rw [Nat.zero_add]
    simp only [World.cell?, hh]
    have hj2 : j < cur.size := by
      have : xs.length * sz ≤ cap * sz := Nat.mul_le_mul_right _ hnc
      omega
    have e1 : (flat enc xs)[j]? = cur.toList[j]? := by rw [← htk, List.getElem?_take_of_lt hj]
    simp [List.getD, e1, hj2]
end
end Go.Proofs.YtdaigojpeofmpaaGreat
namespace Go.Proofs.YtdaigojpeofmpaaGreat
open Go.RowKit

theorem ret_bool_no {p : Prop} [Decidable p] (h : ¬ p) : Ending.returned (.bool false) = .returned (.bool (decide p)) := by rw [decide_eq_false h]

theorem ret_bool_yes {p : Prop} [Decidable p] (h : p) : Ending.returned (.bool true) = .returned (.bool (decide p)) := by rw [decide_eq_true h]

theorem below_two {w : World} (o1 o2 : Obj) : Below w.heap.size w ((w.alloc o1).alloc o2) := ((Below.refl _ _).alloc (Nat.le_refl _) _).alloc (by simp) _

theorem below_three {w : World} (o1 o2 o3 : Obj) : Below w.heap.size w (((w.alloc o1).alloc o2).alloc o3) := (below_two o1 o2).alloc (by simp; omega) _

theorem heap3_0 (w : World) (a b c : Obj) : (((w.alloc a).alloc b).alloc c).heap[w.heap.size]? = some a := by
  rw [Below.heap_alloc _ _ _ (by simp; omega), Below.heap_alloc _ _ _ (by simp), heap_alloc_new]

theorem heap3_1 (w : World) (a b c : Obj) : (((w.alloc a).alloc b).alloc c).heap[w.heap.size + 1]? = some b := by
  rw [Below.heap_alloc _ _ _ (by simp)]
  have := heap_alloc_new (w.alloc a) b
  simpa using this

theorem heap3_2 (w : World) (a b c : Obj) : (((w.alloc a).alloc b).alloc c).heap[w.heap.size + 1 + 1]? = some c := by
  have := heap_alloc_new ((w.alloc a).alloc b) c
  simpa using this

theorem ret_bool {a b : Bool} (h : b = a) : Ending.returned (.bool a) = .returned (.bool b) := by rw [h]
end Go.Proofs.YtdaigojpeofmpaaGreat
namespace Go.Proofs.YtdaigojpeofmpaaGreat
open Go.RowKit

structure Lk where
  a : Int
  b : Int
  c : Int
  r : Int
  deriving DecidableEq

structure Th where
  o : Int
  k : Int
  c : Int
  f : Bool
  deriving DecidableEq

def lkV (l : Lk) : Value := .agg #[.int .i64 l.a, .int .i64 l.b, .int .i64 l.c, .int .i64 l.r]

def thV (t : Th) : Value := .agg #[.int .i64 t.o, .int .i64 t.k, .int .i64 t.c, .bool t.f]

end Go.Proofs.YtdaigojpeofmpaaGreat
namespace Go.Proofs.YtdaigojpeofmpaaGreat
open Go.RowKit

def lkE (l : Lk) : List Value := [.int .i64 l.a, .int .i64 l.b, .int .i64 l.c, .int .i64 l.r]

def thE (t : Th) : List Value := [.int .i64 t.o, .int .i64 t.k, .int .i64 t.c, .bool t.f]

theorem lkE_len (l : Lk) : (lkE l).length = 4 := rfl

theorem thE_len (t : Th) : (thE t).length = 4 := rfl

def LinksAt (W : World) (v : Value) (ls : List Lk) (B : Nat) : Prop := StructsAt lkE 4 W v ls B

def ThingsAt (W : World) (v : Value) (ts : List Th) (B : Nat) : Prop := StructsAt thE 4 W v ts B

theorem LinksAt.then {W W' : World} {v : Value} {ls : List Lk} (h : LinksAt W v ls W.heap.size) (hb : Below W.heap.size W W') : LinksAt W' v ls W'.heap.size := RowAt.then h hb

theorem ThingsAt.then {W W' : World} {v : Value} {ls : List Th} (h : ThingsAt W v ls W.heap.size) (hb : Below W.heap.size W W') : ThingsAt W' v ls W'.heap.size := RowAt.then h hb

theorem LinksAt.shape {W : World} {v : Value} {ls : List Lk} {B : Nat} (h : LinksAt W v ls B) : ∃ a cap, v = .slice a ls.length cap := by obtain ⟨a, cap, h, _⟩ := h; exact ⟨a, cap, h⟩

theorem ThingsAt.shape {W : World} {v : Value} {ls : List Th} {B : Nat} (h : ThingsAt W v ls B) : ∃ a cap, v = .slice a ls.length cap := by obtain ⟨a, cap, h, _⟩ := h; exact ⟨a, cap, h⟩

/-- the four cells of link i -/
theorem LinksAt.cells {W : World} {v : Value} {ls : List Lk} {B : Nat} (h : LinksAt W v ls B) (i : Nat) (l : Lk) (hl : ls[i]? = some l) :
    ∃ b off cap, v = .slice (some ⟨b, off, none⟩) ls.length cap ∧ b < B ∧ W.cell? ⟨b, off + i * 4, none⟩ = some (.int .i64 l.a) ∧ W.cell? ⟨b, off + i * 4 + 1, none⟩ = some (.int .i64 l.b) ∧
      W.cell? ⟨b, off + i * 4 + 2, none⟩ = some (.int .i64 l.c) ∧ W.cell? ⟨b, off + i * 4 + 3, none⟩ = some (.int .i64 l.r) := by
  obtain ⟨b, off, cap, hv, hb, hc⟩ := StructsAt.cell h lkE_len i l hl
  exact ⟨b, off, cap, hv, hb, hc 0 _ rfl, hc 1 _ rfl, hc 2 _ rfl, hc 3 _ rfl⟩

/-- the four cells of thing i -/
theorem ThingsAt.cells {W : World} {v : Value} {ls : List Th} {B : Nat} (h : ThingsAt W v ls B) (i : Nat) (l : Th) (hl : ls[i]? = some l) :
    ∃ b off cap, v = .slice (some ⟨b, off, none⟩) ls.length cap ∧ b < B ∧ W.cell? ⟨b, off + i * 4, none⟩ = some (.int .i64 l.o) ∧ W.cell? ⟨b, off + i * 4 + 1, none⟩ = some (.int .i64 l.k) ∧
      W.cell? ⟨b, off + i * 4 + 2, none⟩ = some (.int .i64 l.c) ∧ W.cell? ⟨b, off + i * 4 + 3, none⟩ = some (.bool l.f) := by
  obtain ⟨b, off, cap, hv, hb, hc⟩ := StructsAt.cell h thE_len i l hl
  exact ⟨b, off, cap, hv, hb, hc 0 _ rfl, hc 1 _ rfl, hc 2 _ rfl, hc 3 _ rfl⟩
end Go.Proofs.YtdaigojpeofmpaaGreat
namespace Go.Proofs.YtdaigojpeofmpaaGreat
open Go.RowKit

def lkHit (f t r : Int) (l : Lk) : Bool := l.r == r && ((l.a == f && l.b == t) || (l.a == t && l.b == f))

def costN (ls : List Lk) (f t r : Int) : Int := ((ls.find? (lkHit f t r)).map (·.c)).getD 0

theorem find_first {α : Type} (p : α → Bool) : ∀ (ls : List α) (k : Nat) (l : α), (∀ j, j < k → ∀ x, ls[j]? = some x → p x = false) → ls[k]? = some l → p l = true → ls.find? p = some l
  | [], _, _, _, h, _ => by simp at h
  | y :: ys, 0, l, _, h, hp => by simp at h; subst h; simp [hp]
  | y :: ys, k + 1, l, hno, h, hp => by
    have h0 := hno 0 (by omega) y rfl
    rw [List.find?_cons, h0]
    exact find_first p ys k l (fun j hj x hx => hno (j + 1) (by omega) x (by simpa using hx)) (by simpa using h) hp

theorem find_noneL {α : Type} (p : α → Bool) (ls : List α) (h : ∀ j, j < ls.length → ∀ x, ls[j]? = some x → p x = false) : ls.find? p = none := by
  rw [List.find?_eq_none]
  intro x hx
  obtain ⟨i, hi, e⟩ := List.mem_iff_getElem.1 hx
  rw [h i hi x (by rw [List.getElem?_eq_getElem hi, e])]
  decide

theorem no_next {α : Type} {p : α → Bool} {ls : List α} {k : Nat} {l : α} (h : ∀ j, j < k → ∀ x, ls[j]? = some x → p x = false) (hl : ls[k]? = some l) (hp : p l = false) : ∀ j, j < k + 1 → ∀ x, ls[j]? = some x → p x = false := by
  intro j hj x hx
  by_cases e : j = k
  · subst e; rw [hl] at hx; cases hx; exact hp
  · exact h j (by omega) x hx

theorem cost_hit {ls : List Lk} {f t r : Int} {k : Nat} {l : Lk} (h : ∀ j, j < k → ∀ x, ls[j]? = some x → lkHit f t r x = false) (hl : ls[k]? = some l) (hp : lkHit f t r l = true) : costN ls f t r = l.c := by
  unfold costN; rw [find_first _ ls k l h hl hp]; rfl

theorem cost_next {ls : List Lk} {f t r : Int} {k : Nat} {l : Lk} (h : ∀ j, j < k → ∀ x, ls[j]? = some x → lkHit f t r x = false) (hl : ls[k]? = some l) (hp : lkHit f t r l = false) : ∀ j, j < k + 1 → ∀ x, ls[j]? = some x → lkHit f t r x = false := no_next h hl hp

theorem cost_none {ls : List Lk} {f t r : Int} {k : Nat} (h : ∀ j, j < k → ∀ x, ls[j]? = some x → lkHit f t r x = false) (hk : k = ls.length) : costN ls f t r = 0 := by
  unfold costN; rw [find_noneL _ ls (by rw [← hk]; exact h)]; rfl

set_option maxRecDepth 100000 in
set_option maxHeartbeats 1000000 in
theorem scost_any (n : Value) (v tv : Value) (ls : List Lk) (f t r : Int) (w : World) (hls : ls.length ≤ 1048576) (hv : LinksAt w v ls w.heap.size) :
    Calls Tryz.prog 139 #[.agg #[n, v, tv], .int .i64 f, .int .i64 t, .int .i64 r] w fun e w' => e = .returned (.int .i64 (costN ls f t r)) ∧ Below w.heap.size w w' := by
  obtain ⟨a, cap, rfl⟩ : ∃ a cap, v = .slice a ls.length cap := by obtain ⟨a, cap, h, _⟩ := hv; exact ⟨a, cap, h⟩
  have HV := hide hv
  clear hv
  go_enter Tryz.func139, Tryz.ntmps139
  go_wp2
  go_loopw [9] (fun i wr => ∃ k : Nat, k ≤ ls.length ∧ i = .int .i64 k ∧ (∀ j, j < k → ∀ l, ls[j]? = some l → lkHit f t r l = false) ∧ Below w.heap.size w wr ∧ wr.heap[w.heap.size]? = some (.cells #[n, .slice a ls.length cap, tv] 27)) (fun i _ => ls.length - (intOf i).toNat)
  case atStart => exact ⟨0, by omega, rfl, by omega, (Below.refl _ _).alloc (Nat.le_refl _) _, heap_alloc_new w _⟩
  case round =>
    obtain ⟨k, hk, rfl, hno, hb, hx⟩ := hrel
    have hx1 : wr.cell? ⟨w.heap.size, 1, none⟩ = some (.slice a ls.length cap) := by rw [cells_at hx]; rfl
    have HX := hide hx
    have HNO := hide hno
    clear hx hno
    by_cases hlt : k < ls.length
    · obtain ⟨l, hl⟩ : ∃ l, ls[k]? = some l := ⟨ls[k], List.getElem?_eq_getElem hlt⟩
      obtain ⟨b, off, cap', hve, hbb, c0, c1, c2, c3⟩ := HV.out.cells k l hl
      cases hve
      rw [← hb.cell (p := ⟨b, off + k * 4, none⟩) hbb] at c0
      rw [← hb.cell (p := ⟨b, off + k * 4 + 1, none⟩) hbb] at c1
      rw [← hb.cell (p := ⟨b, off + k * 4 + 2, none⟩) hbb] at c2
      rw [← hb.cell (p := ⟨b, off + k * 4 + 3, none⟩) hbb] at c3
      have HL := hide hl
      clear hl
      obtain ⟨la, lb, lc, lr⟩ := l
      go_wp2
      all_goals first
        | (go_ret
           refine ⟨ret_int (cost_hit HNO.out HL.out ?_).symm, hb.alloc hb.size _⟩
           clear HV HX HL HNO hb hx1 c0 c1 c2 c3
           simp only [lkHit]
           grind)
        | (refine ⟨⟨k + 1, by omega, by go_num, cost_next HNO.out HL.out ?_, hb.alloc hb.size _, ?_⟩, by simp [intOf]; omega⟩
           · clear HV HX HL HNO hb hx1 c0 c1 c2 c3
             simp only [lkHit]
             grind
           · rw [Below.heap_alloc _ _ _ (lt_of_heap HX.out)]; exact HX.out)
        | (subst_vars
           refine ⟨⟨k + 1, by omega, by go_num, cost_next HNO.out HL.out ?_, hb.alloc hb.size _, ?_⟩, by simp [intOf]; omega⟩
           · clear HV HX HL HNO hb hx1 c0 c1 c2 c3
             simp only [lkHit]
             grind
           · rw [Below.heap_alloc _ _ _ (lt_of_heap HX.out)]; exact HX.out)
    · have hk' : k = ls.length := by omega
      have HK := hide hk'
      clear hk'
      go_wp2
      go_ret
      exact ⟨ret_int (cost_none HNO.out HK.out).symm, hb⟩
end Go.Proofs.YtdaigojpeofmpaaGreat
namespace Go.Proofs.YtdaigojpeofmpaaGreat
open Go.RowKit

def blE (b : Bool) : List Value := [.bool b]

theorem blE_len (b : Bool) : (blE b).length = 1 := rfl

theorem blE_one (b : Bool) : ∀ u ∈ blE b, u.oneCell' = true := by
  intro u hu
  simp only [blE, List.mem_cons, List.not_mem_nil, or_false] at hu
  subst hu; rfl

/-- the row v of truths bs, below B -/
def BoolsAt (W : World) (v : Value) (bs : List Bool) (B : Nat) : Prop := StructsAt blE 1 W v bs B

theorem BoolsAt.shape {W : World} {v : Value} {bs : List Bool} {B : Nat} (h : BoolsAt W v bs B) : ∃ a cap, v = .slice a bs.length cap := by obtain ⟨a, cap, h, _⟩ := h; exact ⟨a, cap, h⟩

theorem BoolsAt.cell {W : World} {v : Value} {bs : List Bool} {B : Nat} (h : BoolsAt W v bs B) (i : Nat) (b : Bool) (hb : bs[i]? = some b) : ∃ g off cap, v = .slice (some ⟨g, off, none⟩) bs.length cap ∧ g < B ∧ W.cell? ⟨g, off + i, none⟩ = some (.bool b) := by
  obtain ⟨g, off, cap, hv, hg, hc⟩ := StructsAt.cell h blE_len i b hb
  refine ⟨g, off, cap, hv, hg, ?_⟩
  have := hc 0 _ rfl
  simpa using this
end Go.Proofs.YtdaigojpeofmpaaGreat
namespace Go.Proofs.YtdaigojpeofmpaaGreat
open Go.RowKit

def opHit (f t r : Int) (p : Lk × Bool) : Bool := p.2 && lkHit f t r p.1

/-- what a link that is up costs -/
def openN (ls : List Lk) (bs : List Bool) (f t r : Int) : Int := (((ls.zip bs).find? (opHit f t r)).map (·.1.c)).getD 0

theorem zip_at {ls : List Lk} {bs : List Bool} {k : Nat} {l : Lk} {b : Bool} (h : ls[k]? = some l) (hb : bs[k]? = some b) : (ls.zip bs)[k]? = some (l, b) := by
  rw [List.getElem?_zip_eq_some]; exact ⟨h, hb⟩

theorem open_hit {ls : List Lk} {bs : List Bool} {f t r : Int} {k : Nat} {l : Lk} {b : Bool} (h : ∀ j, j < k → ∀ x, (ls.zip bs)[j]? = some x → opHit f t r x = false) (hl : (ls.zip bs)[k]? = some (l, b)) (hp : opHit f t r (l, b) = true) : openN ls bs f t r = l.c := by
  unfold openN; rw [find_first _ _ k _ h hl hp]; rfl

theorem open_none {ls : List Lk} {bs : List Bool} {f t r : Int} {k : Nat} (h : ∀ j, j < k → ∀ x, (ls.zip bs)[j]? = some x → opHit f t r x = false) (hk : k = ls.length) : openN ls bs f t r = 0 := by
  unfold openN
  rw [find_noneL _ _ (fun j hj => h j (by rw [List.length_zip] at hj; omega))]; rfl

/-- none of the first k links that are up is such a one -/
def NoHit (ls : List Lk) (bs : List Bool) (f t r : Int) (k : Nat) : Prop := ∀ j, j < k → ∀ x, (ls.zip bs)[j]? = some x → opHit f t r x = false

set_option maxRecDepth 100000 in
set_option maxHeartbeats 1000000 in
theorem sopen_any (n : Value) (v tv y : Value) (ls : List Lk) (bs : List Bool) (f t r : Int) (w : World) (hls : ls.length ≤ 1048576) (hbs : bs.length = ls.length) (hv : LinksAt w v ls w.heap.size) (hy : BoolsAt w y bs w.heap.size) :
    Calls Tryz.prog 108 #[.agg #[n, v, tv], y, .int .i64 f, .int .i64 t, .int .i64 r] w fun e w' => e = .returned (.int .i64 (openN ls bs f t r)) ∧ Below w.heap.size w w' := by
  obtain ⟨a, cap, rfl⟩ : ∃ a cap, v = .slice a ls.length cap := by obtain ⟨a, cap, h, _⟩ := hv; exact ⟨a, cap, h⟩
  obtain ⟨a2, cap2, rfl⟩ := hy.shape
  have HV := hide hv
  have HY := hide hy
  have HBS := hide hbs
  clear hv hy hbs
  go_enter Tryz.func108, Tryz.ntmps108
  go_wp2
  go_loopw [11] (fun i wr => ∃ k : Nat, k ≤ ls.length ∧ i = .int .i64 k ∧ NoHit ls bs f t r k ∧ Below w.heap.size w wr ∧ wr.heap[w.heap.size]? = some (.cells #[n, .slice a ls.length cap, tv] 27)) (fun i _ => ls.length - (intOf i).toNat)
  case atStart => exact ⟨0, by omega, rfl, fun j hj => absurd hj (Nat.not_lt_zero _), (Below.refl _ _).alloc (Nat.le_refl _) _, heap_alloc_new w _⟩
  case round =>
    obtain ⟨k, hk, rfl, hno, hb, hx⟩ := hrel
    have hx1 : wr.cell? ⟨w.heap.size, 1, none⟩ = some (.slice a ls.length cap) := by rw [cells_at hx]; rfl
    have HX := hide hx
    have HNO := hide hno
    clear hx hno
    by_cases hlt : k < ls.length
    · obtain ⟨l, hl⟩ : ∃ l, ls[k]? = some l := ⟨ls[k], List.getElem?_eq_getElem hlt⟩
      have hltb : k < bs.length := by have := HBS.out; omega
      obtain ⟨b1, hb1⟩ : ∃ b, bs[k]? = some b := ⟨bs[k], List.getElem?_eq_getElem hltb⟩
      obtain ⟨b, off, cap', hve, hbb, c0, c1, c2, c3⟩ := HV.out.cells k l hl
      cases hve
      obtain ⟨g, off2, cap2', hve2, hgg, d0⟩ := HY.out.cell k b1 hb1
      cases hve2
      rw [← hb.cell (p := ⟨b, off + k * 4, none⟩) hbb] at c0
      rw [← hb.cell (p := ⟨b, off + k * 4 + 1, none⟩) hbb] at c1
      rw [← hb.cell (p := ⟨b, off + k * 4 + 2, none⟩) hbb] at c2
      rw [← hb.cell (p := ⟨b, off + k * 4 + 3, none⟩) hbb] at c3
      rw [← hb.cell (p := ⟨g, off2 + k, none⟩) hgg] at d0
      have HL := hide (zip_at hl hb1)
      have hlb : (k : Int) < (bs.length : Int) := by omega
      have hgw : g < wr.heap.size := by have := hb.size; omega
      clear hl hb1 hgg
      obtain ⟨la, lb, lc, lr⟩ := l
      cases b1
      all_goals go_wp2
      all_goals first
        | (go_ret
           refine ⟨ret_int (open_hit HNO.out HL.out ?_).symm, hb.alloc hb.size _⟩
           clear HV HX HL HNO hb hx1 c0 c1 c2 c3 d0 HY
           simp only [opHit, lkHit]
           grind)
        | (refine ⟨⟨k + 1, by omega, by go_num, no_next HNO.out HL.out ?_, hb.alloc hb.size _, ?_⟩, by simp [intOf]; omega⟩
           · clear HV HX HL HNO hb hx1 c0 c1 c2 c3 d0 HY
             simp only [opHit, lkHit]
             grind
           · rw [Below.heap_alloc _ _ _ (lt_of_heap HX.out)]; exact HX.out)
        | (subst_vars
           refine ⟨⟨k + 1, by omega, by go_num, no_next HNO.out HL.out ?_, hb.alloc hb.size _, ?_⟩, by simp [intOf]; omega⟩
           · clear HV HX HL HNO hb hx1 c0 c1 c2 c3 d0 HY
             simp only [opHit, lkHit]
             grind
           · rw [Below.heap_alloc _ _ _ (lt_of_heap HX.out)]; exact HX.out)
    · have hk' : k = ls.length := by omega
      have HK := hide hk'
      clear hk'
      go_wp2
      go_ret
      exact ⟨ret_int (open_none HNO.out HK.out).symm, hb⟩
end Go.Proofs.YtdaigojpeofmpaaGreat
namespace Go.Proofs.YtdaigojpeofmpaaGreat
open Go.RowKit

def intsOf (l : List Int) : List Value := l.map fun z => Value.int .i64 z

theorem intsOf_append (a b : List Int) : intsOf (a ++ b) = intsOf a ++ intsOf b := by simp [intsOf]

theorem Tryz.info3 : (Tryz.prog.info? 3).map (fun i => (i.zero, i.size, i.bytes)) = some (some (.int .i64 0), 1, 8) := by kernel_rfl

/-- 'append(out, z)' of an int, out a row that the call itself made. -/
theorem wpList_append_int {P : Program} (w : World) {ops : Array Oper} {rest : List Oper} {o : Oper} {a : Act} {Q : Exit → Act → World → Prop} (hgd : o.guard = none) (s x : Operand) (t : TypeId)
    (ho : o.op = .call { callee := .builtin .append, args := #[s, x], argTypes := #[t, t] }) (base : Nat) (e : TypeId) (ht : P.underlying t = some (.slice e))
    (hinfo : (P.info? e).map (fun i => (i.zero, i.size, i.bytes)) = some (some (.int .i64 0), 1, 8))
    (v : Value) (l : List Int) (z : Int) (hs : a.eval s = v) (hown : w.ownsRow base e 1 v l.length (intsOf l))
    (ad : Addr) (c : Nat) (hx : a.eval x = .slice (some ad) 1 c) (hnews : w.cell? (ad.add 0) = some (.int .i64 z))
    (hlen : l.length + 1 ≤ 1000000000) (hbase : base ≤ w.heap.size)
    (h : ∀ v' w' l', Hid (l' = l ++ [z]) → w'.ownsRow base e 1 v' l'.length (intsOf l') → w.grownBy w' v.ownBlock → wpList P ops Q rest (a.put o.dst v') w') : wpList P ops Q (o :: rest) a w := by
  obtain ⟨i0, hi, hz0, hz1, hz2⟩ := info_parts hinfo
  refine wpList_append_own w hgd s x t ho base e i0 (.int .i64 0) 1 8 ht hi hz0 hz1 hz2 rfl (by decide) v l.length (intsOf l) hs hown ad 1 c (intsOf [z]) hx (by simp [intsOf]) ?_ ?_ (by unfold maxLen; omega) (by omega) hbase ?_
  · intro j u hj
    have hj' : j = 0 := by have := (List.getElem?_eq_some_iff.1 hj).1; simp [intsOf] at this; omega
    subst hj'
    rw [hnews]
    simpa [intsOf] using hj
  · intro u hu
    simp only [intsOf, List.mem_map] at hu
    obtain ⟨b, _, rfl⟩ := hu
    rfl
  · intro v' w' h1 h2 _
    rw [← intsOf_append] at h1
    exact h v' w' (l ++ [z]) rfl (by simpa using h1) h2
end Go.Proofs.YtdaigojpeofmpaaGreat
namespace Go.Proofs.YtdaigojpeofmpaaGreat
open Go.RowKit

def nextL (ls : List Lk) (v r : Int) : List Int := ([1, 2, 3, 4, 5, 6] : List Int).filter fun u => decide (0 < costN ls v u r)

def areasL (ls : List Lk) (v : Int) : List Int := ([0, 1, 2] : List Int).filter fun r => decide (0 < (nextL ls v r).length)

def bordB (ls : List Lk) (v : Int) : Bool := decide (1 < (areasL ls v).length) && ((areasL ls v).head? == some 0)

/-- the numbers 1 .. k that pass -/
def passed (p : Int → Bool) (s : Int) : Nat → List Int
  | 0 => []
  | k + 1 => passed p s k ++ (if p (s + (k : Int)) then [s + (k : Int)] else [])

theorem passed_len (p : Int → Bool) (s : Int) : ∀ k, (passed p s k).length ≤ k
  | 0 => by simp [passed]
  | k + 1 => by
    have := passed_len p s k
    simp only [passed]
    split <;> simp <;> omega

theorem next_passed (ls : List Lk) (v r : Int) : nextL ls v r = passed (fun u => decide (0 < costN ls v u r)) 1 6 := by
  simp [nextL, passed, List.filter_cons]
  repeat' split
  all_goals simp

set_option maxRecDepth 100000 in
set_option maxHeartbeats 1000000 in
theorem snext_any (n : Value) (v tv : Value) (ls : List Lk) (f r : Int) (w : World) (hls : ls.length ≤ 1048576) (hv : LinksAt w v ls w.heap.size) :
    Calls Tryz.prog 84 #[.agg #[n, v, tv], .int .i64 f, .int .i64 r] w fun e w' => ∃ x, e = .returned x ∧ w'.ownsRow w.heap.size 3 1 x (nextL ls f r).length (intsOf (nextL ls f r)) ∧ Below w.heap.size w w' := by
  have HV := hide hv
  clear hv
  rw [next_passed]
  go_enter Tryz.func84, Tryz.ntmps84
  go_wp2
  go_loopw [7, 8] (fun x i wr => ∃ k : Nat, k ≤ 6 ∧ i = .int .i64 (1 + (k : Int)) ∧ Below w.heap.size w wr ∧ wr.heap[w.heap.size]? = some (.cells #[n, v, tv] 27) ∧ wr.ownsRow (w.heap.size + 1) 3 1 x (passed (fun u => decide (0 < costN ls f u r)) 1 k).length (intsOf (passed (fun u => decide (0 < costN ls f u r)) 1 k))) (fun _ i _ => 8 - (intOf i).toNat)
  case atStart =>
    refine ⟨0, by omega, rfl, below_two _ _, ?_, ?_⟩
    · rw [Below.heap_alloc _ _ _ (show w.heap.size < (w.alloc (.cells #[n, v, tv] 27)).heap.size by simp), heap_alloc_new]
    · have h0 := World.ownsRow_lit (base := w.heap.size + 1) (w.alloc (.cells #[n, v, tv] 27)) (#[] : Array Value) 0 (by simp) (by decide) (e := 3) (size := 1) rfl
      simpa [passed, intsOf] using h0
  case round =>
    obtain ⟨k, hk, rfl, hb, hx, hown⟩ := hrel
    have c0 : wr.cell? ⟨w.heap.size, 0, none⟩ = some n := by rw [cells_at hx]; rfl
    have c1 : wr.cell? ⟨w.heap.size, 1, none⟩ = some v := by rw [cells_at hx]; rfl
    have c2 : wr.cell? ⟨w.heap.size, 2, none⟩ = some tv := by rw [cells_at hx]; rfl
    have hxl := lt_of_heap hx
    have HX := hide hx
    have OW := hide hown
    clear hx hown
    by_cases hlt : k < 6
    · go_wp2_with fail
      refine (scost_any n v tv ls f (1 + (k : Int)) r wr hls (HV.out.then hb)).mono ?_
      rintro e w1 ⟨rfl, b1⟩
      have hown1 := owns_below OW.out b1 (Nat.le_refl _)
      have hx1 : w1.heap[w.heap.size]? = some (.cells #[n, v, tv] 27) := by rw [b1.block _ hxl]; exact HX.out
      have hb1 : Below w.heap.size w w1 := hb.trans (b1.mono hb.size)
      have hz1 := b1.size
      have hpl := passed_len (fun u => decide (0 < costN ls f u r)) 1 k
      have HX1 := hide hx1
      obtain ⟨l2, hl20⟩ : ∃ l2, l2 = passed (fun u => decide (0 < costN ls f u r)) 1 (k + 1) := ⟨_, rfl⟩
      have HL20 := hide hl20
      have hps : Hid (l2 = passed (fun u => decide (0 < costN ls f u r)) 1 k ++ (if decide (0 < costN ls f (1 + (k : Int)) r) then [1 + (k : Int)] else [])) := hl20
      clear hl20
      clear b1 hx1 c0 c1 c2 OW HX
      generalize passed (fun u => decide (0 < costN ls f u r)) 1 k = l at hown1 hpl hps
      generalize costN ls f (1 + (k : Int)) r = c at hps ⊢
      by_cases hc : 0 < c
      · have hl2 : l2 = l ++ [1 + (k : Int)] := by rw [hps.out]; simp [hc]
        have HL2 := hide hl2
        clear hl2 hps
        go_wp2_with (first
          | (at_builtin; refine wpList_append_int _ rfl _ _ 28 rfl (w.heap.size + 1) 3 Tryz.underlying28 Tryz.info3 u7 l (1 + (k : Int)) rfl (hown1.alloc _) ⟨w1.heap.size, 0, none⟩ 1 rfl ?_ (by omega) (by simp; omega) ?_))
        · rw [add_zero', World.cell?_alloc_at _ _ _ _ rfl]; rfl
        intro v' w4 l' hl' hown' hgrow
        have hb4 : Below w.heap.size w w4 := (hb1.alloc (by omega) _).grown hgrow (by simp; omega) (fun k hk => by have := (hown1.lt k hk).1; omega)
        have hx4 : w4.heap[w.heap.size]? = some (.cells #[n, v, tv] 27) := by
          rw [hgrow.block _ (by simp; omega) (fun h => by have := (hown1.lt _ h.symm).1; omega), Below.heap_alloc _ _ _ (by omega)]
          exact HX1.out
        have e : l' = l2 := by rw [hl'.out, HL2.out]
        subst e
        have OW2 := hide hown'
        have HX4 := hide hx4
        clear hgrow hown' hx4 hown1
        go_wp2
        go_roundw
        case rel => exact ⟨k + 1, by omega, by go_num, hb4, HX4.out, by rw [← HL20.out]; exact OW2.out⟩
        case measure => simp [intOf]; omega
      · have hl2 : l2 = l := by rw [hps.out]; simp [hc]
        subst hl2
        have OW2 := hide hown1
        clear hown1 hps
        go_wp2
        go_roundw
        case rel => exact ⟨k + 1, by omega, by go_num, hb1, HX1.out, by rw [← HL20.out]; exact OW2.out⟩
        case measure => simp [intOf]; omega
    · have hk' : k = 6 := by omega
      subst hk'
      go_wp2
      go_ret
      exact ⟨_, rfl, owns_base OW.out (by omega), hb⟩
end Go.Proofs.YtdaigojpeofmpaaGreat
namespace Go.Proofs.YtdaigojpeofmpaaGreat
open Go.RowKit

structure Nr where
  to : Int
  c : Int
  deriving DecidableEq

instance : Inhabited Nr := ⟨⟨0, 0⟩⟩

def nrV (l : Nr) : Value := .agg #[.int .i64 l.to, .int .i64 l.c]

def nrE (l : Nr) : List Value := [.int .i64 l.to, .int .i64 l.c]

theorem nrE_len (l : Nr) : (nrE l).length = 2 := rfl

def NearsAt (W : World) (v : Value) (ls : List Nr) (B : Nat) : Prop := StructsAt nrE 2 W v ls B

theorem NearsAt.then {W W' : World} {v : Value} {ls : List Nr} (h : NearsAt W v ls W.heap.size) (hb : Below W.heap.size W W') : NearsAt W' v ls W'.heap.size := RowAt.then h hb

theorem NearsAt.shape {W : World} {v : Value} {ls : List Nr} {B : Nat} (h : NearsAt W v ls B) : ∃ a cap, v = .slice a ls.length cap := by obtain ⟨a, cap, h, _⟩ := h; exact ⟨a, cap, h⟩

theorem NearsAt.cells {W : World} {v : Value} {ls : List Nr} {B : Nat} (h : NearsAt W v ls B) (i : Nat) (l : Nr) (hl : ls[i]? = some l) :
    ∃ b off cap, v = .slice (some ⟨b, off, none⟩) ls.length cap ∧ b < B ∧ W.cell? ⟨b, off + i * 2, none⟩ = some (.int .i64 l.to) ∧ W.cell? ⟨b, off + i * 2 + 1, none⟩ = some (.int .i64 l.c) := by
  obtain ⟨b, off, cap, hv, hb, hc⟩ := StructsAt.cell h nrE_len i l hl
  exact ⟨b, off, cap, hv, hb, hc 0 _ rfl, hc 1 _ rfl⟩

def nr0 : Nr := ⟨0, 0⟩

theorem Tryz.infoNr : (Tryz.prog.info? 116).map (fun i => (i.zero, i.size, i.bytes)) = some (some (nrV nr0), 2, 16) := by kernel_rfl

end Go.Proofs.YtdaigojpeofmpaaGreat
namespace Go.Proofs.YtdaigojpeofmpaaGreat
open Go.RowKit

structure RecD where
  area : Int
  kind : Int
  owner : Int
  key : Int
  seq : Int
  near : List Nr
  cost : Int
  far : Bool
  deriving DecidableEq

def recC (x : RecD) (v : Value) : Array Value := #[.int .i64 x.area, .int .i64 x.kind, .int .i64 x.owner, .int .i64 x.key, .int .i64 x.seq, v, .int .i64 x.cost, .bool x.far]

/-- the value v is the record x, whose row lies below B -/
def RecAt (W : World) (v : Value) (x : RecD) (B : Nat) : Prop := ∃ v1, v = .agg (recC x v1) ∧ NearsAt W v1 x.near B

theorem RecAt.then {W W' : World} {v : Value} {x : RecD} (h : RecAt W v x W.heap.size) (hb : Below W.heap.size W W') : RecAt W' v x W'.heap.size := by
  obtain ⟨v1, hv, h1⟩ := h
  exact ⟨v1, hv, h1.then hb⟩

end Go.Proofs.YtdaigojpeofmpaaGreat
namespace Go.Proofs.YtdaigojpeofmpaaGreat
open Go.RowKit

def mk (q : Int) (i : Nat) : Nr := ⟨q + 2 * (i : Int), q + 2 * (i : Int) + 1⟩

theorem grown_refl (w : World) (r : Option Nat) : w.grownBy w r := ⟨rfl, rfl, rfl, Nat.le_refl _, fun _ _ _ => rfl⟩

theorem ret_int1 {a b : Int} (h : a = b) : Ending.returned (.int .i64 a) = .returned (.int .i64 b) := by rw [h]

end Go.Proofs.YtdaigojpeofmpaaGreat
namespace Go.Proofs.YtdaigojpeofmpaaGreat
open Go.RowKit

theorem flat_append {α : Type} {enc : α → List Value} (xs ys : List α) : flat enc (xs ++ ys) = flat enc xs ++ flat enc ys := by simp [flat]

theorem wpList_append_struct {α : Type} {enc : α → List Value} {sz bytes : Nat} (hlen : ∀ a, (enc a).length = sz) (hpos : 0 < sz) (hone : ∀ a, ∀ u ∈ enc a, u.oneCell' = true) (hbb : bytes ≤ 100) {P : Program} (w : World) {ops : Array Oper} {rest : List Oper} {o : Oper} {a : Act} {Q : Exit → Act → World → Prop} (hgd : o.guard = none) (s x : Operand) (t : TypeId)
    (ho : o.op = .call { callee := .builtin .append, args := #[s, x], argTypes := #[t, t] }) (base : Nat) (e : TypeId) (ht : P.underlying t = some (.slice e)) (zv : Value) (hzv : zv.cells.size = sz)
    (hinfo : (P.info? e).map (fun i => (i.zero, i.size, i.bytes)) = some (some zv, sz, bytes))
    (v : Value) (l : List α) (y : α) (hs : a.eval s = v) (hown : w.ownsRow base e sz v l.length (flat enc l))
    (ad : Addr) (c : Nat) (hx : a.eval x = .slice (some ad) 1 c) (hnews : ∀ j u, (enc y)[j]? = some u → w.cell? (ad.add j) = some u)
    (hl : l.length + 1 ≤ 1000000000) (hbase : base ≤ w.heap.size)
    (h : ∀ v' w' l', Hid (l' = l ++ [y]) → w'.ownsRow base e sz v' l'.length (flat enc l') → w.grownBy w' v.ownBlock → wpList P ops Q rest (a.put o.dst v') w') : wpList P ops Q (o :: rest) a w := by
  obtain ⟨i0, hi, hz0, hz1, hz2⟩ := info_parts hinfo
  refine wpList_append_own w hgd s x t ho base e i0 zv sz bytes ht hi hz0 hz1 hz2 hzv hpos v l.length (flat enc l) hs hown ad 1 c (enc y) hx (by rw [hlen]; omega) hnews (hone y) (by unfold maxLen; omega) ?_ hbase ?_
  · have : (l.length + 1) * bytes ≤ 1000000000 * 100 := Nat.mul_le_mul hl hbb
    omega
  · intro v' w' h1 h2 _
    have e1 : flat enc l ++ enc y = flat enc (l ++ [y]) := by rw [flat_append]; simp [flat]
    rw [e1] at h1
    exact h v' w' (l ++ [y]) rfl (by simpa using h1) h2

theorem news_struct {w : World} {cs : List Value} {t : TypeId} : ∀ (j : Nat) (u : Value), cs[j]? = some u → (w.alloc (.cells cs.toArray t)).cell? ((⟨w.heap.size, 0, none⟩ : Addr).add j) = some u := by
  intro j u hj
  have e : (⟨w.heap.size, 0, none⟩ : Addr).add j = ⟨w.heap.size, j, none⟩ := by
    simp only [Addr.add]
    split <;> simp_all
  rw [e, World.cell?_alloc_at _ _ _ _ rfl]
  simpa using hj
end Go.Proofs.YtdaigojpeofmpaaGreat
namespace Go.Proofs.YtdaigojpeofmpaaGreat
open Go.RowKit

/-- a record, and the value of its row -/
abbrev RP := RecD × Value

def encP (p : RP) : List Value := [.int .i64 p.1.area, .int .i64 p.1.kind, .int .i64 p.1.owner, .int .i64 p.1.key, .int .i64 p.1.seq, p.2, .int .i64 p.1.cost, .bool p.1.far]

theorem encP_len (p : RP) : (encP p).length = 8 := rfl

def zeroRD : RecD := ⟨0, 0, 0, 0, 0, [], 0, false⟩

/-- a list to read: its cells, and each record's row, below B -/
def RecsAt (W : World) (v : Value) (ps : List RP) (B : Nat) : Prop := StructsAt encP 8 W v ps B ∧ ∀ p ∈ ps, NearsAt W p.2 p.1.near B

theorem RecsAt.shape {W : World} {v : Value} {ps : List RP} {B : Nat} (h : RecsAt W v ps B) : ∃ a cap, v = .slice a ps.length cap := by
  obtain ⟨⟨a, cap, h, _⟩, _⟩ := h
  exact ⟨a, cap, h⟩

theorem RecsAt.later {W W' : World} {v : Value} {ps : List RP} {B C : Nat} (h : RecsAt W v ps B) (hb : Below C W W') (hBC : B ≤ C) : RecsAt W' v ps B :=
  ⟨RowAt.later h.1 hb hBC, fun p hp => RowAt.later (h.2 p hp) hb hBC⟩

theorem RecsAt.more {W : World} {v : Value} {ps : List RP} {B C : Nat} (h : RecsAt W v ps B) (hBC : B ≤ C) : RecsAt W v ps C :=
  ⟨RowAt.more h.1 hBC, fun p hp => RowAt.more (h.2 p hp) hBC⟩

theorem RecsAt.then {W W' : World} {v : Value} {ps : List RP} (h : RecsAt W v ps W.heap.size) (hb : Below W.heap.size W W') : RecsAt W' v ps W'.heap.size := (h.later hb (Nat.le_refl _)).more hb.size

theorem RecsAt.cells {W : World} {v : Value} {ps : List RP} {B : Nat} (h : RecsAt W v ps B) (i : Nat) (p : RP) (hp : ps[i]? = some p) :
    ∃ b off cap, v = .slice (some ⟨b, off, none⟩) ps.length cap ∧ b < B ∧ W.cell? ⟨b, off + i * 8, none⟩ = some (.int .i64 p.1.area) ∧ W.cell? ⟨b, off + i * 8 + 1, none⟩ = some (.int .i64 p.1.kind) ∧ W.cell? ⟨b, off + i * 8 + 2, none⟩ = some (.int .i64 p.1.owner) ∧ W.cell? ⟨b, off + i * 8 + 3, none⟩ = some (.int .i64 p.1.key) ∧ W.cell? ⟨b, off + i * 8 + 4, none⟩ = some (.int .i64 p.1.seq) ∧ W.cell? ⟨b, off + i * 8 + 5, none⟩ = some p.2 ∧ W.cell? ⟨b, off + i * 8 + 6, none⟩ = some (.int .i64 p.1.cost) ∧ W.cell? ⟨b, off + i * 8 + 7, none⟩ = some (.bool p.1.far) ∧ NearsAt W p.2 p.1.near B := by
  obtain ⟨b, off, cap, hv, hb, hc⟩ := StructsAt.cell h.1 encP_len i p hp
  exact ⟨b, off, cap, hv, hb, hc 0 _ rfl, hc 1 _ rfl, hc 2 _ rfl, hc 3 _ rfl, hc 4 _ rfl, hc 5 _ rfl, hc 6 _ rfl, hc 7 _ rfl, h.2 p (List.mem_of_getElem? hp)⟩

/-- its row is the caller's own, in blocks of lo .. hi -/
def NearOwn (W : World) (lo hi : Nat) (p : RP) : Prop := W.ownsRow lo 116 2 p.2 p.1.near.length (flat nrE p.1.near) ∧ ∀ k, p.2.ownBlock = some k → k < hi

def Apart (p q : RP) : Prop := ∀ k, p.2.ownBlock = some k → q.2.ownBlock ≠ some k

/-- a list of the caller's own: its row and those of its records, no two in one block, all in blocks of lo .. hi -/
structure RecsOwn (W : World) (lo hi : Nat) (v : Value) (ps : List RP) : Prop where
  row : W.ownsRow lo 39 8 v ps.length (flat encP ps)
  top : ∀ k, v.ownBlock = some k → k < hi
  nears : ∀ p ∈ ps, NearOwn W lo hi p
  apart : ps.Pairwise Apart

theorem owns_keepB {W W' : World} {base size : Nat} {e : TypeId} {v : Value} {n : Nat} {xs : List Value} (h : W.ownsRow base e size v n xs) (hk : ∀ k, v.ownBlock = some k → W'.heap[k]? = W.heap[k]?) : W'.ownsRow base e size v n xs := by
  refine ⟨h.1, ?_⟩
  rcases h.2 with h2 | ⟨g, cap, cur, hv, hg, hh, r⟩
  · exact .inl h2
  · exact .inr ⟨g, cap, cur, hv, hg, by rw [hk g (by rw [hv]; rfl)]; exact hh, r⟩

theorem NearOwn.keep {W W' : World} {lo hi : Nat} {p : RP} (h : NearOwn W lo hi p) (hk : ∀ k, lo ≤ k → k < hi → k < W.heap.size → W'.heap[k]? = W.heap[k]?) : NearOwn W' lo hi p :=
  ⟨owns_keepB h.1 (fun k e => hk k (h.1.lt k e).1 (h.2 k e) (h.1.lt k e).2), h.2⟩

theorem NearOwn.wide {W : World} {lo hi lo' hi' : Nat} {p : RP} (h : NearOwn W lo hi p) (hl : lo' ≤ lo) (hh : hi ≤ hi') : NearOwn W lo' hi' p :=
  ⟨owns_baseS h.1 hl, fun k e => Nat.lt_of_lt_of_le (h.2 k e) hh⟩

theorem NearOwn.at {W : World} {lo hi : Nat} {p : RP} (h : NearOwn W lo hi p) : NearsAt W p.2 p.1.near hi := by
  have h1 := owns_rowAt h.1
  obtain ⟨a, cap, hv, h2⟩ := h1
  refine ⟨a, cap, hv, ?_⟩
  rcases h2 with h0 | ⟨b, off, ha, hb1, hx⟩
  · exact .inl h0
  · exact .inr ⟨b, off, ha, h.2 b (by rw [hv, ha]; rfl), hx⟩

theorem RecsOwn.keep {W W' : World} {lo hi : Nat} {v : Value} {ps : List RP} (h : RecsOwn W lo hi v ps) (hk : ∀ k, lo ≤ k → k < hi → k < W.heap.size → W'.heap[k]? = W.heap[k]?) : RecsOwn W' lo hi v ps where
  row := owns_keepB h.row (fun k e => hk k (h.row.lt k e).1 (h.top k e) (h.row.lt k e).2)
  top := h.top
  nears := fun p hp => (h.nears p hp).keep hk
  apart := h.apart

theorem RecsOwn.below {W W' : World} {lo hi B : Nat} {v : Value} {ps : List RP} (h : RecsOwn W lo hi v ps) (hb : Below B W W') (hB : hi ≤ B) : RecsOwn W' lo hi v ps := h.keep (fun k _ h2 _ => hb.block k (by omega))

theorem RecsOwn.wide {W : World} {lo hi lo' hi' : Nat} {v : Value} {ps : List RP} (h : RecsOwn W lo hi v ps) (hl : lo' ≤ lo) (hh : hi ≤ hi') : RecsOwn W lo' hi' v ps where
  row := owns_baseS h.row hl
  top := fun k e => Nat.lt_of_lt_of_le (h.top k e) hh
  nears := fun p hp => (h.nears p hp).wide hl hh
  apart := h.apart

theorem RecsOwn.at {W : World} {lo hi : Nat} {v : Value} {ps : List RP} (h : RecsOwn W lo hi v ps) : RecsAt W v ps hi := by
  refine ⟨?_, fun p hp => (h.nears p hp).at⟩
  have h1 := owns_rowAt h.row
  obtain ⟨a, cap, hv, h2⟩ := h1
  refine ⟨a, cap, hv, ?_⟩
  rcases h2 with h0 | ⟨b, off, ha, hb1, hx⟩
  · exact .inl h0
  · exact .inr ⟨b, off, ha, h.top b (by rw [hv, ha]; rfl), hx⟩

/-- what a marking leaves: only blocks of lo .. hi turn -/
structure Frame (lo hi : Nat) (w w' : World) : Prop where
  os : w'.os = w.os
  tape : w'.tape = w.tape
  output : w'.output = w.output
  size : w.heap.size ≤ w'.heap.size
  block : ∀ k, k < w.heap.size → (k < lo ∨ hi ≤ k) → w'.heap[k]? = w.heap[k]?

theorem Frame.refl (lo hi : Nat) (w : World) : Frame lo hi w w := ⟨rfl, rfl, rfl, Nat.le_refl _, fun _ _ _ => rfl⟩

theorem Frame.trans {lo hi : Nat} {a b c : World} (h : Frame lo hi a b) (k : Frame lo hi b c) : Frame lo hi a c :=
  ⟨k.os.trans h.os, k.tape.trans h.tape, k.output.trans h.output, Nat.le_trans h.size k.size, fun i hi hr => (k.block i (Nat.lt_of_lt_of_le hi h.size) hr).trans (h.block i hi hr)⟩

theorem Frame.grown {lo hi : Nat} {a b : World} {row : Option Nat} (g : a.grownBy b row) (hr : ∀ k, row = some k → lo ≤ k ∧ k < hi) : Frame lo hi a b :=
  ⟨g.os, g.tape, g.output, g.size, fun k hk hh => g.block k hk (fun e => by have := hr k e.symm; omega)⟩

theorem Frame.set {lo hi : Nat} (w : World) (p j : Nat) (u : Value) (h1 : lo ≤ p) (h2 : p < hi) : Frame lo hi w (w.setCell ⟨p, j, none⟩ u) := Frame.grown (grown_set w p j u) (fun k e => by simp at e; omega)

theorem Frame.below {lo hi : Nat} {w w' : World} (h : Frame lo hi w w') (hw : lo ≤ w.heap.size) : Below lo w w' := (Below.refl _ _).trans ⟨h.os, h.tape, h.output, h.size, fun k hk => h.block k (by omega) (.inl hk)⟩

theorem RecsOwn.frame {W W' : World} {lo hi l2 h2 : Nat} {v : Value} {ps : List RP} (h : RecsOwn W lo hi v ps) (hb : Frame l2 h2 W W') (hB : hi ≤ l2 ∨ h2 ≤ lo) : RecsOwn W' lo hi v ps := h.keep (fun k h1 h2 h3 => hb.block k h3 (by omega))

/-- near rows of new records are behind all that was there -/
theorem apart_add {W : World} {lo hi : Nat} {ps : List RP} {p : RP} (h : ps.Pairwise Apart) (hn : ∀ q ∈ ps, NearOwn W lo hi q) (hp : ∀ k, p.2.ownBlock = some k → hi ≤ k) : (ps ++ [p]).Pairwise Apart := by
  rw [List.pairwise_append]
  refine ⟨h, by simp, ?_⟩
  intro a ha b hb
  have : b = p := by simpa using hb
  subst this
  intro k hk he
  have h1 := (hn a ha).2 k hk
  have h2 := hp k he
  omega

/-- how many numbers a list has -/
def tot (ps : List RP) : Nat := (ps.map (fun p => 1 + p.1.near.length)).sum

theorem tot_cons (p : RP) (ps : List RP) : tot (p :: ps) = 1 + p.1.near.length + tot ps := by simp [tot]

theorem tot_append (a b : List RP) : tot (a ++ b) = tot a + tot b := by simp [tot]

theorem tot_len (ps : List RP) : ps.length ≤ tot ps := by
  induction ps with
  | nil => simp [tot]
  | cons p ps ih => rw [tot_cons, List.length_cons]; omega

theorem tot_mem {ps : List RP} {p : RP} (h : p ∈ ps) : p.1.near.length ≤ tot ps := by
  induction ps with
  | nil => simp at h
  | cons q ps ih =>
    rw [tot_cons]
    rcases List.mem_cons.1 h with rfl | h1
    · omega
    · have := ih h1; omega

theorem tot_map {ps qs : List RP} (h : ps.map (·.1) = qs.map (·.1)) : tot ps = tot qs := by
  have e : ∀ l : List RP, tot l = ((l.map (·.1)).map (fun x => 1 + x.near.length)).sum := fun l => by simp [tot, List.map_map, Function.comp_def]
  rw [e, e, h]

theorem map_take {ps : List RP} {k : Nat} {p : RP} (h : ps[k]? = some p) : (ps.take (k + 1)).map (·.1) = (ps.take k).map (·.1) ++ [p.1] := by
  obtain ⟨hk, e⟩ := List.getElem?_eq_some_iff.1 h
  rw [List.take_succ_eq_append_getElem hk, List.map_append, e]
  rfl
end Go.Proofs.YtdaigojpeofmpaaGreat
namespace Go.Proofs.YtdaigojpeofmpaaGreat
open Go.RowKit

theorem Tryz.infoRec : (Tryz.prog.info? 39).map (fun i => (i.zero, i.size, i.bytes)) = some (some (.agg (recC zeroRD (.slice none 0 0))), 8, 80) := by kernel_rfl

def fsts (ps : List RP) : List RecD := ps.map (·.1)

theorem fsts_at {ps : List RP} {i : Nat} {p : RP} (h : ps[i]? = some p) : (fsts ps)[i]? = some p.1 := by simp [fsts, h]

end Go.Proofs.YtdaigojpeofmpaaGreat
