/-
  The plain mathematics of numbers in bytes and figures; small laws on rows of bytes that a call makes.
  What every walk of this seat imports; the element type's row of the table.
  Rows that a call made, and what stays of them.
  Rows whose elements are structs: their cells one behind another.
  What rows of structs and struct results want, of no function.
  Links and things as values; laws.toLink, toThing, eqLink, eqThing.
  Links and things in a row.
  spec.CostTo: its contract.
  Rows of truths.
  spec.l13Open: its contract.
  Rows of ints that a call made.
  spec.NextTo, spec.AreasOf, spec.Border: their contracts.
  Nears (two numbers) as values and in rows; laws.toNear, eqNear, toNearS, eqNearS, szNearS.
  Records as values; laws.toRecord, eqRecord, szRecord.
  laws.markNearS, heldNearS, markRecord, heldRecord: only the row's own memory turns; what was marked is held.
  'append(out, x)' of a struct of four cells, out a row that the call itself made.
  Lists of records, each with a row of its own.
  laws.szRecordS, toRecordS, eqRecordS: their contracts.
  spec.l04Copy, impl.ownRecord: a record with a row of its own.
-/
import Derived.WalkKit
import Derived.Laws.IdiomStrings
import Derived.Test.YtakiifededfjlaaGreatRows
import Derived.WalkSpells
import Derived.WalkLawsBesides
import Derived.OwnWalk
import Derived.Deep.QuietTactic
import Derived.BigQuiet
import Derived.Handy
import Derived.Deep.RegionHeld3
import Derived.Laws.AppendOwnNone
namespace Go.Proofs.YtakiifededfjlaaGreat
open Go.RowKit
set_option linter.unusedSimpArgs false
set_option linter.unusedVariables false
set_option maxRecDepth 100000
set_option maxHeartbeats 8000000
theorem hide {p : Prop} (h : p) : Hid p := h
def bs (l : List UInt8) : ByteArray := ⟨l.toArray⟩
theorem add_zero' (b o : Nat) : (⟨b, o, none⟩ : Addr).add 0 = ⟨b, o, none⟩ := rfl
theorem ZaM (x : Int) (h0 : -1000000000000000000 <= x) (h1 : x <= 1000000000000000000) : IntKind.i64.wrap x = x := by
 simp only [IntKind.wrap, IntKind.signed, IntKind.bits]
 simp
 omega
theorem Zhn {k : IntKind} {a b : Int} (h : a = b) : Ending.returned (.int k a) = .returned (.int k b) := by rw [h]

theorem Zae {w w' : World} {base B : Nat} {e : TypeId} {size : Nat} {v : Value} {n : Nat} {xs : List Value} (h : w.ownsRow base e size v n xs) (hb : Below B w w') (hB : w.heap.size <= B) : w'.ownsRow base e size v n xs := by
 refine ⟨h.1, ?_⟩
 rcases h.2 with h2 | ⟨g, cap, cur, hv, hg, hh, r⟩
 ·exact .inl h2
 ·have hlt : g < w.heap.size := by
   rcases Nat.lt_or_ge g w.heap.size with hl | hl
   ·exact hl
   ·rw [Array.getElem?_eq_none hl] at hh; cases hh
  exact .inr ⟨g, cap, cur, hv, hg, by rw [hb.block g (by omega)]; exact hh, r⟩
theorem Zd1 {w : World} {base : Nat} {e : TypeId} {v : Value} {n : Nat} {xs : List Value} (h : w.ownsRow base e 1 v n xs) (hn : 0 < n) :
  ∃ g cap, v = .slice (some ⟨g, 0, none⟩) n cap /\ base <= g /\ g < w.heap.size := by
 rcases h.2 with ⟨_, h0⟩ | ⟨g, cap, cur, hv, hb, hg, _⟩
 ·omega
 ·refine ⟨g, cap, hv, hb, ?_⟩
  rcases Nat.lt_or_ge g w.heap.size with hlt | hge
  ·exact hlt
  ·rw [Array.getElem?_eq_none hge] at hg; cases hg
theorem Ze8 {w : World} {base : Nat} {e : TypeId} {v : Value} {n : Nat} {xs : List Value} (h : w.ownsRow base e 1 v n xs) : ∃ a cap, v = .slice a n cap := by
 rcases h.2 with ⟨h1, h0⟩ | ⟨g, cap, cur, hv, _⟩
 ·exact ⟨none, 0, by rw [h1, h0]⟩
 ·exact ⟨_, cap, hv⟩
theorem Zac {w : World} {base size : Nat} {e : TypeId} {v : Value} {n : Nat} {xs : List Value} (h : w.ownsRow base e size v n xs) : ∃ a cap, v = .slice a n cap := by
 rcases h.2 with ⟨h1, h0⟩ | ⟨g, cap, cur, hv, _⟩
 ·exact ⟨none, 0, by rw [h1, h0]⟩
 ·exact ⟨_, cap, hv⟩
theorem Zag {w : World} {b0 b1 size : Nat} {e : TypeId} {v : Value} {n : Nat} {xs : List Value} (h : w.ownsRow b1 e size v n xs) (hb : b0 <= b1) : w.ownsRow b0 e size v n xs := by
 refine ⟨h.1, ?_⟩
 rcases h.2 with h2 | ⟨g, cap, cur, hv, hg, r⟩
 ·exact .inl h2
 ·exact .inr ⟨g, cap, cur, hv, Nat.le_trans hb hg, r⟩
theorem ZaB {w : World} {base size p j : Nat} {e : TypeId} {v u : Value} {n : Nat} {xs : List Value} (h : w.ownsRow base e size v n xs) (hp : p < base) : (w.setCell ⟨p, j, none⟩ u).ownsRow base e size v n xs := by
 refine ⟨h.1, ?_⟩
 rcases h.2 with h2 | ⟨g, cap, cur, hv, hg, hh, r⟩
 ·exact .inl h2
 ·exact .inr ⟨g, cap, cur, hv, hg, by rw [heap_setCell_other w ⟨p, j, none⟩ g _ (by show g ≠ p; omega)]; exact hh, r⟩
theorem ZiJ {w : World} {b0 b1 : Nat} {e : TypeId} {v : Value} {n : Nat} {xs : List Value} (h : w.ownsRow b1 e 1 v n xs) (hb : b0 <= b1) : w.ownsRow b0 e 1 v n xs := by
 refine ⟨h.1, ?_⟩
 rcases h.2 with h2 | ⟨g, cap, cur, hv, hg, r⟩
 ·exact .inl h2
 ·exact .inr ⟨g, cap, cur, hv, Nat.le_trans hb hg, r⟩
theorem Zaa {w : World} {p : Nat} {C : Array Value} {t : TypeId} (h : w.heap[p]? = some (.cells C t (0, 0))) (j : Nat) : w.cell? ⟨p, j, none⟩ = C[j]? := by
 simp [World.cell?, h]
theorem Zaf {w : World} {p : Nat} {C : Array Value} {t : TypeId} (h : w.heap[p]? = some (.cells C t (0, 0))) (j : Nat) : w.frozen? ⟨p, j, none⟩ = false := by
 simp [World.frozen?, h]
theorem Zam (w : World) (p j : Nat) (v : Value) : w.grownBy (w.setCell ⟨p, j, none⟩ v) (some p) := ⟨rfl, rfl, rfl, by simp, fun k _ hk => heap_setCell_other w ⟨p, j, none⟩ k _ (fun e => hk (by simp [e]))⟩
theorem Zep (w : World) (n : Nat) (row : Option Nat) : w.grownBy (w.drewN n) row := ⟨rfl, rfl, rfl, Nat.le_refl _, fun _ _ _ => rfl⟩
theorem Zal {a b c : World} {row : Option Nat} (h : a.grownBy b row) (k : b.grownBy c row) : a.grownBy c row :=
 ⟨k.os.trans h.os, k.tape.trans h.tape, k.output.trans h.output, Nat.le_trans h.size k.size, fun i hi hr => (k.block i (Nat.lt_of_lt_of_le hi h.size) hr).trans (h.block i hi hr)⟩
theorem Zab {w : World} {p : Nat} {o : Obj} (h : w.heap[p]? = some o) : p < w.heap.size := by
 rcases Nat.lt_or_ge p w.heap.size with hl | hl
 ·exact hl
 ·rw [Array.getElem?_eq_none hl] at h; cases h
end Go.Proofs.YtakiifededfjlaaGreat
namespace Go.Proofs.YtakiifededfjlaaGreat
open Go.RowKit

def flat {α : Type} (enc : α -> List Value) (xs : List α) : List Value := xs.flatMap enc

section
variable {α : Type} {enc : α -> List Value} {sz : Nat}

theorem Zcp (x : α) (xs : List α) : flat enc (x :: xs) = enc x ++ flat enc xs := rfl

theorem Zbn (h : ∀ a, (enc a).length = sz) (xs : List α) : (flat enc xs).length = xs.length * sz := by
 induction xs with
 | nil => simp [flat]
 | cons x xs ih => rw [Zcp, List.length_append, h, ih, List.length_cons, Nat.add_mul, Nat.one_mul, Nat.add_comm]

theorem Zdv (h : ∀ a, (enc a).length = sz) : ∀ (xs : List α) (i r : Nat) (x : α), xs[i]? = some x -> r < sz -> (flat enc xs)[i * sz + r]? = (enc x)[r]?
 | [], i, r, x, hx, _ => by simp at hx
 | y :: ys, 0, r, x, hx, hr => by
  simp at hx
  subst hx
  rw [Zcp, Nat.zero_mul, Nat.zero_add, List.getElem?_append_left (by rw [h]; exact hr)]
 | y :: ys, i + 1, r, x, hx, hr => by
  have e : (i + 1) * sz + r = sz + (i * sz + r) := by rw [Nat.add_mul, Nat.one_mul]; omega
  rw [Zcp, List.getElem?_append_right (by rw [h, e]; omega), h, e, Nat.add_sub_cancel_left]
  exact Zdv h ys i r x (by simpa using hx) hr

def setL : List Value -> Nat -> List Value -> List Value
 | xs, _, [] => xs
 | xs, off, v :: vs => setL (xs.set off v) (off + 1) vs

theorem Zel (a b : List Value) : ∀ (off : Nat) (vs : List Value), setL (a ++ b) (a.length + off) vs = a ++ setL b off vs
 | _, [] => rfl
 | off, v :: vs => by
  unfold setL
  rw [List.set_append_right _ _ (by omega), Nat.add_sub_cancel_left]
  exact Zel a (b.set off v) (off + 1) vs

theorem Zis : ∀ (vs b c : List Value), b.length = vs.length -> setL (b ++ c) 0 vs = vs ++ c
 | [], b, c, h => by
  have : b = [] := List.length_eq_zero_iff.1 (by simpa using h)
  subst this
  rfl
 | v :: vs, [], c, h => by simp at h
 | v :: vs, x :: b, c, h => by
  have h2 : setL ([v] ++ (b ++ c)) ([v].length + 0) vs = [v] ++ setL (b ++ c) 0 vs := Zel [v] (b ++ c) 0 vs
  unfold setL
  simp only [List.cons_append, List.set_cons_zero]
  simp only [List.cons_append, List.nil_append, List.length_cons, List.length_nil, Nat.add_zero] at h2
  rw [Nat.zero_add, h2, Zis vs b c (by simpa using h)]

theorem ZjV (h : ∀ a, (enc a).length = sz) : ∀ (xs : List α) (k : Nat) (x : α), k < xs.length -> setL (flat enc xs) (k * sz) (enc x) = flat enc (xs.set k x)
 | [], k, x, hk => by simp at hk
 | y :: ys, 0, x, _ => by
  rw [Nat.zero_mul, Zcp, Zis _ _ _ (by rw [h, h]), List.set_cons_zero, Zcp]
 | y :: ys, k + 1, x, hk => by
  have e : (k + 1) * sz = (enc y).length + k * sz := by rw [h, Nat.add_mul, Nat.one_mul, Nat.add_comm]
  rw [Zcp, e, Zel, ZjV h ys k x (by simpa using hk), List.set_cons_succ, Zcp]
end

def ZaR (W : World) (v : Value) (n sz : Nat) (f : Nat -> Value) (B : Nat) : Prop :=
 ∃ a cap, v = .slice a n cap /\ (n = 0 \/ ∃ b off, a = some ⟨b, off, none⟩ /\ b < B /\ ∀ j, j < n * sz -> W.cell? ⟨b, off + j, none⟩ = some (f j))

theorem ZaR.later {W W' : World} {v : Value} {n sz : Nat} {f : Nat -> Value} {B C : Nat} (h : ZaR W v n sz f B) (hb : Below C W W') (hBC : B <= C) : ZaR W' v n sz f B := by
 obtain ⟨a, cap, hv, h2⟩ := h
 refine ⟨a, cap, hv, ?_⟩
 rcases h2 with h0 | ⟨b, off, ha, hb1, hx⟩
 ·exact .inl h0
 ·exact .inr ⟨b, off, ha, hb1, fun j hj => by rw [hb.cell (p := ⟨b, off + j, none⟩) (by show b < C; omega)]; exact hx j hj⟩

theorem ZaR.more {W : World} {v : Value} {n sz : Nat} {f : Nat -> Value} {B C : Nat} (h : ZaR W v n sz f B) (hBC : B <= C) : ZaR W v n sz f C := by
 obtain ⟨a, cap, hv, h2⟩ := h
 refine ⟨a, cap, hv, ?_⟩
 rcases h2 with h0 | ⟨b, off, ha, hb1, hx⟩
 ·exact .inl h0
 ·exact .inr ⟨b, off, ha, by omega, hx⟩

theorem ZaR.then {W W' : World} {v : Value} {n sz : Nat} {f : Nat -> Value} (h : ZaR W v n sz f W.heap.size) (hb : Below W.heap.size W W') : ZaR W' v n sz f W'.heap.size := (h.later hb (Nat.le_refl _)).more hb.size

def Za2 {α : Type} (enc : α -> List Value) (sz : Nat) (W : World) (v : Value) (xs : List α) (B : Nat) : Prop := ZaR W v xs.length sz (fun j => (flat enc xs).getD j undef) B

section
variable {α : Type} {enc : α -> List Value} {sz : Nat}

theorem Za2.cell {W : World} {v : Value} {xs : List α} {B : Nat} (h : Za2 enc sz W v xs B) (hs : ∀ a, (enc a).length = sz) (i : Nat) (x : α) (hx : xs[i]? = some x) :
  ∃ b off cap, v = .slice (some ⟨b, off, none⟩) xs.length cap /\ b < B /\ ∀ r u, (enc x)[r]? = some u -> W.cell? ⟨b, off + i * sz + r, none⟩ = some u := by
 have hi : i < xs.length := (List.getElem?_eq_some_iff.1 hx).1
 obtain ⟨a, cap, hv, h2⟩ := h
 rcases h2 with h0 | ⟨b, off, ha, hb, hc⟩
 ·omega
 ·refine ⟨b, off, cap, by rw [hv, ha], hb, fun r u hu => ?_⟩
  have hr : r < sz := by have := (List.getElem?_eq_some_iff.1 hu).1; rw [hs] at this; exact this
  have hg := Zdv hs xs i r x hx hr
  have hlt : i * sz + r < xs.length * sz := by
   have : (i + 1) * sz <= xs.length * sz := Nat.mul_le_mul_right _ hi
   rw [Nat.add_mul, Nat.one_mul] at this
   omega
  rw [Nat.add_assoc, hc _ hlt]
  simp only [List.getD_eq_getElem?_getD, hg, hu]
  rfl

theorem Zat {W : World} {base : Nat} {e : TypeId} {v : Value} {xs : List α} (h : W.ownsRow base e sz v xs.length (flat enc xs)) : Za2 enc sz W v xs W.heap.size := by
 rcases h.2 with ⟨hv, h0⟩ | ⟨g, cap, cur, hv, hg, hh, hnc, hcm, hcs, htk⟩
 ·exact ⟨none, 0, by rw [hv, h0], .inl h0⟩
 ·have hlt : g < W.heap.size := by
   rcases Nat.lt_or_ge g W.heap.size with hl | hl
   ·exact hl
   ·rw [Array.getElem?_eq_none hl] at hh; cases hh
  refine ⟨_, cap, hv, .inr ⟨g, 0, rfl, hlt, fun j hj => ?_⟩⟩
  rw [Nat.zero_add]
  simp only [World.cell?, hh]
  have hj2 : j < cur.size := by
   have : xs.length * sz <= cap * sz := Nat.mul_le_mul_right _ hnc
   omega
  have e1 : (flat enc xs)[j]? = cur.toList[j]? := by rw [<- htk, List.getElem?_take_of_lt hj]
  simp [List.getD, e1, hj2]
end
end Go.Proofs.YtakiifededfjlaaGreat
namespace Go.Proofs.YtakiifededfjlaaGreat
open Go.RowKit
set_option linter.unusedSimpArgs false
set_option linter.unusedVariables false
set_option maxRecDepth 100000
set_option maxHeartbeats 8000000
theorem Zf9 {p : Prop} [Decidable p] (h : ¬ p) : Ending.returned (.bool false) = .returned (.bool (decide p)) := by rw [decide_eq_false h]
theorem Zh5 {p : Prop} [Decidable p] (h : p) : Ending.returned (.bool true) = .returned (.bool (decide p)) := by rw [decide_eq_true h]
theorem Za1 {w : World} (o1 o2 : Obj) : Below w.heap.size w ((w.alloc o1).alloc o2) := ((Below.refl _ _).alloc (Nat.le_refl _) _).alloc (by simp) _
theorem Zgl {w : World} (o1 o2 o3 : Obj) : Below w.heap.size w (((w.alloc o1).alloc o2).alloc o3) := (Za1 o1 o2).alloc (by simp; omega) _
theorem Zmq (w : World) (a b c : Obj) : (((w.alloc a).alloc b).alloc c).heap[w.heap.size]? = some a := by
 rw [Below.heap_alloc _ _ _ (by simp; omega), Below.heap_alloc _ _ _ (by simp), heap_alloc_new]
theorem ZlU (w : World) (a b c : Obj) : (((w.alloc a).alloc b).alloc c).heap[w.heap.size + 1]? = some b := by
 rw [Below.heap_alloc _ _ _ (by simp)]
 have := heap_alloc_new (w.alloc a) b
 simpa using this
theorem Zl0 (w : World) (a b c : Obj) : (((w.alloc a).alloc b).alloc c).heap[w.heap.size + 1 + 1]? = some c := by
 have := heap_alloc_new ((w.alloc a).alloc b) c
 simpa using this
theorem Zaj {a b : Bool} (h : b = a) : Ending.returned (.bool a) = .returned (.bool b) := by rw [h]
structure Lk where
 a : Int
 b : Int
 c : Int
 r : Int
 deriving DecidableEq
structure Th where
 o : Int
 k : Int
 c : Int
 f : Bool
 deriving DecidableEq
def lkV (l : Lk) : Value := .agg #[.int .i64 l.a, .int .i64 l.b, .int .i64 l.c, .int .i64 l.r]
def thV (t : Th) : Value := .agg #[.int .i64 t.o, .int .i64 t.k, .int .i64 t.c, .bool t.f]
def lkE (l : Lk) : List Value := [.int .i64 l.a, .int .i64 l.b, .int .i64 l.c, .int .i64 l.r]
def thE (t : Th) : List Value := [.int .i64 t.o, .int .i64 t.k, .int .i64 t.c, .bool t.f]
theorem ZhD (l : Lk) : (lkE l).length = 4 := rfl
theorem Zht (t : Th) : (thE t).length = 4 := rfl
def Zbi (W : World) (v : Value) (ls : List Lk) (B : Nat) : Prop := Za2 lkE 4 W v ls B
def ZbK (W : World) (v : Value) (ts : List Th) (B : Nat) : Prop := Za2 thE 4 W v ts B
theorem Zbi.then {W W' : World} {v : Value} {ls : List Lk} (h : Zbi W v ls W.heap.size) (hb : Below W.heap.size W W') : Zbi W' v ls W'.heap.size := ZaR.then h hb
theorem ZbK.then {W W' : World} {v : Value} {ls : List Th} (h : ZbK W v ls W.heap.size) (hb : Below W.heap.size W W') : ZbK W' v ls W'.heap.size := ZaR.then h hb
theorem Zbi.shape {W : World} {v : Value} {ls : List Lk} {B : Nat} (h : Zbi W v ls B) : ∃ a cap, v = .slice a ls.length cap := by obtain ⟨a, cap, h, _⟩ := h; exact ⟨a, cap, h⟩
theorem ZbK.shape {W : World} {v : Value} {ls : List Th} {B : Nat} (h : ZbK W v ls B) : ∃ a cap, v = .slice a ls.length cap := by obtain ⟨a, cap, h, _⟩ := h; exact ⟨a, cap, h⟩
theorem Zbi.cells {W : World} {v : Value} {ls : List Lk} {B : Nat} (h : Zbi W v ls B) (i : Nat) (l : Lk) (hl : ls[i]? = some l) :
  ∃ b off cap, v = .slice (some ⟨b, off, none⟩) ls.length cap /\ b < B /\ W.cell? ⟨b, off + i * 4, none⟩ = some (.int .i64 l.a) /\ W.cell? ⟨b, off + i * 4 + 1, none⟩ = some (.int .i64 l.b) /\
   W.cell? ⟨b, off + i * 4 + 2, none⟩ = some (.int .i64 l.c) /\ W.cell? ⟨b, off + i * 4 + 3, none⟩ = some (.int .i64 l.r) := by
 obtain ⟨b, off, cap, hv, hb, hc⟩ := Za2.cell h ZhD i l hl
 exact ⟨b, off, cap, hv, hb, hc 0 _ rfl, hc 1 _ rfl, hc 2 _ rfl, hc 3 _ rfl⟩
theorem ZbK.cells {W : World} {v : Value} {ls : List Th} {B : Nat} (h : ZbK W v ls B) (i : Nat) (l : Th) (hl : ls[i]? = some l) :
  ∃ b off cap, v = .slice (some ⟨b, off, none⟩) ls.length cap /\ b < B /\ W.cell? ⟨b, off + i * 4, none⟩ = some (.int .i64 l.o) /\ W.cell? ⟨b, off + i * 4 + 1, none⟩ = some (.int .i64 l.k) /\
   W.cell? ⟨b, off + i * 4 + 2, none⟩ = some (.int .i64 l.c) /\ W.cell? ⟨b, off + i * 4 + 3, none⟩ = some (.bool l.f) := by
 obtain ⟨b, off, cap, hv, hb, hc⟩ := Za2.cell h Zht i l hl
 exact ⟨b, off, cap, hv, hb, hc 0 _ rfl, hc 1 _ rfl, hc 2 _ rfl, hc 3 _ rfl⟩
def Zd6 (f t r : Int) (l : Lk) : Bool := l.r == r && ((l.a == f && l.b == t) || (l.a == t && l.b == f))
def Zev (ls : List Lk) (f t r : Int) : Int := ((ls.find? (Zd6 f t r)).map (·.c)).getD 0
theorem Zfj {α : Type} (p : α -> Bool) : ∀ (ls : List α) (k : Nat) (l : α), (∀ j, j < k -> ∀ x, ls[j]? = some x -> p x = false) -> ls[k]? = some l -> p l = true -> ls.find? p = some l
 | [], _, _, _, h, _ => by simp at h
 | y :: ys, 0, l, _, h, hp => by simp at h; subst h; simp [hp]
 | y :: ys, k + 1, l, hno, h, hp => by
  have h0 := hno 0 (by omega) y rfl
  rw [List.find?_cons, h0]
  exact Zfj p ys k l (fun j hj x hx => hno (j + 1) (by omega) x (by simpa using hx)) (by simpa using h) hp
theorem Zhb {α : Type} (p : α -> Bool) (ls : List α) (h : ∀ j, j < ls.length -> ∀ x, ls[j]? = some x -> p x = false) : ls.find? p = none := by
 rw [List.find?_eq_none]
 intro x hx
 obtain ⟨i, hi, e⟩ := List.mem_iff_getElem.1 hx
 rw [h i hi x (by rw [List.getElem?_eq_getElem hi, e])]
 decide
theorem Zi6 {α : Type} {p : α -> Bool} {ls : List α} {k : Nat} {l : α} (h : ∀ j, j < k -> ∀ x, ls[j]? = some x -> p x = false) (hl : ls[k]? = some l) (hp : p l = false) : ∀ j, j < k + 1 -> ∀ x, ls[j]? = some x -> p x = false := by
 intro j hj x hx
 by_cases e : j = k
 ·subst e; rw [hl] at hx; cases hx; exact hp
 ·exact h j (by omega) x hx
theorem Znm {ls : List Lk} {f t r : Int} {k : Nat} {l : Lk} (h : ∀ j, j < k -> ∀ x, ls[j]? = some x -> Zd6 f t r x = false) (hl : ls[k]? = some l) (hp : Zd6 f t r l = true) : Zev ls f t r = l.c := by
 unfold Zev; rw [Zfj _ ls k l h hl hp]; rfl
theorem Zh3 {ls : List Lk} {f t r : Int} {k : Nat} {l : Lk} (h : ∀ j, j < k -> ∀ x, ls[j]? = some x -> Zd6 f t r x = false) (hl : ls[k]? = some l) (hp : Zd6 f t r l = false) : ∀ j, j < k + 1 -> ∀ x, ls[j]? = some x -> Zd6 f t r x = false := Zi6 h hl hp
theorem Zl9 {ls : List Lk} {f t r : Int} {k : Nat} (h : ∀ j, j < k -> ∀ x, ls[j]? = some x -> Zd6 f t r x = false) (hk : k = ls.length) : Zev ls f t r = 0 := by
 unfold Zev; rw [Zhb _ ls (by rw [<- hk]; exact h)]; rfl
theorem Zlk (n : Value) (v tv : Value) (ls : List Lk) (f t r : Int) (w : World) (hls : ls.length <= 1048576) (hv : Zbi w v ls w.heap.size) :
  Calls Tryz.prog 62 #[.agg #[n, v, tv], .int .i64 f, .int .i64 t, .int .i64 r] w fun e w' => e = .returned (.int .i64 (Zev ls f t r)) /\ Below w.heap.size w w' := by
 obtain ⟨a, cap, rfl⟩ : ∃ a cap, v = .slice a ls.length cap := by obtain ⟨a, cap, h, _⟩ := hv; exact ⟨a, cap, h⟩
 have HV := hide hv
 clear hv
 go_enter Tryz.func62, Tryz.ntmps62
 go_wp2
 go_loopw [9] (fun i wr => ∃ k : Nat, k <= ls.length /\ i = .int .i64 k /\ (∀ j, j < k -> ∀ l, ls[j]? = some l -> Zd6 f t r l = false) /\ Below w.heap.size w wr /\ wr.heap[w.heap.size]? = some (.cells #[n, .slice a ls.length cap, tv] 27)) (fun i _ => ls.length - (intOf i).toNat)
 case atStart => exact ⟨0, by omega, rfl, by omega, (Below.refl _ _).alloc (Nat.le_refl _) _, heap_alloc_new w _⟩
 case round =>
  obtain ⟨k, hk, rfl, hno, hb, hx⟩ := hrel
  have hx1 : wr.cell? ⟨w.heap.size, 1, none⟩ = some (.slice a ls.length cap) := by rw [Zaa hx]; rfl
  have HX := hide hx
  have HNO := hide hno
  clear hx hno
  by_cases hlt : k < ls.length
  ·obtain ⟨l, hl⟩ : ∃ l, ls[k]? = some l := ⟨ls[k], List.getElem?_eq_getElem hlt⟩
   obtain ⟨b, off, cap', hve, hbb, c0, c1, c2, c3⟩ := HV.out.cells k l hl
   cases hve
   rw [<- hb.cell (p := ⟨b, off + k * 4, none⟩) hbb] at c0
   rw [<- hb.cell (p := ⟨b, off + k * 4 + 1, none⟩) hbb] at c1
   rw [<- hb.cell (p := ⟨b, off + k * 4 + 2, none⟩) hbb] at c2
   rw [<- hb.cell (p := ⟨b, off + k * 4 + 3, none⟩) hbb] at c3
   have HL := hide hl
   clear hl
   obtain ⟨la, lb, lc, lr⟩ := l
   go_wp2
   all_goals first
    | (go_ret
       refine ⟨Zhn (Znm HNO.out HL.out ?_).symm, hb.alloc hb.size _⟩
       clear HV HX HL HNO hb hx1 c0 c1 c2 c3
       simp only [Zd6]
       grind)
    | (refine ⟨⟨k + 1, by omega, by go_num, Zh3 HNO.out HL.out ?_, hb.alloc hb.size _, ?_⟩, by simp [intOf]; omega⟩
       ·clear HV HX HL HNO hb hx1 c0 c1 c2 c3
        simp only [Zd6]
        grind
       ·rw [Below.heap_alloc _ _ _ (Zab HX.out)]; exact HX.out)
    | (subst_vars
       refine ⟨⟨k + 1, by omega, by go_num, Zh3 HNO.out HL.out ?_, hb.alloc hb.size _, ?_⟩, by simp [intOf]; omega⟩
       ·clear HV HX HL HNO hb hx1 c0 c1 c2 c3
        simp only [Zd6]
        grind
       ·rw [Below.heap_alloc _ _ _ (Zab HX.out)]; exact HX.out)
  ·have hk' : k = ls.length := by omega
   have HK := hide hk'
   clear hk'
   go_wp2
   go_ret
   exact ⟨Zhn (Zl9 HNO.out HK.out).symm, hb⟩
def blE (b : Bool) : List Value := [.bool b]
theorem Zop (b : Bool) : (blE b).length = 1 := rfl
theorem Zn1 (b : Bool) : ∀ u ∈ blE b, u.oneCell' = true := by
 intro u hu
 simp only [blE, List.mem_cons, List.not_mem_nil, or_false] at hu
 subst hu; rfl
def ZcM (W : World) (v : Value) (bs : List Bool) (B : Nat) : Prop := Za2 blE 1 W v bs B
theorem ZcM.shape {W : World} {v : Value} {bs : List Bool} {B : Nat} (h : ZcM W v bs B) : ∃ a cap, v = .slice a bs.length cap := by obtain ⟨a, cap, h, _⟩ := h; exact ⟨a, cap, h⟩
theorem ZcM.cell {W : World} {v : Value} {bs : List Bool} {B : Nat} (h : ZcM W v bs B) (i : Nat) (b : Bool) (hb : bs[i]? = some b) : ∃ g off cap, v = .slice (some ⟨g, off, none⟩) bs.length cap /\ g < B /\ W.cell? ⟨g, off + i, none⟩ = some (.bool b) := by
 obtain ⟨g, off, cap, hv, hg, hc⟩ := Za2.cell h Zop i b hb
 refine ⟨g, off, cap, hv, hg, ?_⟩
 have := hc 0 _ rfl
 simpa using this
def ZgF (f t r : Int) (p : Lk × Bool) : Bool := p.2 && Zd6 f t r p.1
def ZdE (ls : List Lk) (bs : List Bool) (f t r : Int) : Int := (((ls.zip bs).find? (ZgF f t r)).map (·.1.c)).getD 0
theorem zip_at {ls : List Lk} {bs : List Bool} {k : Nat} {l : Lk} {b : Bool} (h : ls[k]? = some l) (hb : bs[k]? = some b) : (ls.zip bs)[k]? = some (l, b) := by
 rw [List.getElem?_zip_eq_some]; exact ⟨h, hb⟩
theorem Znw {ls : List Lk} {bs : List Bool} {f t r : Int} {k : Nat} {l : Lk} {b : Bool} (h : ∀ j, j < k -> ∀ x, (ls.zip bs)[j]? = some x -> ZgF f t r x = false) (hl : (ls.zip bs)[k]? = some (l, b)) (hp : ZgF f t r (l, b) = true) : ZdE ls bs f t r = l.c := by
 unfold ZdE; rw [Zfj _ _ k _ h hl hp]; rfl
theorem Zl7 {ls : List Lk} {bs : List Bool} {f t r : Int} {k : Nat} (h : ∀ j, j < k -> ∀ x, (ls.zip bs)[j]? = some x -> ZgF f t r x = false) (hk : k = ls.length) : ZdE ls bs f t r = 0 := by
 unfold ZdE
 rw [Zhb _ _ (fun j hj => h j (by rw [List.length_zip] at hj; omega))]; rfl
def NoHit (ls : List Lk) (bs : List Bool) (f t r : Int) (k : Nat) : Prop := ∀ j, j < k -> ∀ x, (ls.zip bs)[j]? = some x -> ZgF f t r x = false
theorem ZlI (n : Value) (v tv y : Value) (ls : List Lk) (bs : List Bool) (f t r : Int) (w : World) (hls : ls.length <= 1048576) (hbs : bs.length = ls.length) (hv : Zbi w v ls w.heap.size) (hy : ZcM w y bs w.heap.size) :
  Calls Tryz.prog 24 #[.agg #[n, v, tv], y, .int .i64 f, .int .i64 t, .int .i64 r] w fun e w' => e = .returned (.int .i64 (ZdE ls bs f t r)) /\ Below w.heap.size w w' := by
 obtain ⟨a, cap, rfl⟩ : ∃ a cap, v = .slice a ls.length cap := by obtain ⟨a, cap, h, _⟩ := hv; exact ⟨a, cap, h⟩
 obtain ⟨a2, cap2, rfl⟩ := hy.shape
 have HV := hide hv
 have HY := hide hy
 have HBS := hide hbs
 clear hv hy hbs
 go_enter Tryz.func24, Tryz.ntmps24
 go_wp2
 go_loopw [11] (fun i wr => ∃ k : Nat, k <= ls.length /\ i = .int .i64 k /\ NoHit ls bs f t r k /\ Below w.heap.size w wr /\ wr.heap[w.heap.size]? = some (.cells #[n, .slice a ls.length cap, tv] 27)) (fun i _ => ls.length - (intOf i).toNat)
 case atStart => exact ⟨0, by omega, rfl, fun j hj => absurd hj (Nat.not_lt_zero _), (Below.refl _ _).alloc (Nat.le_refl _) _, heap_alloc_new w _⟩
 case round =>
  obtain ⟨k, hk, rfl, hno, hb, hx⟩ := hrel
  have hx1 : wr.cell? ⟨w.heap.size, 1, none⟩ = some (.slice a ls.length cap) := by rw [Zaa hx]; rfl
  have HX := hide hx
  have HNO := hide hno
  clear hx hno
  by_cases hlt : k < ls.length
  ·obtain ⟨l, hl⟩ : ∃ l, ls[k]? = some l := ⟨ls[k], List.getElem?_eq_getElem hlt⟩
   have hltb : k < bs.length := by have := HBS.out; omega
   obtain ⟨b1, hb1⟩ : ∃ b, bs[k]? = some b := ⟨bs[k], List.getElem?_eq_getElem hltb⟩
   obtain ⟨b, off, cap', hve, hbb, c0, c1, c2, c3⟩ := HV.out.cells k l hl
   cases hve
   obtain ⟨g, off2, cap2', hve2, hgg, d0⟩ := HY.out.cell k b1 hb1
   cases hve2
   rw [<- hb.cell (p := ⟨b, off + k * 4, none⟩) hbb] at c0
   rw [<- hb.cell (p := ⟨b, off + k * 4 + 1, none⟩) hbb] at c1
   rw [<- hb.cell (p := ⟨b, off + k * 4 + 2, none⟩) hbb] at c2
   rw [<- hb.cell (p := ⟨b, off + k * 4 + 3, none⟩) hbb] at c3
   rw [<- hb.cell (p := ⟨g, off2 + k, none⟩) hgg] at d0
   have HL := hide (zip_at hl hb1)
   have hlb : (k : Int) < (bs.length : Int) := by omega
   have hgw : g < wr.heap.size := by have := hb.size; omega
   clear hl hb1 hgg
   obtain ⟨la, lb, lc, lr⟩ := l
   cases b1
   all_goals go_wp2
   all_goals first
    | (go_ret
       refine ⟨Zhn (Znw HNO.out HL.out ?_).symm, hb.alloc hb.size _⟩
       clear HV HX HL HNO hb hx1 c0 c1 c2 c3 d0 HY
       simp only [ZgF, Zd6]
       grind)
    | (refine ⟨⟨k + 1, by omega, by go_num, Zi6 HNO.out HL.out ?_, hb.alloc hb.size _, ?_⟩, by simp [intOf]; omega⟩
       ·clear HV HX HL HNO hb hx1 c0 c1 c2 c3 d0 HY
        simp only [ZgF, Zd6]
        grind
       ·rw [Below.heap_alloc _ _ _ (Zab HX.out)]; exact HX.out)
    | (subst_vars
       refine ⟨⟨k + 1, by omega, by go_num, Zi6 HNO.out HL.out ?_, hb.alloc hb.size _, ?_⟩, by simp [intOf]; omega⟩
       ·clear HV HX HL HNO hb hx1 c0 c1 c2 c3 d0 HY
        simp only [ZgF, Zd6]
        grind
       ·rw [Below.heap_alloc _ _ _ (Zab HX.out)]; exact HX.out)
  ·have hk' : k = ls.length := by omega
   have HK := hide hk'
   clear hk'
   go_wp2
   go_ret
   exact ⟨Zhn (Zl7 HNO.out HK.out).symm, hb⟩
def Zbm (l : List Int) : List Value := l.map fun z => Value.int .i64 z
theorem ZhX (a b : List Int) : Zbm (a ++ b) = Zbm a ++ Zbm b := by simp [Zbm]
theorem Tryz.info3 : (Tryz.prog.info? 3).map (fun i => (i.zero, i.size, i.bytes)) = some (some (.int .i64 0), 1, 8) := by kernel_rfl
theorem Zdm {P : Program} (w : World) {ops : Array Oper} {rest : List Oper} {o : Oper} {a : Act} {Q : Exit -> Act -> World -> Prop} (hgd : o.guard = none) (s x : Operand) (t : TypeId)
  (ho : o.op = .call { callee := .builtin .append, args := #[s, x], argTypes := #[t, t] }) (base : Nat) (e : TypeId) (ht : P.underlying t = some (.slice e))
  (hinfo : (P.info? e).map (fun i => (i.zero, i.size, i.bytes)) = some (some (.int .i64 0), 1, 8))
  (v : Value) (l : List Int) (z : Int) (hs : a.eval s = v) (hown : w.ownsRow base e 1 v l.length (Zbm l))
  (ad : Addr) (c : Nat) (hx : a.eval x = .slice (some ad) 1 c) (hnews : w.cell? (ad.add 0) = some (.int .i64 z))
  (hlen : l.length + 1 <= 1000000000) (hbase : base <= w.heap.size)
  (h : ∀ v' w' l', Hid (l' = l ++ [z]) -> w'.ownsRow base e 1 v' l'.length (Zbm l') -> w.grownBy w' v.ownBlock -> wpList P ops Q rest (a.put o.dst v') w') : wpList P ops Q (o :: rest) a w := by
 obtain ⟨i0, hi, hz0, hz1, hz2⟩ := info_parts hinfo
 refine wpList_append_own w hgd s x t ho base e i0 (.int .i64 0) 1 8 ht hi hz0 hz1 hz2 rfl (by decide) v l.length (Zbm l) hs hown ad 1 c (Zbm [z]) hx (by simp [Zbm]) ?_ ?_ (by unfold maxLen; omega) (by omega) hbase ?_
 ·intro j u hj
  have hj' : j = 0 := by have := (List.getElem?_eq_some_iff.1 hj).1; simp [Zbm] at this; omega
  subst hj'
  rw [hnews]
  simpa [Zbm] using hj
 ·intro u hu
  simp only [Zbm, List.mem_map] at hu
  obtain ⟨b, _, rfl⟩ := hu
  rfl
 ·intro v' w' h1 h2 _
  rw [<- ZhX] at h1
  exact h v' w' (l ++ [z]) rfl (by simpa using h1) h2
def Ze3 (ls : List Lk) (v r : Int) : List Int := ([1, 2, 3, 4, 5, 6] : List Int).filter fun u => decide (0 < Zev ls v u r)
def ZaU (ls : List Lk) (v : Int) : List Int := ([0, 1, 2] : List Int).filter fun r => decide (0 < (Ze3 ls v r).length)
def ZhW (ls : List Lk) (v : Int) : Bool := decide (1 < (ZaU ls v).length) && ((ZaU ls v).head? == some 0)
def ZbW (p : Int -> Bool) (s : Int) : Nat -> List Int
 | 0 => []
 | k + 1 => ZbW p s k ++ (if p (s + (k : Int)) then [s + (k : Int)] else [])
theorem Zfh (p : Int -> Bool) (s : Int) : ∀ k, (ZbW p s k).length <= k
 | 0 => by simp [ZbW]
 | k + 1 => by
  have := Zfh p s k
  simp only [ZbW]
  split <;> simp <;> omega
theorem Zjo (ls : List Lk) (v r : Int) : Ze3 ls v r = ZbW (fun u => decide (0 < Zev ls v u r)) 1 6 := by
 simp [Ze3, ZbW, List.filter_cons]
 repeat' split
 all_goals simp
theorem ZmA (n : Value) (v tv : Value) (ls : List Lk) (f r : Int) (w : World) (hls : ls.length <= 1048576) (hv : Zbi w v ls w.heap.size) :
  Calls Tryz.prog 28 #[.agg #[n, v, tv], .int .i64 f, .int .i64 r] w fun e w' => ∃ x, e = .returned x /\ w'.ownsRow w.heap.size 3 1 x (Ze3 ls f r).length (Zbm (Ze3 ls f r)) /\ Below w.heap.size w w' := by
 have HV := hide hv
 clear hv
 rw [Zjo]
 go_enter Tryz.func28, Tryz.ntmps28
 go_wp2
 go_loopw [7, 8] (fun x i wr => ∃ k : Nat, k <= 6 /\ i = .int .i64 (1 + (k : Int)) /\ Below w.heap.size w wr /\ wr.heap[w.heap.size]? = some (.cells #[n, v, tv] 27) /\ wr.ownsRow (w.heap.size + 1) 3 1 x (ZbW (fun u => decide (0 < Zev ls f u r)) 1 k).length (Zbm (ZbW (fun u => decide (0 < Zev ls f u r)) 1 k))) (fun _ i _ => 8 - (intOf i).toNat)
 case atStart =>
  refine ⟨0, by omega, rfl, Za1 _ _, ?_, ?_⟩
  ·rw [Below.heap_alloc _ _ _ (show w.heap.size < (w.alloc (.cells #[n, v, tv] 27)).heap.size by simp), heap_alloc_new]
  ·have h0 := World.ownsRow_lit (base := w.heap.size + 1) (w.alloc (.cells #[n, v, tv] 27)) (#[] : Array Value) 0 (by simp) (by decide) (e := 3) (size := 1) rfl
   simpa [ZbW, Zbm] using h0
 case round =>
  obtain ⟨k, hk, rfl, hb, hx, hown⟩ := hrel
  have c0 : wr.cell? ⟨w.heap.size, 0, none⟩ = some n := by rw [Zaa hx]; rfl
  have c1 : wr.cell? ⟨w.heap.size, 1, none⟩ = some v := by rw [Zaa hx]; rfl
  have c2 : wr.cell? ⟨w.heap.size, 2, none⟩ = some tv := by rw [Zaa hx]; rfl
  have hxl := Zab hx
  have HX := hide hx
  have OW := hide hown
  clear hx hown
  by_cases hlt : k < 6
  ·go_wp2_with fail
   refine (Zlk n v tv ls f (1 + (k : Int)) r wr hls (HV.out.then hb)).mono ?_
   rintro e w1 ⟨rfl, b1⟩
   have hown1 := Zae OW.out b1 (Nat.le_refl _)
   have hx1 : w1.heap[w.heap.size]? = some (.cells #[n, v, tv] 27) := by rw [b1.block _ hxl]; exact HX.out
   have hb1 : Below w.heap.size w w1 := hb.trans (b1.mono hb.size)
   have hz1 := b1.size
   have hpl := Zfh (fun u => decide (0 < Zev ls f u r)) 1 k
   have HX1 := hide hx1
   obtain ⟨l2, hl20⟩ : ∃ l2, l2 = ZbW (fun u => decide (0 < Zev ls f u r)) 1 (k + 1) := ⟨_, rfl⟩
   have HL20 := hide hl20
   have hps : Hid (l2 = ZbW (fun u => decide (0 < Zev ls f u r)) 1 k ++ (if decide (0 < Zev ls f (1 + (k : Int)) r) then [1 + (k : Int)] else [])) := hl20
   clear hl20
   clear b1 hx1 c0 c1 c2 OW HX
   generalize ZbW (fun u => decide (0 < Zev ls f u r)) 1 k = l at hown1 hpl hps
   generalize Zev ls f (1 + (k : Int)) r = c at hps |-
   by_cases hc : 0 < c
   ·have hl2 : l2 = l ++ [1 + (k : Int)] := by rw [hps.out]; simp [hc]
    have HL2 := hide hl2
    clear hl2 hps
    go_wp2_with (first
     | (at_builtin; refine Zdm _ rfl _ _ 34 rfl (w.heap.size + 1) 3 Tryz.underlying34 Tryz.info3 u7 l (1 + (k : Int)) rfl (hown1.alloc _) ⟨w1.heap.size, 0, none⟩ 1 rfl ?_ (by omega) (by simp; omega) ?_))
    ·rw [add_zero', World.cell?_alloc_at _ _ _ _ rfl]; rfl
    intro v' w4 l' hl' hown' hgrow
    have hb4 : Below w.heap.size w w4 := (hb1.alloc (by omega) _).grown hgrow (by simp; omega) (fun k hk => by have := (hown1.lt k hk).1; omega)
    have hx4 : w4.heap[w.heap.size]? = some (.cells #[n, v, tv] 27) := by
     rw [hgrow.block _ (by simp; omega) (fun h => by have := (hown1.lt _ h.symm).1; omega), Below.heap_alloc _ _ _ (by omega)]
     exact HX1.out
    have e : l' = l2 := by rw [hl'.out, HL2.out]
    subst e
    have OW2 := hide hown'
    have HX4 := hide hx4
    clear hgrow hown' hx4 hown1
    go_wp2
    go_roundw
    case rel => exact ⟨k + 1, by omega, by go_num, hb4, HX4.out, by rw [<- HL20.out]; exact OW2.out⟩
    case measure => simp [intOf]; omega
   ·have hl2 : l2 = l := by rw [hps.out]; simp [hc]
    subst hl2
    have OW2 := hide hown1
    clear hown1 hps
    go_wp2
    go_roundw
    case rel => exact ⟨k + 1, by omega, by go_num, hb1, HX1.out, by rw [<- HL20.out]; exact OW2.out⟩
    case measure => simp [intOf]; omega
  ·have hk' : k = 6 := by omega
   subst hk'
   go_wp2
   go_ret
   exact ⟨_, rfl, ZiJ OW.out (by omega), hb⟩
structure Nr where
 to : Int
 c : Int
 deriving DecidableEq
instance : Inhabited Nr := ⟨⟨0, 0⟩⟩
def nrV (l : Nr) : Value := .agg #[.int .i64 l.to, .int .i64 l.c]
def nrE (l : Nr) : List Value := [.int .i64 l.to, .int .i64 l.c]
theorem Zjj (l : Nr) : (nrE l).length = 2 := rfl
def ZaC (W : World) (v : Value) (ls : List Nr) (B : Nat) : Prop := Za2 nrE 2 W v ls B
theorem ZaC.then {W W' : World} {v : Value} {ls : List Nr} (h : ZaC W v ls W.heap.size) (hb : Below W.heap.size W W') : ZaC W' v ls W'.heap.size := ZaR.then h hb
theorem ZaC.shape {W : World} {v : Value} {ls : List Nr} {B : Nat} (h : ZaC W v ls B) : ∃ a cap, v = .slice a ls.length cap := by obtain ⟨a, cap, h, _⟩ := h; exact ⟨a, cap, h⟩
theorem ZaC.cells {W : World} {v : Value} {ls : List Nr} {B : Nat} (h : ZaC W v ls B) (i : Nat) (l : Nr) (hl : ls[i]? = some l) :
  ∃ b off cap, v = .slice (some ⟨b, off, none⟩) ls.length cap /\ b < B /\ W.cell? ⟨b, off + i * 2, none⟩ = some (.int .i64 l.to) /\ W.cell? ⟨b, off + i * 2 + 1, none⟩ = some (.int .i64 l.c) := by
 obtain ⟨b, off, cap, hv, hb, hc⟩ := Za2.cell h Zjj i l hl
 exact ⟨b, off, cap, hv, hb, hc 0 _ rfl, hc 1 _ rfl⟩
def nr0 : Nr := ⟨0, 0⟩
theorem Tryz.infoNr : (Tryz.prog.info? 67).map (fun i => (i.zero, i.size, i.bytes)) = some (some (nrV nr0), 2, 16) := by kernel_rfl
structure RecD where
 area : Int
 kind : Int
 owner : Int
 key : Int
 seq : Int
 near : List Nr
 cost : Int
 far : Bool
 deriving DecidableEq
def recC (x : RecD) (v : Value) : Array Value := #[.int .i64 x.area, .int .i64 x.kind, .int .i64 x.owner, .int .i64 x.key, .int .i64 x.seq, v, .int .i64 x.cost, .bool x.far]
def Zor (W : World) (v : Value) (x : RecD) (B : Nat) : Prop := ∃ v1, v = .agg (recC x v1) /\ ZaC W v1 x.near B
theorem Zor.then {W W' : World} {v : Value} {x : RecD} (h : Zor W v x W.heap.size) (hb : Below W.heap.size W W') : Zor W' v x W'.heap.size := by
 obtain ⟨v1, hv, h1⟩ := h
 exact ⟨v1, hv, h1.then hb⟩
def mk (q : Int) (i : Nat) : Nr := ⟨q + 2 * (i : Int), q + 2 * (i : Int) + 1⟩
theorem ZjB {w : World} {base size : Nat} {e : TypeId} {v : Value} {n : Nat} {xs : List Value} (h : w.ownsRow base e size v n xs) (hn : 0 < n) :
  ∃ g cap, v = .slice (some ⟨g, 0, none⟩) n cap /\ base <= g /\ g < w.heap.size := by
 rcases h.2 with ⟨_, h0⟩ | ⟨g, cap, cur, hv, hb, hg, _⟩
 ·omega
 ·exact ⟨g, cap, hv, hb, Zab hg⟩
theorem ZfL {w : World} {base size g cap : Nat} {e : TypeId} {n : Nat} {xs : List Value} (h : w.ownsRow base e size (.slice (some ⟨g, 0, none⟩) n cap) n xs) (j : Nat) (hj : j < n * size) : ∃ u, w.cell? ⟨g, j, none⟩ = some u := by
 rw [h.cellAt j hj]
 have hl : j < xs.length := by rw [h.1]; exact hj
 exact ⟨_, List.getElem?_eq_getElem hl⟩
theorem ZcD (w : World) (r : Option Nat) : w.grownBy w r := ⟨rfl, rfl, rfl, Nat.le_refl _, fun _ _ _ => rfl⟩
theorem ZfM {a b : Int} (h : a = b) : Ending.returned (.int .i64 a) = .returned (.int .i64 b) := by rw [h]
theorem ZaO {α : Type} {enc : α -> List Value} (xs ys : List α) : flat enc (xs ++ ys) = flat enc xs ++ flat enc ys := by simp [flat]
theorem Za4 {α : Type} {enc : α -> List Value} {sz bytes : Nat} (hlen : ∀ a, (enc a).length = sz) (hpos : 0 < sz) (hone : ∀ a, ∀ u ∈ enc a, u.oneCell' = true) (hbb : bytes <= 100) {P : Program} (w : World) {ops : Array Oper} {rest : List Oper} {o : Oper} {a : Act} {Q : Exit -> Act -> World -> Prop} (hgd : o.guard = none) (s x : Operand) (t : TypeId)
  (ho : o.op = .call { callee := .builtin .append, args := #[s, x], argTypes := #[t, t] }) (base : Nat) (e : TypeId) (ht : P.underlying t = some (.slice e)) (zv : Value) (hzv : zv.cells.size = sz)
  (hinfo : (P.info? e).map (fun i => (i.zero, i.size, i.bytes)) = some (some zv, sz, bytes))
  (v : Value) (l : List α) (y : α) (hs : a.eval s = v) (hown : w.ownsRow base e sz v l.length (flat enc l))
  (ad : Addr) (c : Nat) (hx : a.eval x = .slice (some ad) 1 c) (hnews : ∀ j u, (enc y)[j]? = some u -> w.cell? (ad.add j) = some u)
  (hl : l.length + 1 <= 1000000000) (hbase : base <= w.heap.size)
  (h : ∀ v' w' l', Hid (l' = l ++ [y]) -> w'.ownsRow base e sz v' l'.length (flat enc l') -> w.grownBy w' v.ownBlock -> wpList P ops Q rest (a.put o.dst v') w') : wpList P ops Q (o :: rest) a w := by
 obtain ⟨i0, hi, hz0, hz1, hz2⟩ := info_parts hinfo
 refine wpList_append_own w hgd s x t ho base e i0 zv sz bytes ht hi hz0 hz1 hz2 hzv hpos v l.length (flat enc l) hs hown ad 1 c (enc y) hx (by rw [hlen]; omega) hnews (hone y) (by unfold maxLen; omega) ?_ hbase ?_
 ·have : (l.length + 1) * bytes <= 1000000000 * 100 := Nat.mul_le_mul hl hbb
  omega
 ·intro v' w' h1 h2 _
  have e1 : flat enc l ++ enc y = flat enc (l ++ [y]) := by rw [ZaO]; simp [flat]
  rw [e1] at h1
  exact h v' w' (l ++ [y]) rfl (by simpa using h1) h2
theorem Zan {w : World} {cs : List Value} {t : TypeId} : ∀ (j : Nat) (u : Value), cs[j]? = some u -> (w.alloc (.cells cs.toArray t)).cell? ((⟨w.heap.size, 0, none⟩ : Addr).add j) = some u := by
 intro j u hj
 have e : (⟨w.heap.size, 0, none⟩ : Addr).add j = ⟨w.heap.size, j, none⟩ := by
  simp only [Addr.add]
  split <;> simp_all
 rw [e, World.cell?_alloc_at _ _ _ _ rfl]
 simpa using hj
abbrev RP := RecD × Value
def encP (p : RP) : List Value := [.int .i64 p.1.area, .int .i64 p.1.kind, .int .i64 p.1.owner, .int .i64 p.1.key, .int .i64 p.1.seq, p.2, .int .i64 p.1.cost, .bool p.1.far]
theorem Zck (p : RP) : (encP p).length = 8 := rfl
def ZbN : RecD := ⟨0, 0, 0, 0, 0, [], 0, false⟩
def ZbB (W : World) (v : Value) (ps : List RP) (B : Nat) : Prop := Za2 encP 8 W v ps B /\ ∀ p ∈ ps, ZaC W p.2 p.1.near B
theorem ZbB.shape {W : World} {v : Value} {ps : List RP} {B : Nat} (h : ZbB W v ps B) : ∃ a cap, v = .slice a ps.length cap := by
 obtain ⟨⟨a, cap, h, _⟩, _⟩ := h
 exact ⟨a, cap, h⟩
theorem ZbB.later {W W' : World} {v : Value} {ps : List RP} {B C : Nat} (h : ZbB W v ps B) (hb : Below C W W') (hBC : B <= C) : ZbB W' v ps B :=
 ⟨ZaR.later h.1 hb hBC, fun p hp => ZaR.later (h.2 p hp) hb hBC⟩
theorem ZbB.more {W : World} {v : Value} {ps : List RP} {B C : Nat} (h : ZbB W v ps B) (hBC : B <= C) : ZbB W v ps C :=
 ⟨ZaR.more h.1 hBC, fun p hp => ZaR.more (h.2 p hp) hBC⟩
theorem ZbB.then {W W' : World} {v : Value} {ps : List RP} (h : ZbB W v ps W.heap.size) (hb : Below W.heap.size W W') : ZbB W' v ps W'.heap.size := (h.later hb (Nat.le_refl _)).more hb.size
theorem ZbB.cells {W : World} {v : Value} {ps : List RP} {B : Nat} (h : ZbB W v ps B) (i : Nat) (p : RP) (hp : ps[i]? = some p) :
  ∃ b off cap, v = .slice (some ⟨b, off, none⟩) ps.length cap /\ b < B /\ W.cell? ⟨b, off + i * 8, none⟩ = some (.int .i64 p.1.area) /\ W.cell? ⟨b, off + i * 8 + 1, none⟩ = some (.int .i64 p.1.kind) /\ W.cell? ⟨b, off + i * 8 + 2, none⟩ = some (.int .i64 p.1.owner) /\ W.cell? ⟨b, off + i * 8 + 3, none⟩ = some (.int .i64 p.1.key) /\ W.cell? ⟨b, off + i * 8 + 4, none⟩ = some (.int .i64 p.1.seq) /\ W.cell? ⟨b, off + i * 8 + 5, none⟩ = some p.2 /\ W.cell? ⟨b, off + i * 8 + 6, none⟩ = some (.int .i64 p.1.cost) /\ W.cell? ⟨b, off + i * 8 + 7, none⟩ = some (.bool p.1.far) /\ ZaC W p.2 p.1.near B := by
 obtain ⟨b, off, cap, hv, hb, hc⟩ := Za2.cell h.1 Zck i p hp
 exact ⟨b, off, cap, hv, hb, hc 0 _ rfl, hc 1 _ rfl, hc 2 _ rfl, hc 3 _ rfl, hc 4 _ rfl, hc 5 _ rfl, hc 6 _ rfl, hc 7 _ rfl, h.2 p (List.mem_of_getElem? hp)⟩
def ZaT (W : World) (lo hi : Nat) (p : RP) : Prop := W.ownsRow lo 67 2 p.2 p.1.near.length (flat nrE p.1.near) /\ ∀ k, p.2.ownBlock = some k -> k < hi
def Zky (p q : RP) : Prop := ∀ k, p.2.ownBlock = some k -> q.2.ownBlock ≠ some k
structure RecsOwn (W : World) (lo hi : Nat) (v : Value) (ps : List RP) : Prop where
 row : W.ownsRow lo 64 8 v ps.length (flat encP ps)
 top : ∀ k, v.ownBlock = some k -> k < hi
 nears : ∀ p ∈ ps, ZaT W lo hi p
 apart : ps.Pairwise Zky
theorem Zap {W W' : World} {base size : Nat} {e : TypeId} {v : Value} {n : Nat} {xs : List Value} (h : W.ownsRow base e size v n xs) (hk : ∀ k, v.ownBlock = some k -> W'.heap[k]? = W.heap[k]?) : W'.ownsRow base e size v n xs := by
 refine ⟨h.1, ?_⟩
 rcases h.2 with h2 | ⟨g, cap, cur, hv, hg, hh, r⟩
 ·exact .inl h2
 ·exact .inr ⟨g, cap, cur, hv, hg, by rw [hk g (by rw [hv]; rfl)]; exact hh, r⟩
theorem ZaT.keep {W W' : World} {lo hi : Nat} {p : RP} (h : ZaT W lo hi p) (hk : ∀ k, lo <= k -> k < hi -> k < W.heap.size -> W'.heap[k]? = W.heap[k]?) : ZaT W' lo hi p :=
 ⟨Zap h.1 (fun k e => hk k (h.1.lt k e).1 (h.2 k e) (h.1.lt k e).2), h.2⟩
theorem ZaT.wide {W : World} {lo hi lo' hi' : Nat} {p : RP} (h : ZaT W lo hi p) (hl : lo' <= lo) (hh : hi <= hi') : ZaT W lo' hi' p :=
 ⟨Zag h.1 hl, fun k e => Nat.lt_of_lt_of_le (h.2 k e) hh⟩
theorem ZaT.at {W : World} {lo hi : Nat} {p : RP} (h : ZaT W lo hi p) : ZaC W p.2 p.1.near hi := by
 have h1 := Zat h.1
 obtain ⟨a, cap, hv, h2⟩ := h1
 refine ⟨a, cap, hv, ?_⟩
 rcases h2 with h0 | ⟨b, off, ha, hb1, hx⟩
 ·exact .inl h0
 ·exact .inr ⟨b, off, ha, h.2 b (by rw [hv, ha]; rfl), hx⟩
theorem RecsOwn.keep {W W' : World} {lo hi : Nat} {v : Value} {ps : List RP} (h : RecsOwn W lo hi v ps) (hk : ∀ k, lo <= k -> k < hi -> k < W.heap.size -> W'.heap[k]? = W.heap[k]?) : RecsOwn W' lo hi v ps where
 row := Zap h.row (fun k e => hk k (h.row.lt k e).1 (h.top k e) (h.row.lt k e).2)
 top := h.top
 nears := fun p hp => (h.nears p hp).keep hk
 apart := h.apart
theorem RecsOwn.below {W W' : World} {lo hi B : Nat} {v : Value} {ps : List RP} (h : RecsOwn W lo hi v ps) (hb : Below B W W') (hB : hi <= B) : RecsOwn W' lo hi v ps := h.keep (fun k _ h2 _ => hb.block k (by omega))
theorem RecsOwn.wide {W : World} {lo hi lo' hi' : Nat} {v : Value} {ps : List RP} (h : RecsOwn W lo hi v ps) (hl : lo' <= lo) (hh : hi <= hi') : RecsOwn W lo' hi' v ps where
 row := Zag h.row hl
 top := fun k e => Nat.lt_of_lt_of_le (h.top k e) hh
 nears := fun p hp => (h.nears p hp).wide hl hh
 apart := h.apart
theorem RecsOwn.at {W : World} {lo hi : Nat} {v : Value} {ps : List RP} (h : RecsOwn W lo hi v ps) : ZbB W v ps hi := by
 refine ⟨?_, fun p hp => (h.nears p hp).at⟩
 have h1 := Zat h.row
 obtain ⟨a, cap, hv, h2⟩ := h1
 refine ⟨a, cap, hv, ?_⟩
 rcases h2 with h0 | ⟨b, off, ha, hb1, hx⟩
 ·exact .inl h0
 ·exact .inr ⟨b, off, ha, h.top b (by rw [hv, ha]; rfl), hx⟩
structure Frame (lo hi : Nat) (w w' : World) : Prop where
 os : w'.os = w.os
 tape : w'.tape = w.tape
 output : w'.output = w.output
 size : w.heap.size <= w'.heap.size
 block : ∀ k, k < w.heap.size -> (k < lo \/ hi <= k) -> w'.heap[k]? = w.heap[k]?
theorem Frame.refl (lo hi : Nat) (w : World) : Frame lo hi w w := ⟨rfl, rfl, rfl, Nat.le_refl _, fun _ _ _ => rfl⟩
theorem Frame.trans {lo hi : Nat} {a b c : World} (h : Frame lo hi a b) (k : Frame lo hi b c) : Frame lo hi a c :=
 ⟨k.os.trans h.os, k.tape.trans h.tape, k.output.trans h.output, Nat.le_trans h.size k.size, fun i hi hr => (k.block i (Nat.lt_of_lt_of_le hi h.size) hr).trans (h.block i hi hr)⟩
theorem Frame.grown {lo hi : Nat} {a b : World} {row : Option Nat} (g : a.grownBy b row) (hr : ∀ k, row = some k -> lo <= k /\ k < hi) : Frame lo hi a b :=
 ⟨g.os, g.tape, g.output, g.size, fun k hk hh => g.block k hk (fun e => by have := hr k e.symm; omega)⟩
theorem Frame.set {lo hi : Nat} (w : World) (p j : Nat) (u : Value) (h1 : lo <= p) (h2 : p < hi) : Frame lo hi w (w.setCell ⟨p, j, none⟩ u) := Frame.grown (Zam w p j u) (fun k e => by simp at e; omega)
theorem Frame.below {lo hi : Nat} {w w' : World} (h : Frame lo hi w w') (hw : lo <= w.heap.size) : Below lo w w' := (Below.refl _ _).trans ⟨h.os, h.tape, h.output, h.size, fun k hk => h.block k (by omega) (.inl hk)⟩
theorem RecsOwn.frame {W W' : World} {lo hi l2 h2 : Nat} {v : Value} {ps : List RP} (h : RecsOwn W lo hi v ps) (hb : Frame l2 h2 W W') (hB : hi <= l2 \/ h2 <= lo) : RecsOwn W' lo hi v ps := h.keep (fun k h1 h2 h3 => hb.block k h3 (by omega))
theorem Zl6 {W : World} {lo hi : Nat} {ps : List RP} {p : RP} (h : ps.Pairwise Zky) (hn : ∀ q ∈ ps, ZaT W lo hi q) (hp : ∀ k, p.2.ownBlock = some k -> hi <= k) : (ps ++ [p]).Pairwise Zky := by
 rw [List.pairwise_append]
 refine ⟨h, by simp, ?_⟩
 intro a ha b hb
 have : b = p := by simpa using hb
 subst this
 intro k hk he
 have h1 := (hn a ha).2 k hk
 have h2 := hp k he
 omega
def tot (ps : List RP) : Nat := (ps.map (fun p => 1 + p.1.near.length)).sum
theorem Zcv (p : RP) (ps : List RP) : tot (p :: ps) = 1 + p.1.near.length + tot ps := by simp [tot]
theorem Zdb (a b : List RP) : tot (a ++ b) = tot a + tot b := by simp [tot]
theorem ZbL (ps : List RP) : ps.length <= tot ps := by
 induction ps with
 | nil => simp [tot]
 | cons p ps ih => rw [Zcv, List.length_cons]; omega
theorem Zf2 {ps : List RP} {p : RP} (h : p ∈ ps) : p.1.near.length <= tot ps := by
 induction ps with
 | nil => simp at h
 | cons q ps ih =>
  rw [Zcv]
  rcases List.mem_cons.1 h with rfl | h1
  ·omega
  ·have := ih h1; omega
theorem Zol {ps qs : List RP} (h : ps.map (·.1) = qs.map (·.1)) : tot ps = tot qs := by
 have e : ∀ l : List RP, tot l = ((l.map (·.1)).map (fun x => 1 + x.near.length)).sum := fun l => by simp [tot, List.map_map, Function.comp_def]
 rw [e, e, h]
theorem map_take {ps : List RP} {k : Nat} {p : RP} (h : ps[k]? = some p) : (ps.take (k + 1)).map (·.1) = (ps.take k).map (·.1) ++ [p.1] := by
 obtain ⟨hk, e⟩ := List.getElem?_eq_some_iff.1 h
 rw [List.take_succ_eq_append_getElem hk, List.map_append, e]
 rfl
theorem Tryz.infoRec : (Tryz.prog.info? 64).map (fun i => (i.zero, i.size, i.bytes)) = some (some (.agg (recC ZbN (.slice none 0 0))), 8, 80) := by kernel_rfl
def fsts (ps : List RP) : List RecD := ps.map (·.1)
theorem Zbo {ps : List RP} {i : Nat} {p : RP} (h : ps[i]? = some p) : (fsts ps)[i]? = some p.1 := by simp [fsts, h]
theorem ZnH (a : Nr) : ∀ u ∈ nrE a, u.oneCell' = true := by
 intro u hu
 simp [nrE] at hu
 rcases hu with rfl | rfl <;> rfl
theorem Zcc {α : Type} {enc : α -> List Value} {sz bytes : Nat} (hlen : ∀ l : List α, (flat enc l).length = l.length * sz) (hpos : 0 < sz) (hone : ∀ a, ∀ u ∈ enc a, u.oneCell' = true) (hbb : bytes <= 100) {P : Program} (w : World) {ops : Array Oper} {rest : List Oper} {o : Oper} {a : Act} {Q : Exit -> Act -> World -> Prop} (hgd : o.guard = none) (s x : Operand) (t : TypeId)
  (ho : o.op = .call { callee := .builtin .append, args := #[s, x], argTypes := #[t, t] }) (base : Nat) (e : TypeId) (ht : P.underlying t = some (.slice e)) (zv : Value) (hzv : zv.cells.size = sz)
  (hinfo : (P.info? e).map (fun i => (i.zero, i.size, i.bytes)) = some (some zv, sz, bytes))
  (v : Value) (l : List α) (hs : a.eval s = v) (hown : w.ownsRow base e sz v l.length (flat enc l))
  (base2 : Nat) (v2 : Value) (l2 : List α) (hx : a.eval x = v2) (hown2 : w.ownsRow base2 e sz v2 l2.length (flat enc l2))
  (hl : l.length + l2.length <= 1000000000) (hbase : base <= w.heap.size)
  (h : ∀ v' w', w'.ownsRow base e sz v' (l ++ l2).length (flat enc (l ++ l2)) -> w.grownBy w' v.ownBlock -> wpList P ops Q rest (a.put o.dst v') w') : wpList P ops Q (o :: rest) a w := by
 obtain ⟨i0, hi, hz0, hz1, hz2⟩ := info_parts hinfo
 rcases hown2.2 with ⟨e1, e2⟩ | ⟨g, cap, cur, e1, _⟩
 ·have e3 : l2 = [] := List.eq_nil_of_length_eq_zero e2
  subst e3
  refine wpList_append_own_none hgd s x t ho base e i0 sz ht hi v l.length (flat enc l) hs hown (hx.trans e1) ?_
  exact h v w (by simpa using hown) (ZcD w _)
 ·refine wpList_append_own w hgd s x t ho base e i0 zv sz bytes ht hi hz0 hz1 hz2 hzv hpos v l.length (flat enc l) hs hown ⟨g, 0, none⟩ l2.length cap (flat enc l2) (hx.trans e1) (hlen l2) (hown2.cells (by rw [e1]; rfl)) ?_ (by unfold maxLen; omega) ?_ hbase ?_
  ·intro u hu
   simp only [flat, List.mem_flatMap] at hu
   obtain ⟨b, _, hb⟩ := hu
   exact hone b u hb
  ·have : (l.length + l2.length) * bytes <= 1000000000 * 100 := Nat.mul_le_mul hl hbb
   omega
  ·intro v' w' h1 h2 _
   have e1 : flat enc l ++ flat enc l2 = flat enc (l ++ l2) := by rw [ZaO]
   rw [e1] at h1
   exact h v' w' (by simpa using h1) h2
abbrev Zkw (W : World) (g : Nat) (x : RecD) (v : Value) : World := (((((((W.setCell ⟨g, 0, none⟩ (.int .i64 x.area)).setCell ⟨g, 1, none⟩ (.int .i64 x.kind)).setCell ⟨g, 2, none⟩ (.int .i64 x.owner)).setCell ⟨g, 3, none⟩ (.int .i64 x.key)).setCell ⟨g, 4, none⟩ (.int .i64 x.seq)).setCell ⟨g, 5, none⟩ v).setCell ⟨g, 6, none⟩ (.int .i64 x.cost)).setCell ⟨g, 7, none⟩ (.bool x.far)
theorem ZnY {W : World} {B0 : Nat} {c0 c1 c2 c3 c4 c5 c6 c7 : Value} (x : RecD) (v : Value) (hr : W.heap[B0]? = some (.cells #[c0, c1, c2, c3, c4, c5, c6, c7] 64)) :
  (Zkw W B0 x v).heap[B0]? = some (.cells (recC x v) 64) := by
 have k1 := heap_setCell_same _ _ 0 _ _ (.int .i64 x.area) hr
 have k2 := heap_setCell_same _ _ 1 _ _ (.int .i64 x.kind) k1
 have k3 := heap_setCell_same _ _ 2 _ _ (.int .i64 x.owner) k2
 have k4 := heap_setCell_same _ _ 3 _ _ (.int .i64 x.key) k3
 have k5 := heap_setCell_same _ _ 4 _ _ (.int .i64 x.seq) k4
 have k6 := heap_setCell_same _ _ 5 _ _ v k5
 have k7 := heap_setCell_same _ _ 6 _ _ (.int .i64 x.cost) k6
 have k8 := heap_setCell_same _ _ 7 _ _ (.bool x.far) k7
 simp only [List.setIfInBounds_toArray, List.set_cons_zero, List.set_cons_succ] at k8
 unfold Zkw recC
 exact k8
theorem Zjx (W : World) (g : Nat) (x : RecD) (v : Value) : W.grownBy (Zkw W g x v) (some g) :=
 Zal (Zal (Zal (Zal (Zal (Zal (Zal (Zam W g _ _) (Zam _ g _ _)) (Zam _ g _ _)) (Zam _ g _ _)) (Zam _ g _ _)) (Zam _ g _ _)) (Zam _ g _ _)) (Zam _ g _ _)
theorem Znj (l : List Nr) : (flat nrE l).length = l.length * 2 := Zbn Zjj l
theorem Zlj (W : World) (g base : Nat) (hg : g = W.heap.size) (hb : base <= W.heap.size) : (W.alloc (.cells #[] 67)).ownsRow base 67 2 (.slice (some ⟨g, 0, none⟩) 0 0) 0 (flat nrE []) := by
 subst hg
 exact World.ownsRow_lit W #[] 0 hb (by unfold maxLen; omega) (by simp)
theorem Zlv (x : RecD) (v : Value) (base : Nat) (w : World) (ho : w.ownsRow base 67 2 v x.near.length (flat nrE x.near)) (hn : x.near.length <= 1048576) :
  Calls Tryz.prog 61 #[.agg (recC x v)] w fun e w' => ∃ v', e = .returned (.agg (recC x v')) /\ w'.ownsRow w.heap.size 67 2 v' x.near.length (flat nrE x.near) /\ Below w.heap.size w w' := by
 obtain ⟨va, vc, rfl⟩ := Zac ho
 have OW := hide ho
 clear ho
 go_enter Tryz.func61, Tryz.ntmps61
 unfold recC
 go_wp2_with (first
  | (at_builtin; refine Zcc Znj (by omega) ZnH (by omega) _ rfl _ _ 62 rfl (w.heap.size + 2) 67 Tryz.underlying62 (nrV nr0) rfl Tryz.infoNr _ [] rfl ?own0 base _ x.near rfl (((OW.out.alloc _).alloc _).alloc _) (by simp; omega) (by simp) ?_))
 case own0 =>
  exact Zlj _ _ _ (by simp) (by simp)
 intro v' w4 hown' hgrow
 obtain ⟨na, nc, rfl⟩ := Zac hown'
 simp only [Value.ownBlock] at hgrow
 have hb4 : Below w.heap.size w w4 := ((((Below.refl w.heap.size w).alloc (by simp) _).alloc (by simp) _).alloc (by simp; omega) _).grown hgrow (by simp; omega) (fun k hk => by simp at hk; omega)
 have q0 : w4.heap[w.heap.size]? = some (.cells #[.int .i64 x.area, .int .i64 x.kind, .int .i64 x.owner, .int .i64 x.key, .int .i64 x.seq, .slice va x.near.length vc, .int .i64 x.cost, .bool x.far] 64) := by
  rw [hgrow.block w.heap.size (by simp; omega) (by simp; omega), Below.heap_alloc _ _ _ (by simp; omega), Below.heap_alloc _ _ _ (by simp), heap_alloc_new]
 have q1 : w4.heap[w.heap.size + 1]? = some (.cells #[.int .i64 0, .int .i64 0, .int .i64 0, .int .i64 0, .int .i64 0, .slice none 0 0, .int .i64 0, .bool false] 64) := by
  rw [hgrow.block (w.heap.size + 1) (by simp) (by simp), Below.heap_alloc _ _ _ (by simp)]
  have e := heap_alloc_new (w.alloc (.cells #[.int .i64 x.area, .int .i64 x.kind, .int .i64 x.owner, .int .i64 x.key, .int .i64 x.seq, .slice va x.near.length vc, .int .i64 x.cost, .bool x.far] 64)) (.cells #[.int .i64 0, .int .i64 0, .int .i64 0, .int .i64 0, .int .i64 0, .slice none 0 0, .int .i64 0, .bool false] 64)
  rw [show (w.alloc (.cells #[.int .i64 x.area, .int .i64 x.kind, .int .i64 x.owner, .int .i64 x.key, .int .i64 x.seq, .slice va x.near.length vc, .int .i64 x.cost, .bool x.far] 64)).heap.size = w.heap.size + 1 by simp] at e
  exact e
 have r5 := Zaa q0 5
 have f0 := Zaf q0
 simp at r5
 have q2 := heap_setCell_same w4 w.heap.size 5 _ _ (.slice na x.near.length nc) q0
 simp only [List.setIfInBounds_toArray, List.set_cons_zero, List.set_cons_succ] at q2
 have q3 : (w4.setCell ⟨w.heap.size, 5, none⟩ (.slice na x.near.length nc)).heap[w.heap.size + 1]? = some (.cells #[.int .i64 0, .int .i64 0, .int .i64 0, .int .i64 0, .int .i64 0, .slice none 0 0, .int .i64 0, .bool false] 64) := by
  rw [heap_setCell_other w4 ⟨w.heap.size, 5, none⟩ _ _ (by show w.heap.size + 1 ≠ w.heap.size; omega)]; exact q1
 have y0 := Zaa q2 0
 have y1 := Zaa q2 1
 have y2 := Zaa q2 2
 have y3 := Zaa q2 3
 have y4 := Zaa q2 4
 have y5 := Zaa q2 5
 have y6 := Zaa q2 6
 have y7 := Zaa q2 7
 simp at y0 y1 y2 y3 y4 y5 y6 y7
 have u0 := Zaa q3 0
 have u1 := Zaa q3 1
 have u2 := Zaa q3 2
 have u3 := Zaa q3 3
 have u4 := Zaa q3 4
 have u5 := Zaa q3 5
 have u6 := Zaa q3 6
 have u7 := Zaa q3 7
 simp at u0 u1 u2 u3 u4 u5 u6 u7
 have fu := Zaf q3
 have F := ZnY x (.slice na x.near.length nc) q3
 have hown2 := ZaB (j := 5) (u := .slice na x.near.length nc) hown' (show w.heap.size < w.heap.size + 2 by omega)
 have G8 := Zjx (w4.setCell ⟨w.heap.size, 5, none⟩ (.slice na x.near.length nc)) (w.heap.size + 1) x (.slice na x.near.length nc)
 have hown3 := Zag (b0 := w.heap.size) (hown2.kept G8 (by
  cases hv : (Value.slice na x.near.length nc).ownBlock with
  | none => exact .inl rfl
  | some g => exact .inr (fun e => by have := (hown2.lt g hv).1; simp at e; omega))) (by omega)
 have hb5 : Below w.heap.size w (Zkw (w4.setCell ⟨w.heap.size, 5, none⟩ (.slice na x.near.length nc)) (w.heap.size + 1) x (.slice na x.near.length nc)) := (hb4.setCell (p := ⟨w.heap.size, 5, none⟩) (Nat.le_refl _) _).grown G8 (by have := Zab q3; omega) (fun k hk => by simp at hk; omega)
 have FF := hide F
 have H3 := hide hown3
 have H5 := hide hb5
 clear F hown3 hb5 hown2 G8 hb4 hown' hgrow q0 q1 q2 q3 OW
 go_wp2_with fail
 (try simp only [Exit.inBlock, Exit.then])
 refine bodyPost_ret (results_cell_row rfl _ _ (w.heap.size + 1) 64 (recC _ _) (0, 0) _ rfl FF.out Tryz.underlying64 rfl (by kernel_rfl)) rfl ?_
 exact ⟨_, rfl, H3.out, H5.out⟩
end Go.Proofs.YtakiifededfjlaaGreat
