/-
  The plain mathematics of numbers in bytes and figures; small laws on rows of bytes that a call makes.
  What every walk of this seat imports; the element type's row of the table.
  Rows that a call made, and what stays of them.
  Rows whose elements are structs: their cells one behind another.
  What rows of structs and struct results want, of no function.
  Links and things as values; laws.toLink, toThing, eqLink, eqThing.
  Links and things in a row.
  spec.CostTo: its contract.
  laws.toLinkS, toThingS: copies in new rows.
-/
import Derived.WalkKit
import Derived.Laws.IdiomStrings
import Derived.Test.YtcimbiinljcifaaGreatRows
import Derived.WalkSpells
import Derived.WalkLawsBesides
import Derived.OwnWalk
import Derived.Deep.QuietTactic
import Derived.BigQuiet
import Derived.Handy
namespace Go.Proofs.YtcimbiinljcifaaGreat
open Go.RowKit

theorem hide {p : Prop} (h : p) : Hid p := h

def cellsOf (l : List UInt8) : List Value := l.map fun b => Value.int .u8 (b.toNat : Int)

theorem wrap_fit (x : Int) (h0 : -1000000000000000000 ≤ x) (h1 : x ≤ 1000000000000000000) : IntKind.i64.wrap x = x := by
  simp only [IntKind.wrap, IntKind.signed, IntKind.bits]
  simp
  omega

theorem ret_int {k : IntKind} {a b : Int} (h : a = b) : Ending.returned (.int k a) = .returned (.int k b) := by rw [h]
end Go.Proofs.YtcimbiinljcifaaGreat
namespace Go.Proofs.YtcimbiinljcifaaGreat
open Go.RowKit

end Go.Proofs.YtcimbiinljcifaaGreat
namespace Go.Proofs.YtcimbiinljcifaaGreat
open Go.RowKit

theorem owns_below {w w' : World} {base B : Nat} {e : TypeId} {size : Nat} {v : Value} {n : Nat} {xs : List Value} (h : w.ownsRow base e size v n xs) (hb : Below B w w') (hB : w.heap.size ≤ B) : w'.ownsRow base e size v n xs := by
  refine ⟨h.1, ?_⟩
  rcases h.2 with h2 | ⟨g, cap, cur, hv, hg, hh, r⟩
  · exact .inl h2
  · have hlt : g < w.heap.size := by
      rcases Nat.lt_or_ge g w.heap.size with hl | hl
      · exact hl
      · rw [Array.getElem?_eq_none hl] at hh; cases hh
    exact .inr ⟨g, cap, cur, hv, hg, by rw [hb.block g (by omega)]; exact hh, r⟩

theorem owns_shape {w : World} {base : Nat} {e : TypeId} {v : Value} {n : Nat} {xs : List Value} (h : w.ownsRow base e 1 v n xs) (hn : 0 < n) :
    ∃ g cap, v = .slice (some ⟨g, 0, none⟩) n cap ∧ base ≤ g ∧ g < w.heap.size := by
  rcases h.2 with ⟨_, h0⟩ | ⟨g, cap, cur, hv, hb, hg, _⟩
  · omega
  · refine ⟨g, cap, hv, hb, ?_⟩
    rcases Nat.lt_or_ge g w.heap.size with hlt | hge
    · exact hlt
    · rw [Array.getElem?_eq_none hge] at hg; cases hg

theorem owns_len {w : World} {base : Nat} {e : TypeId} {v : Value} {n : Nat} {xs : List Value} (h : w.ownsRow base e 1 v n xs) : ∃ a cap, v = .slice a n cap := by
  rcases h.2 with ⟨h1, h0⟩ | ⟨g, cap, cur, hv, _⟩
  · exact ⟨none, 0, by rw [h1, h0]⟩
  · exact ⟨_, cap, hv⟩

theorem owns_lenS {w : World} {base size : Nat} {e : TypeId} {v : Value} {n : Nat} {xs : List Value} (h : w.ownsRow base e size v n xs) : ∃ a cap, v = .slice a n cap := by
  rcases h.2 with ⟨h1, h0⟩ | ⟨g, cap, cur, hv, _⟩
  · exact ⟨none, 0, by rw [h1, h0]⟩
  · exact ⟨_, cap, hv⟩

theorem owns_baseS {w : World} {b0 b1 size : Nat} {e : TypeId} {v : Value} {n : Nat} {xs : List Value} (h : w.ownsRow b1 e size v n xs) (hb : b0 ≤ b1) : w.ownsRow b0 e size v n xs := by
  refine ⟨h.1, ?_⟩
  rcases h.2 with h2 | ⟨g, cap, cur, hv, hg, r⟩
  · exact .inl h2
  · exact .inr ⟨g, cap, cur, hv, Nat.le_trans hb hg, r⟩

/-- a row stays where another block is written -/
theorem owns_set {w : World} {base size p j : Nat} {e : TypeId} {v u : Value} {n : Nat} {xs : List Value} (h : w.ownsRow base e size v n xs) (hp : p < base) : (w.setCell ⟨p, j, none⟩ u).ownsRow base e size v n xs := by
  refine ⟨h.1, ?_⟩
  rcases h.2 with h2 | ⟨g, cap, cur, hv, hg, hh, r⟩
  · exact .inl h2
  · exact .inr ⟨g, cap, cur, hv, hg, by rw [heap_setCell_other w ⟨p, j, none⟩ g _ (by show g ≠ p; omega)]; exact hh, r⟩

theorem cells_at {w : World} {p : Nat} {C : Array Value} {t : TypeId} (h : w.heap[p]? = some (.cells C t (0, 0))) (j : Nat) : w.cell? ⟨p, j, none⟩ = C[j]? := by
  simp [World.cell?, h]

theorem frozen_at {w : World} {p : Nat} {C : Array Value} {t : TypeId} (h : w.heap[p]? = some (.cells C t (0, 0))) (j : Nat) : w.frozen? ⟨p, j, none⟩ = false := by
  simp [World.frozen?, h]

theorem grown_set (w : World) (p j : Nat) (v : Value) : w.grownBy (w.setCell ⟨p, j, none⟩ v) (some p) := ⟨rfl, rfl, rfl, by simp, fun k _ hk => heap_setCell_other w ⟨p, j, none⟩ k _ (fun e => hk (by simp [e]))⟩

theorem grown_trans {a b c : World} {row : Option Nat} (h : a.grownBy b row) (k : b.grownBy c row) : a.grownBy c row :=
  ⟨k.os.trans h.os, k.tape.trans h.tape, k.output.trans h.output, Nat.le_trans h.size k.size, fun i hi hr => (k.block i (Nat.lt_of_lt_of_le hi h.size) hr).trans (h.block i hi hr)⟩

theorem lt_of_heap {w : World} {p : Nat} {o : Obj} (h : w.heap[p]? = some o) : p < w.heap.size := by
  rcases Nat.lt_or_ge p w.heap.size with hl | hl
  · exact hl
  · rw [Array.getElem?_eq_none hl] at h; cases h
end Go.Proofs.YtcimbiinljcifaaGreat
namespace Go.Proofs.YtcimbiinljcifaaGreat
open Go.RowKit

def flat {α : Type} (enc : α → List Value) (xs : List α) : List Value := xs.flatMap enc

section
variable {α : Type} {enc : α → List Value} {sz : Nat}

theorem flat_cons (x : α) (xs : List α) : flat enc (x :: xs) = enc x ++ flat enc xs := rfl

theorem flat_len (h : ∀ a, (enc a).length = sz) (xs : List α) : (flat enc xs).length = xs.length * sz := by
  induction xs with
  | nil => simp [flat]
  | cons x xs ih => rw [flat_cons, List.length_append, h, ih, List.length_cons, Nat.add_mul, Nat.one_mul, Nat.add_comm]

theorem flat_get (h : ∀ a, (enc a).length = sz) : ∀ (xs : List α) (i r : Nat) (x : α), xs[i]? = some x → r < sz → (flat enc xs)[i * sz + r]? = (enc x)[r]?
  | [], i, r, x, hx, _ => by simp at hx
  | y :: ys, 0, r, x, hx, hr => by
    simp at hx
    subst hx
    rw [flat_cons, Nat.zero_mul, Nat.zero_add, List.getElem?_append_left (by rw [h]; exact hr)]
  | y :: ys, i + 1, r, x, hx, hr => by
    have e : (i + 1) * sz + r = sz + (i * sz + r) := by rw [Nat.add_mul, Nat.one_mul]; omega
    rw [flat_cons, List.getElem?_append_right (by rw [h, e]; omega), h, e, Nat.add_sub_cancel_left]
    exact flat_get h ys i r x (by simpa using hx) hr

/-- cells laid one behind another, from off on -/
def setL : List Value → Nat → List Value → List Value
  | xs, _, [] => xs
  | xs, off, v :: vs => setL (xs.set off v) (off + 1) vs

theorem setL_append (a b : List Value) : ∀ (off : Nat) (vs : List Value), setL (a ++ b) (a.length + off) vs = a ++ setL b off vs
  | _, [] => rfl
  | off, v :: vs => by
    unfold setL
    rw [List.set_append_right _ _ (by omega), Nat.add_sub_cancel_left]
    exact setL_append a (b.set off v) (off + 1) vs

theorem setL_head : ∀ (vs b c : List Value), b.length = vs.length → setL (b ++ c) 0 vs = vs ++ c
  | [], b, c, h => by
    have : b = [] := List.length_eq_zero_iff.1 (by simpa using h)
    subst this
    rfl
  | v :: vs, [], c, h => by simp at h
  | v :: vs, x :: b, c, h => by
    have h2 : setL ([v] ++ (b ++ c)) ([v].length + 0) vs = [v] ++ setL (b ++ c) 0 vs := setL_append [v] (b ++ c) 0 vs
    unfold setL
    simp only [List.cons_append, List.set_cons_zero]
    simp only [List.cons_append, List.nil_append, List.length_cons, List.length_nil, Nat.add_zero] at h2
    rw [Nat.zero_add, h2, setL_head vs b c (by simpa using h)]

theorem flat_set (h : ∀ a, (enc a).length = sz) : ∀ (xs : List α) (k : Nat) (x : α), k < xs.length → setL (flat enc xs) (k * sz) (enc x) = flat enc (xs.set k x)
  | [], k, x, hk => by simp at hk
  | y :: ys, 0, x, _ => by
    rw [Nat.zero_mul, flat_cons, setL_head _ _ _ (by rw [h, h]), List.set_cons_zero, flat_cons]
  | y :: ys, k + 1, x, hk => by
    have e : (k + 1) * sz = (enc y).length + k * sz := by rw [h, Nat.add_mul, Nat.one_mul, Nat.add_comm]
    rw [flat_cons, e, setL_append, flat_set h ys k x (by simpa using hk), List.set_cons_succ, flat_cons]
end

/-- the cells of 'make([]T, n)' -/
theorem made_flat {α : Type} {enc : α → List Value} {sz : Nat} (h : ∀ a, (enc a).length = sz) (z : Array Value) (x : α) (hz : z.toList = enc x) (hs : 0 < sz) (n : Nat) : (madeCells z (n * sz)).toList = flat enc (List.replicate n x) := by
  have hzs : z.size = sz := by rw [← Array.length_toList, hz, h]
  apply List.ext_getElem?
  intro j
  by_cases hj : j < n * sz
  · have e : j = j / sz * sz + j % sz := by rw [Nat.mul_comm]; exact (Nat.div_add_mod j sz).symm
    have hd : j / sz < n := Nat.div_lt_of_lt_mul (by rw [Nat.mul_comm]; exact hj)
    have hm : j % sz < sz := Nat.mod_lt _ hs
    have g := flat_get h (List.replicate n x) (j / sz) (j % sz) x (by simp [hd]) hm
    rw [← e] at g
    rw [g]
    have hm2 : j % sz < z.size := by rw [hzs]; exact hm
    have e2 : (enc x)[j % sz]? = some z[j % sz] := by
      rw [← hz]
      simp [hm2]
    rw [e2]
    simp [madeCells, hj, hzs, getElem!_pos z (j % sz) hm2]
  · rw [List.getElem?_eq_none (by simp [size_madeCells]; omega), List.getElem?_eq_none (by rw [flat_len h]; simp; omega)]

/-- the slice v has n elements of sz cells; cell j (of n * sz) holds f j; all lie in a block below B -/
def RowAt (W : World) (v : Value) (n sz : Nat) (f : Nat → Value) (B : Nat) : Prop :=
  ∃ a cap, v = .slice a n cap ∧ (n = 0 ∨ ∃ b off, a = some ⟨b, off, none⟩ ∧ b < B ∧ ∀ j, j < n * sz → W.cell? ⟨b, off + j, none⟩ = some (f j))

theorem RowAt.later {W W' : World} {v : Value} {n sz : Nat} {f : Nat → Value} {B C : Nat} (h : RowAt W v n sz f B) (hb : Below C W W') (hBC : B ≤ C) : RowAt W' v n sz f B := by
  obtain ⟨a, cap, hv, h2⟩ := h
  refine ⟨a, cap, hv, ?_⟩
  rcases h2 with h0 | ⟨b, off, ha, hb1, hx⟩
  · exact .inl h0
  · exact .inr ⟨b, off, ha, hb1, fun j hj => by rw [hb.cell (p := ⟨b, off + j, none⟩) (by show b < C; omega)]; exact hx j hj⟩

theorem RowAt.more {W : World} {v : Value} {n sz : Nat} {f : Nat → Value} {B C : Nat} (h : RowAt W v n sz f B) (hBC : B ≤ C) : RowAt W v n sz f C := by
  obtain ⟨a, cap, hv, h2⟩ := h
  refine ⟨a, cap, hv, ?_⟩
  rcases h2 with h0 | ⟨b, off, ha, hb1, hx⟩
  · exact .inl h0
  · exact .inr ⟨b, off, ha, by omega, hx⟩

/-- the same row in a later world, all of it below that world's end -/
theorem RowAt.then {W W' : World} {v : Value} {n sz : Nat} {f : Nat → Value} (h : RowAt W v n sz f W.heap.size) (hb : Below W.heap.size W W') : RowAt W' v n sz f W'.heap.size := (h.later hb (Nat.le_refl _)).more hb.size

/-- a row of structs: the cells of its elements -/
def StructsAt {α : Type} (enc : α → List Value) (sz : Nat) (W : World) (v : Value) (xs : List α) (B : Nat) : Prop := RowAt W v xs.length sz (fun j => (flat enc xs).getD j undef) B

section
variable {α : Type} {enc : α → List Value} {sz : Nat}

theorem StructsAt.cell {W : World} {v : Value} {xs : List α} {B : Nat} (h : StructsAt enc sz W v xs B) (hs : ∀ a, (enc a).length = sz) (i : Nat) (x : α) (hx : xs[i]? = some x) :
    ∃ b off cap, v = .slice (some ⟨b, off, none⟩) xs.length cap ∧ b < B ∧ ∀ r u, (enc x)[r]? = some u → W.cell? ⟨b, off + i * sz + r, none⟩ = some u := by
  have hi : i < xs.length := (List.getElem?_eq_some_iff.1 hx).1
  obtain ⟨a, cap, hv, h2⟩ := h
  rcases h2 with h0 | ⟨b, off, ha, hb, hc⟩
  · omega
  · refine ⟨b, off, cap, by rw [hv, ha], hb, fun r u hu => ?_⟩
    have hr : r < sz := by have := (List.getElem?_eq_some_iff.1 hu).1; rw [hs] at this; exact this
    have hg := flat_get hs xs i r x hx hr
    have hlt : i * sz + r < xs.length * sz := by
      have : (i + 1) * sz ≤ xs.length * sz := Nat.mul_le_mul_right _ hi
      rw [Nat.add_mul, Nat.one_mul] at this
      omega
    rw [Nat.add_assoc, hc _ hlt]
    simp only [List.getD_eq_getElem?_getD, hg, hu]
    rfl

theorem owns_rowAt {W : World} {base : Nat} {e : TypeId} {v : Value} {xs : List α} (h : W.ownsRow base e sz v xs.length (flat enc xs)) : StructsAt enc sz W v xs W.heap.size := by
  rcases h.2 with ⟨hv, h0⟩ | ⟨g, cap, cur, hv, hg, hh, hnc, hcm, hcs, htk⟩
  · exact ⟨none, 0, by rw [hv, h0], .inl h0⟩
  · have hlt : g < W.heap.size := by
      rcases Nat.lt_or_ge g W.heap.size with hl | hl
      · exact hl
      · rw [Array.getElem?_eq_none hl] at hh; cases hh
    refine ⟨_, cap, hv, .inr ⟨g, 0, rfl, hlt, fun j hj => ?_⟩⟩
    rw [Nat.zero_add]
    simp only [World.cell?, hh]
    have hj2 : j < cur.size := by
      have : xs.length * sz ≤ cap * sz := Nat.mul_le_mul_right _ hnc
      omega
    have e1 : (flat enc xs)[j]? = cur.toList[j]? := by rw [← htk, List.getElem?_take_of_lt hj]
    simp [List.getD, e1, hj2]
end
end Go.Proofs.YtcimbiinljcifaaGreat
namespace Go.Proofs.YtcimbiinljcifaaGreat
open Go.RowKit

theorem ret_bool_no {p : Prop} [Decidable p] (h : ¬ p) : Ending.returned (.bool false) = .returned (.bool (decide p)) := by rw [decide_eq_false h]

theorem ret_bool_yes {p : Prop} [Decidable p] (h : p) : Ending.returned (.bool true) = .returned (.bool (decide p)) := by rw [decide_eq_true h]

theorem below_two {w : World} (o1 o2 : Obj) : Below w.heap.size w ((w.alloc o1).alloc o2) := ((Below.refl _ _).alloc (Nat.le_refl _) _).alloc (by simp) _

theorem below_three {w : World} (o1 o2 o3 : Obj) : Below w.heap.size w (((w.alloc o1).alloc o2).alloc o3) := (below_two o1 o2).alloc (by simp; omega) _

/-- 'make([]T, n)' of structs -/
theorem wpList_make_structs {α : Type} {enc : α → List Value} {sz : Nat} (hsz : ∀ a, (enc a).length = sz) (hpos : 0 < sz) {P : Program} (w : World) {ops : Array Oper} {rest : List Oper} {o : Oper} {a : Act} {Q : Exit → Act → World → Prop}
    (hg : o.guard = none) (l c : Operand) (t : TypeId) (hop : o.op = Op.makeSlice t l c) (base : Nat) (e : TypeId) (i : TypeInfo) (z : Value) (x : α) (hz : z.cells.toList = enc x)
    (h1 : P.underlying t = some (.slice e)) (h2 : P.info? e = some i) (h3 : i.zero = some z) (h4 : i.size = sz) (n : Nat) (hl : a.eval l = .int .i64 (n : Int)) (hc : a.eval c = .int .i64 (n : Int)) (b2 : i.bytes * n ≤ 281474976710656) (b3 : n ≤ maxLen) (b4 : base ≤ w.heap.size)
    (hK : ∀ w', w'.ownsRow base e sz (.slice (some ⟨w.heap.size, 0, none⟩) n n) n (flat enc (List.replicate n x)) → w.grownBy w' none → wpList P ops Q rest (a.put o.dst (.slice (some ⟨w.heap.size, 0, none⟩) n n)) w') :
    wpList P ops Q (o :: rest) a w :=
  wpList_make_full w hg l c t hop base e i z sz h1 h2 h3 h4 .i64 .i64 (n : Int) (n : Int) n hl hc rfl rfl b2 b3 b4 (fun w' k1 k2 => hK w' (by rw [← made_flat hsz z.cells x hz hpos]; exact k1) k2)

/-- k of them copied -/
def part {α : Type} (xs : List α) (z : α) (k : Nat) : List α := xs.take k ++ List.replicate (xs.length - k) z

theorem part_len {α : Type} (xs : List α) (z : α) (k : Nat) (h : k ≤ xs.length) : (part xs z k).length = xs.length := by simp [part]; omega

theorem part_step {α : Type} (xs : List α) (z x : α) (k : Nat) (h : xs[k]? = some x) : (part xs z k).set k x = part xs z (k + 1) := by
  obtain ⟨hk, e⟩ := List.getElem?_eq_some_iff.1 h
  unfold part
  rw [List.set_append_right _ _ (by simp; omega), List.length_take, Nat.min_eq_left (by omega), Nat.sub_self]
  have e2 : xs.length - k = (xs.length - (k + 1)) + 1 := by omega
  rw [e2, List.replicate_succ, List.set_cons_zero, List.take_succ_eq_append_getElem hk, e]
  simp

theorem part_all {α : Type} (xs : List α) (z : α) : part xs z xs.length = xs := by simp [part]

theorem ne_at {α : Type} {xs ys : List α} {k : Nat} {x y : α} (hx : xs[k]? = some x) (hy : ys[k]? = some y) (h : x ≠ y) : ¬ xs = ys := by
  rintro rfl
  rw [hx] at hy
  exact h (Option.some.inj hy)

theorem eq_all {α : Type} {xs ys : List α} (hl : xs.length = ys.length) (h : ∀ j, j < xs.length → xs[j]? = ys[j]?) : xs = ys := by
  apply List.ext_getElem?
  intro i
  by_cases hi : i < xs.length
  · exact h i hi
  · rw [List.getElem?_eq_none (by omega), List.getElem?_eq_none (by omega)]

theorem heap3_0 (w : World) (a b c : Obj) : (((w.alloc a).alloc b).alloc c).heap[w.heap.size]? = some a := by
  rw [Below.heap_alloc _ _ _ (by simp; omega), Below.heap_alloc _ _ _ (by simp), heap_alloc_new]

theorem heap3_1 (w : World) (a b c : Obj) : (((w.alloc a).alloc b).alloc c).heap[w.heap.size + 1]? = some b := by
  rw [Below.heap_alloc _ _ _ (by simp)]
  have := heap_alloc_new (w.alloc a) b
  simpa using this

theorem heap3_2 (w : World) (a b c : Obj) : (((w.alloc a).alloc b).alloc c).heap[w.heap.size + 1 + 1]? = some c := by
  have := heap_alloc_new ((w.alloc a).alloc b) c
  simpa using this

theorem ret_bool {a b : Bool} (h : b = a) : Ending.returned (.bool a) = .returned (.bool b) := by rw [h]
end Go.Proofs.YtcimbiinljcifaaGreat
namespace Go.Proofs.YtcimbiinljcifaaGreat
open Go.RowKit

structure Lk where
  a : Int
  b : Int
  c : Int
  r : Int
  deriving DecidableEq

structure Th where
  o : Int
  k : Int
  c : Int
  f : Bool
  deriving DecidableEq

def lkV (l : Lk) : Value := .agg #[.int .i64 l.a, .int .i64 l.b, .int .i64 l.c, .int .i64 l.r]

def thV (t : Th) : Value := .agg #[.int .i64 t.o, .int .i64 t.k, .int .i64 t.c, .bool t.f]

set_option maxRecDepth 100000 in
set_option maxHeartbeats 1000000 in
theorem toLink_any (l : Lk) (w : World) : Calls Tryz.prog 123 #[lkV l] w fun e w' => e = .returned (lkV l) ∧ Below w.heap.size w w' := by
  obtain ⟨a, b, c, r⟩ := l
  unfold lkV
  go_enter Tryz.func123, Tryz.ntmps123
  go_wp2
  go_returns
  exact ⟨rfl, below_three _ _ _⟩

set_option maxRecDepth 100000 in
set_option maxHeartbeats 1000000 in
theorem toThing_any (l : Th) (w : World) : Calls Tryz.prog 124 #[thV l] w fun e w' => e = .returned (thV l) ∧ Below w.heap.size w w' := by
  obtain ⟨a, b, c, r⟩ := l
  unfold thV
  go_enter Tryz.func124, Tryz.ntmps124
  go_wp2
  go_returns
  exact ⟨rfl, below_three _ _ _⟩

set_option maxRecDepth 100000 in
set_option maxHeartbeats 1000000 in
theorem eqLink_any (l m : Lk) (w : World) : Calls Tryz.prog 126 #[lkV l, lkV m] w fun e w' => e = .returned (.bool (decide (l = m))) ∧ Below w.heap.size w w' := by
  obtain ⟨a, b, c, r⟩ := l
  obtain ⟨a', b', c', r'⟩ := m
  unfold lkV
  go_enter Tryz.func126, Tryz.ntmps126
  go_wp2
  all_goals go_returns
  all_goals refine ⟨?_, below_two _ _⟩
  all_goals first
    | exact ret_bool_no (fun h => by cases h; simp_all)
    | exact ret_bool_yes (by simp_all)

set_option maxRecDepth 100000 in
set_option maxHeartbeats 1000000 in
theorem eqThing_any (l m : Th) (w : World) : Calls Tryz.prog 127 #[thV l, thV m] w fun e w' => e = .returned (.bool (decide (l = m))) ∧ Below w.heap.size w w' := by
  obtain ⟨a, b, c, r⟩ := l
  obtain ⟨a', b', c', r'⟩ := m
  unfold thV
  go_enter Tryz.func127, Tryz.ntmps127
  go_wp2
  all_goals go_returns
  all_goals refine ⟨?_, below_two _ _⟩
  all_goals first
    | exact ret_bool_no (fun h => by cases h; simp_all)
    | exact ret_bool_yes (by simp_all)
end Go.Proofs.YtcimbiinljcifaaGreat
namespace Go.Proofs.YtcimbiinljcifaaGreat
open Go.RowKit

def lkE (l : Lk) : List Value := [.int .i64 l.a, .int .i64 l.b, .int .i64 l.c, .int .i64 l.r]

def thE (t : Th) : List Value := [.int .i64 t.o, .int .i64 t.k, .int .i64 t.c, .bool t.f]

theorem lkE_len (l : Lk) : (lkE l).length = 4 := rfl

theorem thE_len (t : Th) : (thE t).length = 4 := rfl

def LinksAt (W : World) (v : Value) (ls : List Lk) (B : Nat) : Prop := StructsAt lkE 4 W v ls B

def ThingsAt (W : World) (v : Value) (ts : List Th) (B : Nat) : Prop := StructsAt thE 4 W v ts B

theorem LinksAt.then {W W' : World} {v : Value} {ls : List Lk} (h : LinksAt W v ls W.heap.size) (hb : Below W.heap.size W W') : LinksAt W' v ls W'.heap.size := RowAt.then h hb

theorem ThingsAt.then {W W' : World} {v : Value} {ls : List Th} (h : ThingsAt W v ls W.heap.size) (hb : Below W.heap.size W W') : ThingsAt W' v ls W'.heap.size := RowAt.then h hb

theorem LinksAt.shape {W : World} {v : Value} {ls : List Lk} {B : Nat} (h : LinksAt W v ls B) : ∃ a cap, v = .slice a ls.length cap := by obtain ⟨a, cap, h, _⟩ := h; exact ⟨a, cap, h⟩

theorem ThingsAt.shape {W : World} {v : Value} {ls : List Th} {B : Nat} (h : ThingsAt W v ls B) : ∃ a cap, v = .slice a ls.length cap := by obtain ⟨a, cap, h, _⟩ := h; exact ⟨a, cap, h⟩

/-- the four cells of link i -/
theorem LinksAt.cells {W : World} {v : Value} {ls : List Lk} {B : Nat} (h : LinksAt W v ls B) (i : Nat) (l : Lk) (hl : ls[i]? = some l) :
    ∃ b off cap, v = .slice (some ⟨b, off, none⟩) ls.length cap ∧ b < B ∧ W.cell? ⟨b, off + i * 4, none⟩ = some (.int .i64 l.a) ∧ W.cell? ⟨b, off + i * 4 + 1, none⟩ = some (.int .i64 l.b) ∧
      W.cell? ⟨b, off + i * 4 + 2, none⟩ = some (.int .i64 l.c) ∧ W.cell? ⟨b, off + i * 4 + 3, none⟩ = some (.int .i64 l.r) := by
  obtain ⟨b, off, cap, hv, hb, hc⟩ := StructsAt.cell h lkE_len i l hl
  exact ⟨b, off, cap, hv, hb, hc 0 _ rfl, hc 1 _ rfl, hc 2 _ rfl, hc 3 _ rfl⟩

/-- the four cells of thing i -/
theorem ThingsAt.cells {W : World} {v : Value} {ls : List Th} {B : Nat} (h : ThingsAt W v ls B) (i : Nat) (l : Th) (hl : ls[i]? = some l) :
    ∃ b off cap, v = .slice (some ⟨b, off, none⟩) ls.length cap ∧ b < B ∧ W.cell? ⟨b, off + i * 4, none⟩ = some (.int .i64 l.o) ∧ W.cell? ⟨b, off + i * 4 + 1, none⟩ = some (.int .i64 l.k) ∧
      W.cell? ⟨b, off + i * 4 + 2, none⟩ = some (.int .i64 l.c) ∧ W.cell? ⟨b, off + i * 4 + 3, none⟩ = some (.bool l.f) := by
  obtain ⟨b, off, cap, hv, hb, hc⟩ := StructsAt.cell h thE_len i l hl
  exact ⟨b, off, cap, hv, hb, hc 0 _ rfl, hc 1 _ rfl, hc 2 _ rfl, hc 3 _ rfl⟩
end Go.Proofs.YtcimbiinljcifaaGreat
namespace Go.Proofs.YtcimbiinljcifaaGreat
open Go.RowKit

def lkHit (f t r : Int) (l : Lk) : Bool := l.r == r && ((l.a == f && l.b == t) || (l.a == t && l.b == f))

def costN (ls : List Lk) (f t r : Int) : Int := ((ls.find? (lkHit f t r)).map (·.c)).getD 0

theorem find_first {α : Type} (p : α → Bool) : ∀ (ls : List α) (k : Nat) (l : α), (∀ j, j < k → ∀ x, ls[j]? = some x → p x = false) → ls[k]? = some l → p l = true → ls.find? p = some l
  | [], _, _, _, h, _ => by simp at h
  | y :: ys, 0, l, _, h, hp => by simp at h; subst h; simp [hp]
  | y :: ys, k + 1, l, hno, h, hp => by
    have h0 := hno 0 (by omega) y rfl
    rw [List.find?_cons, h0]
    exact find_first p ys k l (fun j hj x hx => hno (j + 1) (by omega) x (by simpa using hx)) (by simpa using h) hp

theorem find_noneL {α : Type} (p : α → Bool) (ls : List α) (h : ∀ j, j < ls.length → ∀ x, ls[j]? = some x → p x = false) : ls.find? p = none := by
  rw [List.find?_eq_none]
  intro x hx
  obtain ⟨i, hi, e⟩ := List.mem_iff_getElem.1 hx
  rw [h i hi x (by rw [List.getElem?_eq_getElem hi, e])]
  decide

theorem no_next {α : Type} {p : α → Bool} {ls : List α} {k : Nat} {l : α} (h : ∀ j, j < k → ∀ x, ls[j]? = some x → p x = false) (hl : ls[k]? = some l) (hp : p l = false) : ∀ j, j < k + 1 → ∀ x, ls[j]? = some x → p x = false := by
  intro j hj x hx
  by_cases e : j = k
  · subst e; rw [hl] at hx; cases hx; exact hp
  · exact h j (by omega) x hx

theorem cost_hit {ls : List Lk} {f t r : Int} {k : Nat} {l : Lk} (h : ∀ j, j < k → ∀ x, ls[j]? = some x → lkHit f t r x = false) (hl : ls[k]? = some l) (hp : lkHit f t r l = true) : costN ls f t r = l.c := by
  unfold costN; rw [find_first _ ls k l h hl hp]; rfl

theorem cost_next {ls : List Lk} {f t r : Int} {k : Nat} {l : Lk} (h : ∀ j, j < k → ∀ x, ls[j]? = some x → lkHit f t r x = false) (hl : ls[k]? = some l) (hp : lkHit f t r l = false) : ∀ j, j < k + 1 → ∀ x, ls[j]? = some x → lkHit f t r x = false := no_next h hl hp

theorem cost_none {ls : List Lk} {f t r : Int} {k : Nat} (h : ∀ j, j < k → ∀ x, ls[j]? = some x → lkHit f t r x = false) (hk : k = ls.length) : costN ls f t r = 0 := by
  unfold costN; rw [find_noneL _ ls (by rw [← hk]; exact h)]; rfl

set_option maxRecDepth 100000 in
set_option maxHeartbeats 1000000 in
theorem scost_any (n : Value) (v tv : Value) (ls : List Lk) (f t r : Int) (w : World) (hls : ls.length ≤ 1048576) (hv : LinksAt w v ls w.heap.size) :
    Calls Tryz.prog 58 #[.agg #[n, v, tv], .int .i64 f, .int .i64 t, .int .i64 r] w fun e w' => e = .returned (.int .i64 (costN ls f t r)) ∧ Below w.heap.size w w' := by
  obtain ⟨a, cap, rfl⟩ : ∃ a cap, v = .slice a ls.length cap := by obtain ⟨a, cap, h, _⟩ := hv; exact ⟨a, cap, h⟩
  have HV := hide hv
  clear hv
  go_enter Tryz.func58, Tryz.ntmps58
  go_wp2
  go_loopw [9] (fun i wr => ∃ k : Nat, k ≤ ls.length ∧ i = .int .i64 k ∧ (∀ j, j < k → ∀ l, ls[j]? = some l → lkHit f t r l = false) ∧ Below w.heap.size w wr ∧ wr.heap[w.heap.size]? = some (.cells #[n, .slice a ls.length cap, tv] 27)) (fun i _ => ls.length - (intOf i).toNat)
  case atStart => exact ⟨0, by omega, rfl, by omega, (Below.refl _ _).alloc (Nat.le_refl _) _, heap_alloc_new w _⟩
  case round =>
    obtain ⟨k, hk, rfl, hno, hb, hx⟩ := hrel
    have hx1 : wr.cell? ⟨w.heap.size, 1, none⟩ = some (.slice a ls.length cap) := by rw [cells_at hx]; rfl
    have HX := hide hx
    have HNO := hide hno
    clear hx hno
    by_cases hlt : k < ls.length
    · obtain ⟨l, hl⟩ : ∃ l, ls[k]? = some l := ⟨ls[k], List.getElem?_eq_getElem hlt⟩
      obtain ⟨b, off, cap', hve, hbb, c0, c1, c2, c3⟩ := HV.out.cells k l hl
      cases hve
      rw [← hb.cell (p := ⟨b, off + k * 4, none⟩) hbb] at c0
      rw [← hb.cell (p := ⟨b, off + k * 4 + 1, none⟩) hbb] at c1
      rw [← hb.cell (p := ⟨b, off + k * 4 + 2, none⟩) hbb] at c2
      rw [← hb.cell (p := ⟨b, off + k * 4 + 3, none⟩) hbb] at c3
      have HL := hide hl
      clear hl
      obtain ⟨la, lb, lc, lr⟩ := l
      go_wp2
      all_goals first
        | (go_ret
           refine ⟨ret_int (cost_hit HNO.out HL.out ?_).symm, hb.alloc hb.size _⟩
           clear HV HX HL HNO hb hx1 c0 c1 c2 c3
           simp only [lkHit]
           grind)
        | (refine ⟨⟨k + 1, by omega, by go_num, cost_next HNO.out HL.out ?_, hb.alloc hb.size _, ?_⟩, by simp [intOf]; omega⟩
           · clear HV HX HL HNO hb hx1 c0 c1 c2 c3
             simp only [lkHit]
             grind
           · rw [Below.heap_alloc _ _ _ (lt_of_heap HX.out)]; exact HX.out)
        | (subst_vars
           refine ⟨⟨k + 1, by omega, by go_num, cost_next HNO.out HL.out ?_, hb.alloc hb.size _, ?_⟩, by simp [intOf]; omega⟩
           · clear HV HX HL HNO hb hx1 c0 c1 c2 c3
             simp only [lkHit]
             grind
           · rw [Below.heap_alloc _ _ _ (lt_of_heap HX.out)]; exact HX.out)
    · have hk' : k = ls.length := by omega
      have HK := hide hk'
      clear hk'
      go_wp2
      go_ret
      exact ⟨ret_int (cost_none HNO.out HK.out).symm, hb⟩
end Go.Proofs.YtcimbiinljcifaaGreat
namespace Go.Proofs.YtcimbiinljcifaaGreat
open Go.RowKit

def lk0 : Lk := ⟨0, 0, 0, 0⟩

theorem Tryz.infoLk : (Tryz.prog.info? 127).map (fun i => (i.zero, i.size, i.bytes)) = some (some (lkV lk0), 4, 32) := by kernel_rfl

set_option maxRecDepth 100000 in
set_option maxHeartbeats 1000000 in
theorem toLinkS_any (v : Value) (ls : List Lk) (w : World) (hls : ls.length ≤ 1048576) (hv : LinksAt w v ls w.heap.size) :
    Calls Tryz.prog 87 #[v] w fun e w' => ∃ x, e = .returned x ∧ w'.ownsRow w.heap.size 127 4 x ls.length (flat lkE ls) ∧ Below w.heap.size w w' := by
  obtain ⟨a, cap, rfl⟩ := hv.shape
  have HV := hide hv
  clear hv
  obtain ⟨i0, hi, hz0, hz1, hz2⟩ := info_parts Tryz.infoLk
  have HI := hide hi
  have HZ := hide hz0
  clear hi hz0
  go_enter Tryz.func87, Tryz.ntmps87
  go_wp2_with (first
    | (refine wpList_make_structs lkE_len (by omega) _ rfl _ _ 24 rfl w.heap.size 127 i0 (lkV lk0) lk0 rfl Tryz.underlying24 HI.out HZ.out hz1 ls.length rfl rfl (by rw [hz2]; omega) (by unfold maxLen; omega) (Nat.le_refl _) ?_))
  intro w1 hown hg
  have b1 : Below w.heap.size w w1 := (Below.refl _ _).grown hg (Nat.le_refl _) (fun k hk => by simp at hk)
  have hg1 : w.heap.size < w1.heap.size := by
    rcases hown.2 with ⟨h0, _⟩ | ⟨g, cp, cur, hv, _, hh, _⟩
    · cases h0
    · cases hv; exact lt_of_heap hh
  have OW := hide hown
  clear hown hg
  go_wp2
  go_loopw [4] (fun i wr => ∃ k : Nat, k ≤ ls.length ∧ i = .int .i64 k ∧ wr.ownsRow w.heap.size 127 4 (.slice (some ⟨w.heap.size, 0, none⟩) ls.length ls.length) ls.length (flat lkE (part ls lk0 k)) ∧ Below w.heap.size w wr) (fun i _ => ls.length - (intOf i).toNat)
  case atStart => exact ⟨0, by omega, rfl, (by simpa [part] using OW.out), b1⟩
  case round =>
    obtain ⟨k, hk, rfl, hown, hnx⟩ := hrel
    by_cases hlt : k < ls.length
    · obtain ⟨l, hl⟩ : ∃ l, ls[k]? = some l := ⟨ls[k], List.getElem?_eq_getElem hlt⟩
      obtain ⟨b, off, cap', hve, hbb, c0, c1, c2, c3⟩ := HV.out.cells k l hl
      cases hve
      rw [← hnx.cell (p := ⟨b, off + k * 4, none⟩) hbb] at c0
      rw [← hnx.cell (p := ⟨b, off + k * 4 + 1, none⟩) hbb] at c1
      rw [← hnx.cell (p := ⟨b, off + k * 4 + 2, none⟩) hbb] at c2
      rw [← hnx.cell (p := ⟨b, off + k * 4 + 3, none⟩) hbb] at c3
      have HL := hide hl
      have OW2 := hide hown
      clear hl hown
      have hki : (0 : Int) ≤ (k : Int) := by omega
      have hkj : (k : Int) < (ls.length : Int) := by omega
      have hto := toLink_any l
      unfold lkV at hto
      have HTO := hide hto
      clear hto
      go_wp2_with fail
      refine (HTO.out _).mono ?_
      rintro e w2 ⟨rfl, b2⟩
      have hown2 := owns_below OW2.out b2 (Nat.le_refl _)
      have hex : ∀ r, r < 4 → ∃ u, w2.cell? ⟨w.heap.size, k * 4 + r, none⟩ = some u := fun r hr => by
        have hj : k * 4 + r < ls.length * 4 := by omega
        rw [hown2.cellAt _ hj]
        have hln : k * 4 + r < (flat lkE (part ls lk0 k)).length := by rw [hown2.1]; exact hj
        exact ⟨_, List.getElem?_eq_getElem hln⟩
      obtain ⟨u0, d0⟩ := hex 0 (by omega)
      obtain ⟨u1, d1⟩ := hex 1 (by omega)
      obtain ⟨u2, d2⟩ := hex 2 (by omega)
      obtain ⟨u3, d3⟩ := hex 3 (by omega)
      rw [Nat.add_zero] at d0
      have f0 := hown2.frozenAt (k * 4)
      have f1 := hown2.frozenAt (k * 4 + 1)
      have f2 := hown2.frozenAt (k * 4 + 2)
      have f3 := hown2.frozenAt (k * 4 + 3)
      have OW3 := hide hown2
      clear hown2 hex
      go_wp2
      refine ⟨⟨k + 1, by omega, by go_num, ?_, ((((hnx.trans (b2.mono hnx.size)).setCell (Nat.le_refl _) _).setCell (Nat.le_refl _) _).setCell (Nat.le_refl _) _).setCell (Nat.le_refl _) _⟩, by simp [intOf]; omega⟩
      have h4 := ((((OW3.out.stored (k * 4) (.int .i64 l.a)).1.stored (k * 4 + 1) (.int .i64 l.b)).1.stored (k * 4 + 2) (.int .i64 l.c)).1.stored (k * 4 + 3) (.int .i64 l.r)).1
      have e4 : ((((flat lkE (part ls lk0 k)).set (k * 4) (.int .i64 l.a)).set (k * 4 + 1) (.int .i64 l.b)).set (k * 4 + 2) (.int .i64 l.c)).set (k * 4 + 3) (.int .i64 l.r) = flat lkE (part ls lk0 (k + 1)) := by
        rw [← part_step ls lk0 l k HL.out, ← flat_set lkE_len _ _ _ (by rw [part_len _ _ _ hk]; exact hlt)]
        rfl
      rw [e4] at h4
      exact h4
    · have hkn : k = ls.length := by omega
      have KN := hide hkn
      have OW2 := hide hown
      clear hkn hown
      go_wp2
      go_ret
      refine ⟨_, rfl, ?_, hnx⟩
      have h := OW2.out
      rw [KN.out, part_all] at h
      exact h
def th0 : Th := ⟨0, 0, 0, false⟩

theorem Tryz.infoTh : (Tryz.prog.info? 131).map (fun i => (i.zero, i.size, i.bytes)) = some (some (thV th0), 4, 32) := by kernel_rfl

set_option maxRecDepth 100000 in
set_option maxHeartbeats 1000000 in
theorem toThingS_any (v : Value) (ls : List Th) (w : World) (hls : ls.length ≤ 1048576) (hv : ThingsAt w v ls w.heap.size) :
    Calls Tryz.prog 88 #[v] w fun e w' => ∃ x, e = .returned x ∧ w'.ownsRow w.heap.size 131 4 x ls.length (flat thE ls) ∧ Below w.heap.size w w' := by
  obtain ⟨a, cap, rfl⟩ := hv.shape
  have HV := hide hv
  clear hv
  obtain ⟨i0, hi, hz0, hz1, hz2⟩ := info_parts Tryz.infoTh
  have HI := hide hi
  have HZ := hide hz0
  clear hi hz0
  go_enter Tryz.func88, Tryz.ntmps88
  go_wp2_with (first
    | (refine wpList_make_structs thE_len (by omega) _ rfl _ _ 25 rfl w.heap.size 131 i0 (thV th0) th0 rfl Tryz.underlying25 HI.out HZ.out hz1 ls.length rfl rfl (by rw [hz2]; omega) (by unfold maxLen; omega) (Nat.le_refl _) ?_))
  intro w1 hown hg
  have b1 : Below w.heap.size w w1 := (Below.refl _ _).grown hg (Nat.le_refl _) (fun k hk => by simp at hk)
  have hg1 : w.heap.size < w1.heap.size := by
    rcases hown.2 with ⟨h0, _⟩ | ⟨g, cp, cur, hv, _, hh, _⟩
    · cases h0
    · cases hv; exact lt_of_heap hh
  have OW := hide hown
  clear hown hg
  go_wp2
  go_loopw [4] (fun i wr => ∃ k : Nat, k ≤ ls.length ∧ i = .int .i64 k ∧ wr.ownsRow w.heap.size 131 4 (.slice (some ⟨w.heap.size, 0, none⟩) ls.length ls.length) ls.length (flat thE (part ls th0 k)) ∧ Below w.heap.size w wr) (fun i _ => ls.length - (intOf i).toNat)
  case atStart => exact ⟨0, by omega, rfl, (by simpa [part] using OW.out), b1⟩
  case round =>
    obtain ⟨k, hk, rfl, hown, hnx⟩ := hrel
    by_cases hlt : k < ls.length
    · obtain ⟨l, hl⟩ : ∃ l, ls[k]? = some l := ⟨ls[k], List.getElem?_eq_getElem hlt⟩
      obtain ⟨b, off, cap', hve, hbb, c0, c1, c2, c3⟩ := HV.out.cells k l hl
      cases hve
      rw [← hnx.cell (p := ⟨b, off + k * 4, none⟩) hbb] at c0
      rw [← hnx.cell (p := ⟨b, off + k * 4 + 1, none⟩) hbb] at c1
      rw [← hnx.cell (p := ⟨b, off + k * 4 + 2, none⟩) hbb] at c2
      rw [← hnx.cell (p := ⟨b, off + k * 4 + 3, none⟩) hbb] at c3
      have HL := hide hl
      have OW2 := hide hown
      clear hl hown
      have hki : (0 : Int) ≤ (k : Int) := by omega
      have hkj : (k : Int) < (ls.length : Int) := by omega
      have hto := toThing_any l
      unfold thV at hto
      have HTO := hide hto
      clear hto
      go_wp2_with fail
      refine (HTO.out _).mono ?_
      rintro e w2 ⟨rfl, b2⟩
      have hown2 := owns_below OW2.out b2 (Nat.le_refl _)
      have hex : ∀ r, r < 4 → ∃ u, w2.cell? ⟨w.heap.size, k * 4 + r, none⟩ = some u := fun r hr => by
        have hj : k * 4 + r < ls.length * 4 := by omega
        rw [hown2.cellAt _ hj]
        have hln : k * 4 + r < (flat thE (part ls th0 k)).length := by rw [hown2.1]; exact hj
        exact ⟨_, List.getElem?_eq_getElem hln⟩
      obtain ⟨u0, d0⟩ := hex 0 (by omega)
      obtain ⟨u1, d1⟩ := hex 1 (by omega)
      obtain ⟨u2, d2⟩ := hex 2 (by omega)
      obtain ⟨u3, d3⟩ := hex 3 (by omega)
      rw [Nat.add_zero] at d0
      have f0 := hown2.frozenAt (k * 4)
      have f1 := hown2.frozenAt (k * 4 + 1)
      have f2 := hown2.frozenAt (k * 4 + 2)
      have f3 := hown2.frozenAt (k * 4 + 3)
      have OW3 := hide hown2
      clear hown2 hex
      go_wp2
      refine ⟨⟨k + 1, by omega, by go_num, ?_, ((((hnx.trans (b2.mono hnx.size)).setCell (Nat.le_refl _) _).setCell (Nat.le_refl _) _).setCell (Nat.le_refl _) _).setCell (Nat.le_refl _) _⟩, by simp [intOf]; omega⟩
      have h4 := ((((OW3.out.stored (k * 4) (.int .i64 l.o)).1.stored (k * 4 + 1) (.int .i64 l.k)).1.stored (k * 4 + 2) (.int .i64 l.c)).1.stored (k * 4 + 3) (.bool l.f)).1
      have e4 : ((((flat thE (part ls th0 k)).set (k * 4) (.int .i64 l.o)).set (k * 4 + 1) (.int .i64 l.k)).set (k * 4 + 2) (.int .i64 l.c)).set (k * 4 + 3) (.bool l.f) = flat thE (part ls th0 (k + 1)) := by
        rw [← part_step ls th0 l k HL.out, ← flat_set thE_len _ _ _ (by rw [part_len _ _ _ hk]; exact hlt)]
        rfl
      rw [e4] at h4
      exact h4
    · have hkn : k = ls.length := by omega
      have KN := hide hkn
      have OW2 := hide hown
      clear hkn hown
      go_wp2
      go_ret
      refine ⟨_, rfl, ?_, hnx⟩
      have h := OW2.out
      rw [KN.out, part_all] at h
      exact h
end Go.Proofs.YtcimbiinljcifaaGreat
