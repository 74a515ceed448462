/-
  The plain mathematics of numbers in bytes and figures; small laws on rows of bytes that a call makes.
  What every walk of this seat imports; the element type's row of the table.
  Rows that a call made, and what stays of them.
  Rows whose elements are structs: their cells one behind another.
  What rows of structs and struct results want, of no function.
  'append(out, x)' of a struct of four cells, out a row that the call itself made.
  Links and things as values; laws.toLink, toThing, eqLink, eqThing.
  Links and things in a row.
  spec.CostTo: its contract.
  laws.toLinkS, toThingS: copies in new rows.
  'append(out, x)' of a struct of four cells, out a row that the call itself made.
  spec.l01In: its contract.
  laws.eqLinkS, eqThingS: their contracts.
  laws.szNet, toNet, eqNet: their contracts.
  spec.LinkOk, l03Ahead, l03Thing, NetOk: their contracts.
  spec.l03Put: its contract.
-/
import Derived.WalkKit
import Derived.Laws.IdiomStrings
import Derived.Test.YtmijnjnihhemgaaGreatRows
import Derived.WalkSpells
import Derived.WalkLawsBesides
import Derived.OwnWalk
import Derived.Deep.QuietTactic
import Derived.BigQuiet
import Derived.Handy
import Derived.Deep.RegionHeld3
namespace Go.Proofs.YtmijnjnihhemgaaGreat
open Go.RowKit
set_option linter.unusedSimpArgs false
set_option linter.unusedVariables false
set_option maxRecDepth 100000
set_option maxHeartbeats 8000000
theorem hide {p : Prop} (h : p) : Hid p := h
def bs (l : List UInt8) : ByteArray := ⟨l.toArray⟩
def cellsOf (l : List UInt8) : List Value := l.map fun b => Value.int .u8 (b.toNat : Int)
theorem add_zero' (b o : Nat) : (⟨b, o, none⟩ : Addr).add 0 = ⟨b, o, none⟩ := rfl
theorem wrap_fit (x : Int) (h0 : -1000000000000000000 ≤ x) (h1 : x ≤ 1000000000000000000) : IntKind.i64.wrap x = x := by
 simp only [IntKind.wrap, IntKind.signed, IntKind.bits]
 simp
 omega
theorem ret_int {k : IntKind} {a b : Int} (h : a = b) : Ending.returned (.int k a) = .returned (.int k b) := by rw [h]

theorem owns_below {w w' : World} {base B : Nat} {e : TypeId} {size : Nat} {v : Value} {n : Nat} {xs : List Value} (h : w.ownsRow base e size v n xs) (hb : Below B w w') (hB : w.heap.size ≤ B) : w'.ownsRow base e size v n xs := by
 refine ⟨h.1, ?_⟩
 rcases h.2 with h2 | ⟨g, cap, cur, hv, hg, hh, r⟩
 ·exact .inl h2
 ·have hlt : g < w.heap.size := by
   rcases Nat.lt_or_ge g w.heap.size with hl | hl
   ·exact hl
   ·rw [Array.getElem?_eq_none hl] at hh; cases hh
  exact .inr ⟨g, cap, cur, hv, hg, by rw [hb.block g (by omega)]; exact hh, r⟩
theorem owns_shape {w : World} {base : Nat} {e : TypeId} {v : Value} {n : Nat} {xs : List Value} (h : w.ownsRow base e 1 v n xs) (hn : 0 < n) :
  ∃ g cap, v = .slice (some ⟨g, 0, none⟩) n cap ∧ base ≤ g ∧ g < w.heap.size := by
 rcases h.2 with ⟨_, h0⟩ | ⟨g, cap, cur, hv, hb, hg, _⟩
 ·omega
 ·refine ⟨g, cap, hv, hb, ?_⟩
  rcases Nat.lt_or_ge g w.heap.size with hlt | hge
  ·exact hlt
  ·rw [Array.getElem?_eq_none hge] at hg; cases hg
theorem owns_len {w : World} {base : Nat} {e : TypeId} {v : Value} {n : Nat} {xs : List Value} (h : w.ownsRow base e 1 v n xs) : ∃ a cap, v = .slice a n cap := by
 rcases h.2 with ⟨h1, h0⟩ | ⟨g, cap, cur, hv, _⟩
 ·exact ⟨none, 0, by rw [h1, h0]⟩
 ·exact ⟨_, cap, hv⟩
theorem owns_lenS {w : World} {base size : Nat} {e : TypeId} {v : Value} {n : Nat} {xs : List Value} (h : w.ownsRow base e size v n xs) : ∃ a cap, v = .slice a n cap := by
 rcases h.2 with ⟨h1, h0⟩ | ⟨g, cap, cur, hv, _⟩
 ·exact ⟨none, 0, by rw [h1, h0]⟩
 ·exact ⟨_, cap, hv⟩
theorem owns_baseS {w : World} {b0 b1 size : Nat} {e : TypeId} {v : Value} {n : Nat} {xs : List Value} (h : w.ownsRow b1 e size v n xs) (hb : b0 ≤ b1) : w.ownsRow b0 e size v n xs := by
 refine ⟨h.1, ?_⟩
 rcases h.2 with h2 | ⟨g, cap, cur, hv, hg, r⟩
 ·exact .inl h2
 ·exact .inr ⟨g, cap, cur, hv, Nat.le_trans hb hg, r⟩
theorem owns_set {w : World} {base size p j : Nat} {e : TypeId} {v u : Value} {n : Nat} {xs : List Value} (h : w.ownsRow base e size v n xs) (hp : p < base) : (w.setCell ⟨p, j, none⟩ u).ownsRow base e size v n xs := by
 refine ⟨h.1, ?_⟩
 rcases h.2 with h2 | ⟨g, cap, cur, hv, hg, hh, r⟩
 ·exact .inl h2
 ·exact .inr ⟨g, cap, cur, hv, hg, by rw [heap_setCell_other w ⟨p, j, none⟩ g _ (by show g ≠ p; omega)]; exact hh, r⟩
theorem owns_base {w : World} {b0 b1 : Nat} {e : TypeId} {v : Value} {n : Nat} {xs : List Value} (h : w.ownsRow b1 e 1 v n xs) (hb : b0 ≤ b1) : w.ownsRow b0 e 1 v n xs := by
 refine ⟨h.1, ?_⟩
 rcases h.2 with h2 | ⟨g, cap, cur, hv, hg, r⟩
 ·exact .inl h2
 ·exact .inr ⟨g, cap, cur, hv, Nat.le_trans hb hg, r⟩
theorem cells_at {w : World} {p : Nat} {C : Array Value} {t : TypeId} (h : w.heap[p]? = some (.cells C t (0, 0))) (j : Nat) : w.cell? ⟨p, j, none⟩ = C[j]? := by
 simp [World.cell?, h]
theorem frozen_at {w : World} {p : Nat} {C : Array Value} {t : TypeId} (h : w.heap[p]? = some (.cells C t (0, 0))) (j : Nat) : w.frozen? ⟨p, j, none⟩ = false := by
 simp [World.frozen?, h]
theorem grown_set (w : World) (p j : Nat) (v : Value) : w.grownBy (w.setCell ⟨p, j, none⟩ v) (some p) := ⟨rfl, rfl, rfl, by simp, fun k _ hk => heap_setCell_other w ⟨p, j, none⟩ k _ (fun e => hk (by simp [e]))⟩
theorem grown_drewN (w : World) (n : Nat) (row : Option Nat) : w.grownBy (w.drewN n) row := ⟨rfl, rfl, rfl, Nat.le_refl _, fun _ _ _ => rfl⟩
theorem grown_trans {a b c : World} {row : Option Nat} (h : a.grownBy b row) (k : b.grownBy c row) : a.grownBy c row :=
 ⟨k.os.trans h.os, k.tape.trans h.tape, k.output.trans h.output, Nat.le_trans h.size k.size, fun i hi hr => (k.block i (Nat.lt_of_lt_of_le hi h.size) hr).trans (h.block i hi hr)⟩
theorem lt_of_heap {w : World} {p : Nat} {o : Obj} (h : w.heap[p]? = some o) : p < w.heap.size := by
 rcases Nat.lt_or_ge p w.heap.size with hl | hl
 ·exact hl
 ·rw [Array.getElem?_eq_none hl] at h; cases h
end Go.Proofs.YtmijnjnihhemgaaGreat
namespace Go.Proofs.YtmijnjnihhemgaaGreat
open Go.RowKit

def flat {α : Type} (enc : α → List Value) (xs : List α) : List Value := xs.flatMap enc

section
variable {α : Type} {enc : α → List Value} {sz : Nat}

theorem flat_cons (x : α) (xs : List α) : flat enc (x :: xs) = enc x ++ flat enc xs := rfl

theorem flat_len (h : ∀ a, (enc a).length = sz) (xs : List α) : (flat enc xs).length = xs.length * sz := by
 induction xs with
 | nil => simp [flat]
 | cons x xs ih => rw [flat_cons, List.length_append, h, ih, List.length_cons, Nat.add_mul, Nat.one_mul, Nat.add_comm]

theorem flat_get (h : ∀ a, (enc a).length = sz) : ∀ (xs : List α) (i r : Nat) (x : α), xs[i]? = some x → r < sz → (flat enc xs)[i * sz + r]? = (enc x)[r]?
 | [], i, r, x, hx, _ => by simp at hx
 | y :: ys, 0, r, x, hx, hr => by
  simp at hx
  subst hx
  rw [flat_cons, Nat.zero_mul, Nat.zero_add, List.getElem?_append_left (by rw [h]; exact hr)]
 | y :: ys, i + 1, r, x, hx, hr => by
  have e : (i + 1) * sz + r = sz + (i * sz + r) := by rw [Nat.add_mul, Nat.one_mul]; omega
  rw [flat_cons, List.getElem?_append_right (by rw [h, e]; omega), h, e, Nat.add_sub_cancel_left]
  exact flat_get h ys i r x (by simpa using hx) hr

def setL : List Value → Nat → List Value → List Value
 | xs, _, [] => xs
 | xs, off, v :: vs => setL (xs.set off v) (off + 1) vs

theorem setL_append (a b : List Value) : ∀ (off : Nat) (vs : List Value), setL (a ++ b) (a.length + off) vs = a ++ setL b off vs
 | _, [] => rfl
 | off, v :: vs => by
  unfold setL
  rw [List.set_append_right _ _ (by omega), Nat.add_sub_cancel_left]
  exact setL_append a (b.set off v) (off + 1) vs

theorem setL_head : ∀ (vs b c : List Value), b.length = vs.length → setL (b ++ c) 0 vs = vs ++ c
 | [], b, c, h => by
  have : b = [] := List.length_eq_zero_iff.1 (by simpa using h)
  subst this
  rfl
 | v :: vs, [], c, h => by simp at h
 | v :: vs, x :: b, c, h => by
  have h2 : setL ([v] ++ (b ++ c)) ([v].length + 0) vs = [v] ++ setL (b ++ c) 0 vs := setL_append [v] (b ++ c) 0 vs
  unfold setL
  simp only [List.cons_append, List.set_cons_zero]
  simp only [List.cons_append, List.nil_append, List.length_cons, List.length_nil, Nat.add_zero] at h2
  rw [Nat.zero_add, h2, setL_head vs b c (by simpa using h)]

theorem flat_set (h : ∀ a, (enc a).length = sz) : ∀ (xs : List α) (k : Nat) (x : α), k < xs.length → setL (flat enc xs) (k * sz) (enc x) = flat enc (xs.set k x)
 | [], k, x, hk => by simp at hk
 | y :: ys, 0, x, _ => by
  rw [Nat.zero_mul, flat_cons, setL_head _ _ _ (by rw [h, h]), List.set_cons_zero, flat_cons]
 | y :: ys, k + 1, x, hk => by
  have e : (k + 1) * sz = (enc y).length + k * sz := by rw [h, Nat.add_mul, Nat.one_mul, Nat.add_comm]
  rw [flat_cons, e, setL_append, flat_set h ys k x (by simpa using hk), List.set_cons_succ, flat_cons]
end

theorem made_flat {α : Type} {enc : α → List Value} {sz : Nat} (h : ∀ a, (enc a).length = sz) (z : Array Value) (x : α) (hz : z.toList = enc x) (hs : 0 < sz) (n : Nat) : (madeCells z (n * sz)).toList = flat enc (List.replicate n x) := by
 have hzs : z.size = sz := by rw [← Array.length_toList, hz, h]
 apply List.ext_getElem?
 intro j
 by_cases hj : j < n * sz
 ·have e : j = j / sz * sz + j % sz := by rw [Nat.mul_comm]; exact (Nat.div_add_mod j sz).symm
  have hd : j / sz < n := Nat.div_lt_of_lt_mul (by rw [Nat.mul_comm]; exact hj)
  have hm : j % sz < sz := Nat.mod_lt _ hs
  have g := flat_get h (List.replicate n x) (j / sz) (j % sz) x (by simp [hd]) hm
  rw [← e] at g
  rw [g]
  have hm2 : j % sz < z.size := by rw [hzs]; exact hm
  have e2 : (enc x)[j % sz]? = some z[j % sz] := by
   rw [← hz]
   simp [hm2]
  rw [e2]
  simp [madeCells, hj, hzs, getElem!_pos z (j % sz) hm2]
 ·rw [List.getElem?_eq_none (by simp [size_madeCells]; omega), List.getElem?_eq_none (by rw [flat_len h]; simp; omega)]

def RowAt (W : World) (v : Value) (n sz : Nat) (f : Nat → Value) (B : Nat) : Prop :=
 ∃ a cap, v = .slice a n cap ∧ (n = 0 ∨ ∃ b off, a = some ⟨b, off, none⟩ ∧ b < B ∧ ∀ j, j < n * sz → W.cell? ⟨b, off + j, none⟩ = some (f j))

theorem RowAt.later {W W' : World} {v : Value} {n sz : Nat} {f : Nat → Value} {B C : Nat} (h : RowAt W v n sz f B) (hb : Below C W W') (hBC : B ≤ C) : RowAt W' v n sz f B := by
 obtain ⟨a, cap, hv, h2⟩ := h
 refine ⟨a, cap, hv, ?_⟩
 rcases h2 with h0 | ⟨b, off, ha, hb1, hx⟩
 ·exact .inl h0
 ·exact .inr ⟨b, off, ha, hb1, fun j hj => by rw [hb.cell (p := ⟨b, off + j, none⟩) (by show b < C; omega)]; exact hx j hj⟩

theorem RowAt.more {W : World} {v : Value} {n sz : Nat} {f : Nat → Value} {B C : Nat} (h : RowAt W v n sz f B) (hBC : B ≤ C) : RowAt W v n sz f C := by
 obtain ⟨a, cap, hv, h2⟩ := h
 refine ⟨a, cap, hv, ?_⟩
 rcases h2 with h0 | ⟨b, off, ha, hb1, hx⟩
 ·exact .inl h0
 ·exact .inr ⟨b, off, ha, by omega, hx⟩

theorem RowAt.then {W W' : World} {v : Value} {n sz : Nat} {f : Nat → Value} (h : RowAt W v n sz f W.heap.size) (hb : Below W.heap.size W W') : RowAt W' v n sz f W'.heap.size := (h.later hb (Nat.le_refl _)).more hb.size

def StructsAt {α : Type} (enc : α → List Value) (sz : Nat) (W : World) (v : Value) (xs : List α) (B : Nat) : Prop := RowAt W v xs.length sz (fun j => (flat enc xs).getD j undef) B

section
variable {α : Type} {enc : α → List Value} {sz : Nat}

theorem StructsAt.cell {W : World} {v : Value} {xs : List α} {B : Nat} (h : StructsAt enc sz W v xs B) (hs : ∀ a, (enc a).length = sz) (i : Nat) (x : α) (hx : xs[i]? = some x) :
  ∃ b off cap, v = .slice (some ⟨b, off, none⟩) xs.length cap ∧ b < B ∧ ∀ r u, (enc x)[r]? = some u → W.cell? ⟨b, off + i * sz + r, none⟩ = some u := by
 have hi : i < xs.length := (List.getElem?_eq_some_iff.1 hx).1
 obtain ⟨a, cap, hv, h2⟩ := h
 rcases h2 with h0 | ⟨b, off, ha, hb, hc⟩
 ·omega
 ·refine ⟨b, off, cap, by rw [hv, ha], hb, fun r u hu => ?_⟩
  have hr : r < sz := by have := (List.getElem?_eq_some_iff.1 hu).1; rw [hs] at this; exact this
  have hg := flat_get hs xs i r x hx hr
  have hlt : i * sz + r < xs.length * sz := by
   have : (i + 1) * sz ≤ xs.length * sz := Nat.mul_le_mul_right _ hi
   rw [Nat.add_mul, Nat.one_mul] at this
   omega
  rw [Nat.add_assoc, hc _ hlt]
  simp only [List.getD_eq_getElem?_getD, hg, hu]
  rfl

theorem owns_rowAt {W : World} {base : Nat} {e : TypeId} {v : Value} {xs : List α} (h : W.ownsRow base e sz v xs.length (flat enc xs)) : StructsAt enc sz W v xs W.heap.size := by
 rcases h.2 with ⟨hv, h0⟩ | ⟨g, cap, cur, hv, hg, hh, hnc, hcm, hcs, htk⟩
 ·exact ⟨none, 0, by rw [hv, h0], .inl h0⟩
 ·have hlt : g < W.heap.size := by
   rcases Nat.lt_or_ge g W.heap.size with hl | hl
   ·exact hl
   ·rw [Array.getElem?_eq_none hl] at hh; cases hh
  refine ⟨_, cap, hv, .inr ⟨g, 0, rfl, hlt, fun j hj => ?_⟩⟩
  rw [Nat.zero_add]
  simp only [World.cell?, hh]
  have hj2 : j < cur.size := by
   have : xs.length * sz ≤ cap * sz := Nat.mul_le_mul_right _ hnc
   omega
  have e1 : (flat enc xs)[j]? = cur.toList[j]? := by rw [← htk, List.getElem?_take_of_lt hj]
  simp [List.getD, e1, hj2]
end
end Go.Proofs.YtmijnjnihhemgaaGreat
namespace Go.Proofs.YtmijnjnihhemgaaGreat
open Go.RowKit
set_option linter.unusedSimpArgs false
set_option linter.unusedVariables false
set_option maxRecDepth 100000
set_option maxHeartbeats 8000000
theorem below_two {w : World} (o1 o2 : Obj) : Below w.heap.size w ((w.alloc o1).alloc o2) := ((Below.refl _ _).alloc (Nat.le_refl _) _).alloc (by simp) _
theorem below_three {w : World} (o1 o2 o3 : Obj) : Below w.heap.size w (((w.alloc o1).alloc o2).alloc o3) := (below_two o1 o2).alloc (by simp; omega) _
theorem wpList_make_structs {α : Type} {enc : α → List Value} {sz : Nat} (hsz : ∀ a, (enc a).length = sz) (hpos : 0 < sz) {P : Program} (w : World) {ops : Array Oper} {rest : List Oper} {o : Oper} {a : Act} {Q : Exit → Act → World → Prop}
  (hg : o.guard = none) (l c : Operand) (t : TypeId) (hop : o.op = Op.makeSlice t l c) (base : Nat) (e : TypeId) (i : TypeInfo) (z : Value) (x : α) (hz : z.cells.toList = enc x)
  (h1 : P.underlying t = some (.slice e)) (h2 : P.info? e = some i) (h3 : i.zero = some z) (h4 : i.size = sz) (n : Nat) (hl : a.eval l = .int .i64 (n : Int)) (hc : a.eval c = .int .i64 (n : Int)) (b2 : i.bytes * n ≤ 281474976710656) (b3 : n ≤ maxLen) (b4 : base ≤ w.heap.size)
  (hK : ∀ w', w'.ownsRow base e sz (.slice (some ⟨w.heap.size, 0, none⟩) n n) n (flat enc (List.replicate n x)) → w.grownBy w' none → wpList P ops Q rest (a.put o.dst (.slice (some ⟨w.heap.size, 0, none⟩) n n)) w') :
  wpList P ops Q (o :: rest) a w :=
 wpList_make_full w hg l c t hop base e i z sz h1 h2 h3 h4 .i64 .i64 (n : Int) (n : Int) n hl hc rfl rfl b2 b3 b4 (fun w' k1 k2 => hK w' (by rw [← made_flat hsz z.cells x hz hpos]; exact k1) k2)
def part {α : Type} (xs : List α) (z : α) (k : Nat) : List α := xs.take k ++ List.replicate (xs.length - k) z
theorem heap3_0 (w : World) (a b c : Obj) : (((w.alloc a).alloc b).alloc c).heap[w.heap.size]? = some a := by
 rw [Below.heap_alloc _ _ _ (by simp; omega), Below.heap_alloc _ _ _ (by simp), heap_alloc_new]
theorem heap3_1 (w : World) (a b c : Obj) : (((w.alloc a).alloc b).alloc c).heap[w.heap.size + 1]? = some b := by
 rw [Below.heap_alloc _ _ _ (by simp)]
 have := heap_alloc_new (w.alloc a) b
 simpa using this
theorem heap3_2 (w : World) (a b c : Obj) : (((w.alloc a).alloc b).alloc c).heap[w.heap.size + 1 + 1]? = some c := by
 have := heap_alloc_new ((w.alloc a).alloc b) c
 simpa using this
theorem ret_bool {a b : Bool} (h : b = a) : Ending.returned (.bool a) = .returned (.bool b) := by rw [h]
theorem flat_append {α : Type} {enc : α → List Value} (xs ys : List α) : flat enc (xs ++ ys) = flat enc xs ++ flat enc ys := by simp [flat]
theorem wpList_append_struct {α : Type} {enc : α → List Value} {sz bytes : Nat} (hlen : ∀ a, (enc a).length = sz) (hpos : 0 < sz) (hone : ∀ a, ∀ u ∈ enc a, u.oneCell' = true) (hbb : bytes ≤ 100) {P : Program} (w : World) {ops : Array Oper} {rest : List Oper} {o : Oper} {a : Act} {Q : Exit → Act → World → Prop} (hgd : o.guard = none) (s x : Operand) (t : TypeId)
  (ho : o.op = .call { callee := .builtin .append, args := #[s, x], argTypes := #[t, t] }) (base : Nat) (e : TypeId) (ht : P.underlying t = some (.slice e)) (zv : Value) (hzv : zv.cells.size = sz)
  (hinfo : (P.info? e).map (fun i => (i.zero, i.size, i.bytes)) = some (some zv, sz, bytes))
  (v : Value) (l : List α) (y : α) (hs : a.eval s = v) (hown : w.ownsRow base e sz v l.length (flat enc l))
  (ad : Addr) (c : Nat) (hx : a.eval x = .slice (some ad) 1 c) (hnews : ∀ j u, (enc y)[j]? = some u → w.cell? (ad.add j) = some u)
  (hl : l.length + 1 ≤ 1000000000) (hbase : base ≤ w.heap.size)
  (h : ∀ v' w' l', Hid (l' = l ++ [y]) → w'.ownsRow base e sz v' l'.length (flat enc l') → w.grownBy w' v.ownBlock → wpList P ops Q rest (a.put o.dst v') w') : wpList P ops Q (o :: rest) a w := by
 obtain ⟨i0, hi, hz0, hz1, hz2⟩ := info_parts hinfo
 refine wpList_append_own w hgd s x t ho base e i0 zv sz bytes ht hi hz0 hz1 hz2 hzv hpos v l.length (flat enc l) hs hown ad 1 c (enc y) hx (by rw [hlen]; omega) hnews (hone y) (by unfold maxLen; omega) ?_ hbase ?_
 ·have : (l.length + 1) * bytes ≤ 1000000000 * 100 := Nat.mul_le_mul hl hbb
  omega
 ·intro v' w' h1 h2 _
  have e1 : flat enc l ++ enc y = flat enc (l ++ [y]) := by rw [flat_append]; simp [flat]
  rw [e1] at h1
  exact h v' w' (l ++ [y]) rfl (by simpa using h1) h2
theorem news_struct {w : World} {cs : List Value} {t : TypeId} : ∀ (j : Nat) (u : Value), cs[j]? = some u → (w.alloc (.cells cs.toArray t)).cell? ((⟨w.heap.size, 0, none⟩ : Addr).add j) = some u := by
 intro j u hj
 have e : (⟨w.heap.size, 0, none⟩ : Addr).add j = ⟨w.heap.size, j, none⟩ := by
  simp only [Addr.add]
  split <;> simp_all
 rw [e, World.cell?_alloc_at _ _ _ _ rfl]
 simpa using hj
structure Lk where
 a : Int
 b : Int
 c : Int
 r : Int
 deriving DecidableEq
structure Th where
 o : Int
 k : Int
 c : Int
 f : Bool
 deriving DecidableEq
def lkV (l : Lk) : Value := .agg #[.int .i64 l.a, .int .i64 l.b, .int .i64 l.c, .int .i64 l.r]
def thV (t : Th) : Value := .agg #[.int .i64 t.o, .int .i64 t.k, .int .i64 t.c, .bool t.f]
def lkE (l : Lk) : List Value := [.int .i64 l.a, .int .i64 l.b, .int .i64 l.c, .int .i64 l.r]
def thE (t : Th) : List Value := [.int .i64 t.o, .int .i64 t.k, .int .i64 t.c, .bool t.f]
theorem lkE_len (l : Lk) : (lkE l).length = 4 := rfl
theorem thE_len (t : Th) : (thE t).length = 4 := rfl
def LinksAt (W : World) (v : Value) (ls : List Lk) (B : Nat) : Prop := StructsAt lkE 4 W v ls B
def ThingsAt (W : World) (v : Value) (ts : List Th) (B : Nat) : Prop := StructsAt thE 4 W v ts B
theorem LinksAt.then {W W' : World} {v : Value} {ls : List Lk} (h : LinksAt W v ls W.heap.size) (hb : Below W.heap.size W W') : LinksAt W' v ls W'.heap.size := RowAt.then h hb
theorem ThingsAt.then {W W' : World} {v : Value} {ls : List Th} (h : ThingsAt W v ls W.heap.size) (hb : Below W.heap.size W W') : ThingsAt W' v ls W'.heap.size := RowAt.then h hb
theorem LinksAt.shape {W : World} {v : Value} {ls : List Lk} {B : Nat} (h : LinksAt W v ls B) : ∃ a cap, v = .slice a ls.length cap := by obtain ⟨a, cap, h, _⟩ := h; exact ⟨a, cap, h⟩
theorem ThingsAt.shape {W : World} {v : Value} {ls : List Th} {B : Nat} (h : ThingsAt W v ls B) : ∃ a cap, v = .slice a ls.length cap := by obtain ⟨a, cap, h, _⟩ := h; exact ⟨a, cap, h⟩
theorem LinksAt.cells {W : World} {v : Value} {ls : List Lk} {B : Nat} (h : LinksAt W v ls B) (i : Nat) (l : Lk) (hl : ls[i]? = some l) :
  ∃ b off cap, v = .slice (some ⟨b, off, none⟩) ls.length cap ∧ b < B ∧ W.cell? ⟨b, off + i * 4, none⟩ = some (.int .i64 l.a) ∧ W.cell? ⟨b, off + i * 4 + 1, none⟩ = some (.int .i64 l.b) ∧
   W.cell? ⟨b, off + i * 4 + 2, none⟩ = some (.int .i64 l.c) ∧ W.cell? ⟨b, off + i * 4 + 3, none⟩ = some (.int .i64 l.r) := by
 obtain ⟨b, off, cap, hv, hb, hc⟩ := StructsAt.cell h lkE_len i l hl
 exact ⟨b, off, cap, hv, hb, hc 0 _ rfl, hc 1 _ rfl, hc 2 _ rfl, hc 3 _ rfl⟩
theorem ThingsAt.cells {W : World} {v : Value} {ls : List Th} {B : Nat} (h : ThingsAt W v ls B) (i : Nat) (l : Th) (hl : ls[i]? = some l) :
  ∃ b off cap, v = .slice (some ⟨b, off, none⟩) ls.length cap ∧ b < B ∧ W.cell? ⟨b, off + i * 4, none⟩ = some (.int .i64 l.o) ∧ W.cell? ⟨b, off + i * 4 + 1, none⟩ = some (.int .i64 l.k) ∧
   W.cell? ⟨b, off + i * 4 + 2, none⟩ = some (.int .i64 l.c) ∧ W.cell? ⟨b, off + i * 4 + 3, none⟩ = some (.bool l.f) := by
 obtain ⟨b, off, cap, hv, hb, hc⟩ := StructsAt.cell h thE_len i l hl
 exact ⟨b, off, cap, hv, hb, hc 0 _ rfl, hc 1 _ rfl, hc 2 _ rfl, hc 3 _ rfl⟩
def lkHit (f t r : Int) (l : Lk) : Bool := l.r == r && ((l.a == f && l.b == t) || (l.a == t && l.b == f))
def costN (ls : List Lk) (f t r : Int) : Int := ((ls.find? (lkHit f t r)).map (·.c)).getD 0
theorem find_first {α : Type} (p : α → Bool) : ∀ (ls : List α) (k : Nat) (l : α), (∀ j, j < k → ∀ x, ls[j]? = some x → p x = false) → ls[k]? = some l → p l = true → ls.find? p = some l
 | [], _, _, _, h, _ => by simp at h
 | y :: ys, 0, l, _, h, hp => by simp at h; subst h; simp [hp]
 | y :: ys, k + 1, l, hno, h, hp => by
  have h0 := hno 0 (by omega) y rfl
  rw [List.find?_cons, h0]
  exact find_first p ys k l (fun j hj x hx => hno (j + 1) (by omega) x (by simpa using hx)) (by simpa using h) hp
theorem find_noneL {α : Type} (p : α → Bool) (ls : List α) (h : ∀ j, j < ls.length → ∀ x, ls[j]? = some x → p x = false) : ls.find? p = none := by
 rw [List.find?_eq_none]
 intro x hx
 obtain ⟨i, hi, e⟩ := List.mem_iff_getElem.1 hx
 rw [h i hi x (by rw [List.getElem?_eq_getElem hi, e])]
 decide
theorem no_next {α : Type} {p : α → Bool} {ls : List α} {k : Nat} {l : α} (h : ∀ j, j < k → ∀ x, ls[j]? = some x → p x = false) (hl : ls[k]? = some l) (hp : p l = false) : ∀ j, j < k + 1 → ∀ x, ls[j]? = some x → p x = false := by
 intro j hj x hx
 by_cases e : j = k
 ·subst e; rw [hl] at hx; cases hx; exact hp
 ·exact h j (by omega) x hx
theorem cost_hit {ls : List Lk} {f t r : Int} {k : Nat} {l : Lk} (h : ∀ j, j < k → ∀ x, ls[j]? = some x → lkHit f t r x = false) (hl : ls[k]? = some l) (hp : lkHit f t r l = true) : costN ls f t r = l.c := by
 unfold costN; rw [find_first _ ls k l h hl hp]; rfl
theorem cost_next {ls : List Lk} {f t r : Int} {k : Nat} {l : Lk} (h : ∀ j, j < k → ∀ x, ls[j]? = some x → lkHit f t r x = false) (hl : ls[k]? = some l) (hp : lkHit f t r l = false) : ∀ j, j < k + 1 → ∀ x, ls[j]? = some x → lkHit f t r x = false := no_next h hl hp
theorem cost_none {ls : List Lk} {f t r : Int} {k : Nat} (h : ∀ j, j < k → ∀ x, ls[j]? = some x → lkHit f t r x = false) (hk : k = ls.length) : costN ls f t r = 0 := by
 unfold costN; rw [find_noneL _ ls (by rw [← hk]; exact h)]; rfl
theorem scost_any (n : Value) (v tv : Value) (ls : List Lk) (f t r : Int) (w : World) (hls : ls.length ≤ 1048576) (hv : LinksAt w v ls w.heap.size) :
  Calls Tryz.prog 118 #[.agg #[n, v, tv], .int .i64 f, .int .i64 t, .int .i64 r] w fun e w' => e = .returned (.int .i64 (costN ls f t r)) ∧ Below w.heap.size w w' := by
 obtain ⟨a, cap, rfl⟩ : ∃ a cap, v = .slice a ls.length cap := by obtain ⟨a, cap, h, _⟩ := hv; exact ⟨a, cap, h⟩
 have HV := hide hv
 clear hv
 go_enter Tryz.func118, Tryz.ntmps118
 go_wp2
 go_loopw [9] (fun i wr => ∃ k : Nat, k ≤ ls.length ∧ i = .int .i64 k ∧ (∀ j, j < k → ∀ l, ls[j]? = some l → lkHit f t r l = false) ∧ Below w.heap.size w wr ∧ wr.heap[w.heap.size]? = some (.cells #[n, .slice a ls.length cap, tv] 27)) (fun i _ => ls.length - (intOf i).toNat)
 case atStart => exact ⟨0, by omega, rfl, by omega, (Below.refl _ _).alloc (Nat.le_refl _) _, heap_alloc_new w _⟩
 case round =>
  obtain ⟨k, hk, rfl, hno, hb, hx⟩ := hrel
  have hx1 : wr.cell? ⟨w.heap.size, 1, none⟩ = some (.slice a ls.length cap) := by rw [cells_at hx]; rfl
  have HX := hide hx
  have HNO := hide hno
  clear hx hno
  by_cases hlt : k < ls.length
  ·obtain ⟨l, hl⟩ : ∃ l, ls[k]? = some l := ⟨ls[k], List.getElem?_eq_getElem hlt⟩
   obtain ⟨b, off, cap', hve, hbb, c0, c1, c2, c3⟩ := HV.out.cells k l hl
   cases hve
   rw [← hb.cell (p := ⟨b, off + k * 4, none⟩) hbb] at c0
   rw [← hb.cell (p := ⟨b, off + k * 4 + 1, none⟩) hbb] at c1
   rw [← hb.cell (p := ⟨b, off + k * 4 + 2, none⟩) hbb] at c2
   rw [← hb.cell (p := ⟨b, off + k * 4 + 3, none⟩) hbb] at c3
   have HL := hide hl
   clear hl
   obtain ⟨la, lb, lc, lr⟩ := l
   go_wp2
   all_goals first
    | (go_ret
       refine ⟨ret_int (cost_hit HNO.out HL.out ?_).symm, hb.alloc hb.size _⟩
       clear HV HX HL HNO hb hx1 c0 c1 c2 c3
       simp only [lkHit]
       grind)
    | (refine ⟨⟨k + 1, by omega, by go_num, cost_next HNO.out HL.out ?_, hb.alloc hb.size _, ?_⟩, by simp [intOf]; omega⟩
       ·clear HV HX HL HNO hb hx1 c0 c1 c2 c3
        simp only [lkHit]
        grind
       ·rw [Below.heap_alloc _ _ _ (lt_of_heap HX.out)]; exact HX.out)
    | (subst_vars
       refine ⟨⟨k + 1, by omega, by go_num, cost_next HNO.out HL.out ?_, hb.alloc hb.size _, ?_⟩, by simp [intOf]; omega⟩
       ·clear HV HX HL HNO hb hx1 c0 c1 c2 c3
        simp only [lkHit]
        grind
       ·rw [Below.heap_alloc _ _ _ (lt_of_heap HX.out)]; exact HX.out)
  ·have hk' : k = ls.length := by omega
   have HK := hide hk'
   clear hk'
   go_wp2
   go_ret
   exact ⟨ret_int (cost_none HNO.out HK.out).symm, hb⟩
def lk0 : Lk := ⟨0, 0, 0, 0⟩
theorem Tryz.infoLk : (Tryz.prog.info? 83).map (fun i => (i.zero, i.size, i.bytes)) = some (some (lkV lk0), 4, 32) := by kernel_rfl
def th0 : Th := ⟨0, 0, 0, false⟩
theorem Tryz.infoTh : (Tryz.prog.info? 87).map (fun i => (i.zero, i.size, i.bytes)) = some (some (thV th0), 4, 32) := by kernel_rfl

def inB (x a b : Int) : Bool := decide (a ≤ x) && decide (x ≤ b)
theorem in_any (x a b : Int) (w : World) : Calls Tryz.prog 115 #[.int .i64 x, .int .i64 a, .int .i64 b] w fun e w' => e = .returned (.bool (inB x a b)) ∧ w = w' := by
 by_cases h1 : a ≤ x <;> by_cases h2 : x ≤ b
 all_goals
  go_enter Tryz.func115, Tryz.ntmps115
  go_wp2
  go_ret
  exact ⟨by simp [inB, h1, h2], rfl⟩

structure NetD where
 n : Int
 ls : List Lk
 ts : List Th
 deriving DecidableEq
def NetAt (W : World) (v : Value) (x : NetD) (B : Nat) : Prop := ∃ v1 v2, v = .agg #[.int .i64 x.n, v1, v2] ∧ LinksAt W v1 x.ls B ∧ ThingsAt W v2 x.ts B
theorem NetAt.then {W W' : World} {v : Value} {x : NetD} (h : NetAt W v x W.heap.size) (hb : Below W.heap.size W W') : NetAt W' v x W'.heap.size := by
 obtain ⟨v1, v2, hv, h1, h2⟩ := h
 exact ⟨v1, v2, hv, h1.then hb, h2.then hb⟩
def linkOkB (n : Int) (l : Lk) : Bool := inB n 1 6 && inB l.a 1 n && inB l.b 1 n && decide (l.a < l.b) && inB l.c 1 1000 && inB l.r 0 2
def aheadB (a b : Lk) : Bool := decide (a.a < b.a) || (a.a == b.a && (decide (a.b < b.b) || (a.b == b.b && decide (a.r < b.r))))
def thingB (a b : Th) : Bool := decide (a.k < b.k) || (a.k == b.k && decide (a.o < b.o))
theorem slinkOk_any (n : Int) (l : Lk) (w : World) : Calls Tryz.prog 164 #[.int .i64 n, lkV l] w fun e w' => e = .returned (.bool (linkOkB n l)) ∧ Below w.heap.size w w' := by
 obtain ⟨a, b, c, r⟩ := l
 unfold lkV linkOkB
 simp only []
 generalize hq1 : inB n 1 6 = q1
 generalize hq2 : inB a 1 n = q2
 generalize hq3 : inB b 1 n = q3
 generalize hq4 : inB c 1 1000 = q4
 generalize hq5 : inB r 0 2 = q5
 have h1 := in_any n 1 6
 have h2 := in_any a 1 n
 have h3 := in_any b 1 n
 have h4 := in_any c 1 1000
 have h5 := in_any r 0 2
 rw [hq1] at h1
 rw [hq2] at h2
 rw [hq3] at h3
 rw [hq4] at h4
 rw [hq5] at h5
 have H1 := hide h1
 have H2 := hide h2
 have H3 := hide h3
 have H4 := hide h4
 have H5 := hide h5
 clear h1 h2 h3 h4 h5 hq1 hq2 hq3 hq4 hq5
 cases q1
 ·go_enter Tryz.func164, Tryz.ntmps164
  go_wp2_with fail
  refine (H1.out _).mono ?_
  rintro e w1 ⟨rfl, rfl⟩
  go_wp2
  go_ret
  exact ⟨by simp, (Below.refl _ _).alloc (Nat.le_refl _) _⟩
 cases q2
 ·go_enter Tryz.func164, Tryz.ntmps164
  go_wp2_with fail
  refine (H1.out _).mono ?_
  rintro e w1 ⟨rfl, rfl⟩
  go_wp2_with fail
  refine (H2.out _).mono ?_
  rintro e w1 ⟨rfl, rfl⟩
  go_wp2
  go_ret
  exact ⟨by simp, (Below.refl _ _).alloc (Nat.le_refl _) _⟩
 cases q3
 ·go_enter Tryz.func164, Tryz.ntmps164
  go_wp2_with fail
  refine (H1.out _).mono ?_
  rintro e w1 ⟨rfl, rfl⟩
  go_wp2_with fail
  refine (H2.out _).mono ?_
  rintro e w1 ⟨rfl, rfl⟩
  go_wp2_with fail
  refine (H3.out _).mono ?_
  rintro e w1 ⟨rfl, rfl⟩
  go_wp2
  go_ret
  exact ⟨by simp, (Below.refl _ _).alloc (Nat.le_refl _) _⟩
 by_cases hab : a < b
 ·cases q4
  ·go_enter Tryz.func164, Tryz.ntmps164
   go_wp2_with fail
   refine (H1.out _).mono ?_
   rintro e w1 ⟨rfl, rfl⟩
   go_wp2_with fail
   refine (H2.out _).mono ?_
   rintro e w1 ⟨rfl, rfl⟩
   go_wp2_with fail
   refine (H3.out _).mono ?_
   rintro e w1 ⟨rfl, rfl⟩
   go_wp2_with fail
   refine (H4.out _).mono ?_
   rintro e w1 ⟨rfl, rfl⟩
   go_wp2
   go_ret
   exact ⟨by simp, (Below.refl _ _).alloc (Nat.le_refl _) _⟩
  ·go_enter Tryz.func164, Tryz.ntmps164
   go_wp2_with fail
   refine (H1.out _).mono ?_
   rintro e w1 ⟨rfl, rfl⟩
   go_wp2_with fail
   refine (H2.out _).mono ?_
   rintro e w1 ⟨rfl, rfl⟩
   go_wp2_with fail
   refine (H3.out _).mono ?_
   rintro e w1 ⟨rfl, rfl⟩
   go_wp2_with fail
   refine (H4.out _).mono ?_
   rintro e w1 ⟨rfl, rfl⟩
   go_wp2_with fail
   refine (H5.out _).mono ?_
   rintro e w1 ⟨rfl, rfl⟩
   go_wp2
   go_ret
   exact ⟨ret_bool (by rw [decide_eq_true hab]; simp), (Below.refl _ _).alloc (Nat.le_refl _) _⟩
 ·go_enter Tryz.func164, Tryz.ntmps164
  go_wp2_with fail
  refine (H1.out _).mono ?_
  rintro e w1 ⟨rfl, rfl⟩
  go_wp2_with fail
  refine (H2.out _).mono ?_
  rintro e w1 ⟨rfl, rfl⟩
  go_wp2_with fail
  refine (H3.out _).mono ?_
  rintro e w1 ⟨rfl, rfl⟩
  go_wp2
  go_ret
  exact ⟨ret_bool (by rw [decide_eq_false (show ¬ a < b by omega)]; simp), (Below.refl _ _).alloc (Nat.le_refl _) _⟩
theorem sahead_any (l m : Lk) (w : World) : Calls Tryz.prog 165 #[lkV l, lkV m] w fun e w' => e = .returned (.bool (aheadB l m)) ∧ Below w.heap.size w w' := by
 obtain ⟨a, b, c, r⟩ := l
 obtain ⟨a', b', c', r'⟩ := m
 unfold lkV
 go_enter Tryz.func165, Tryz.ntmps165
 go_wp2
 all_goals go_ret
 all_goals refine ⟨ret_bool ?_, below_two _ _⟩
 all_goals (simp only [aheadB]; grind)
theorem sthing_any (l m : Th) (w : World) : Calls Tryz.prog 166 #[thV l, thV m] w fun e w' => e = .returned (.bool (thingB l m)) ∧ Below w.heap.size w w' := by
 obtain ⟨a, b, c, r⟩ := l
 obtain ⟨a', b', c', r'⟩ := m
 unfold thV
 go_enter Tryz.func166, Tryz.ntmps166
 go_wp2
 all_goals go_ret
 all_goals refine ⟨ret_bool ?_, below_two _ _⟩
 all_goals (simp only [thingB]; grind)
theorem lkE_one (l : Lk) : ∀ u ∈ lkE l, u.oneCell' = true := by
 intro u hu
 simp only [lkE, List.mem_cons, List.not_mem_nil, or_false] at hu
 rcases hu with rfl | rfl | rfl | rfl <;> rfl
theorem filt_yes {α : Type} {p : α → Bool} {ls : List α} {k : Nat} {x : α} (h : ls[k]? = some x) (hp : p x = true) : (ls.take (k + 1)).filter p = (ls.take k).filter p ++ [x] := by
 obtain ⟨hk, e⟩ := List.getElem?_eq_some_iff.1 h
 rw [List.take_succ_eq_append_getElem hk, List.filter_append, e]
 simp [hp]
theorem filt_no {α : Type} {p : α → Bool} {ls : List α} {k : Nat} {x : α} (h : ls[k]? = some x) (hp : p x = false) : (ls.take (k + 1)).filter p = (ls.take k).filter p := by
 obtain ⟨hk, e⟩ := List.getElem?_eq_some_iff.1 h
 rw [List.take_succ_eq_append_getElem hk, List.filter_append, e]
 simp [hp]
theorem filt_len {α : Type} (p : α → Bool) (ls : List α) (k : Nat) : ((ls.take k).filter p).length ≤ ls.length := by
 have h1 := List.length_filter_le p (ls.take k)
 have h2 := List.length_take_le k ls
 have h3 : (ls.take k).length ≤ ls.length := by simp; omega
 omega
def putLk (ls : List Lk) (l : Lk) : List Lk := ls.filter (fun x => aheadB x l) ++ [l] ++ ls.filter (fun x => aheadB l x)
theorem heap_grown_below {w w' : World} {base size : Nat} {e : TypeId} {v : Value} {n : Nat} {xs : List Value} (hown : w.ownsRow base e size v n xs) (hg : w.grownBy w' v.ownBlock) {b : Nat} (hb : b < base) (hbw : b < w.heap.size) : w'.heap[b]? = w.heap[b]? :=
 hg.block b hbw (fun he => by have := (hown.lt b he.symm).1; omega)
theorem putL_any (v : Value) (ls : List Lk) (l : Lk) (w : World) (hls : ls.length ≤ 1000) (hv : LinksAt w v ls w.heap.size) :
  Calls Tryz.prog 162 #[v, lkV l] w fun e w' => ∃ x, e = .returned x ∧ w'.ownsRow (w.heap.size + 1) 83 4 x (putLk ls l).length (flat lkE (putLk ls l)) ∧ Below w.heap.size w w' := by
 obtain ⟨a, cap, rfl⟩ := hv.shape
 have HV := hide hv
 clear hv
 obtain ⟨la, lb, lc, lr⟩ := l
 unfold lkV
 simp only []
 go_enter Tryz.func162, Tryz.ntmps162
 go_wp2
 go_loopw [5, 6] (fun u i wr => ∃ k : Nat, k ≤ ls.length ∧ i = .int .i64 k ∧ wr.ownsRow (w.heap.size + 1) 83 4 u ((ls.take k).filter (fun x => aheadB x ⟨la, lb, lc, lr⟩)).length (flat lkE ((ls.take k).filter (fun x => aheadB x ⟨la, lb, lc, lr⟩))) ∧ Below w.heap.size w wr ∧ wr.heap[w.heap.size]? = some (.cells #[.int .i64 la, .int .i64 lb, .int .i64 lc, .int .i64 lr] 83)) (fun _ i _ => ls.length - (intOf i).toNat)
 case atStart =>
  refine ⟨0, by omega, rfl, ?_, ?_, ?_⟩
  ·have h := World.ownsRow_lit (base := w.heap.size + 1) (e := 83) (size := 4) (w.alloc (.cells #[.int .i64 la, .int .i64 lb, .int .i64 lc, .int .i64 lr] 83)) #[] 0 (by simp) (by decide) rfl
   simpa [flat] using h
  ·exact ((Below.refl _ _).alloc (Nat.le_refl _) _).alloc (by simp) _
  ·rw [Below.heap_alloc _ _ _ (by simp), heap_alloc_new]
 case round =>
  obtain ⟨k, hk, rfl, hown, hb, hx⟩ := hrel
  have hfl := filt_len (fun x => aheadB x ⟨la, lb, lc, lr⟩) ls k
  have hxl := lt_of_heap hx
  by_cases hlt : k < ls.length
  ·obtain ⟨x, hl⟩ : ∃ l, ls[k]? = some l := ⟨ls[k], List.getElem?_eq_getElem hlt⟩
   obtain ⟨b, off, cap', hve, hbb, c0, c1, c2, c3⟩ := HV.out.cells k x hl
   cases hve
   have d0 := c0
   have d1 := c1
   have d2 := c2
   have d3 := c3
   rw [← hb.cell (p := ⟨b, off + k * 4, none⟩) hbb] at c0
   rw [← hb.cell (p := ⟨b, off + k * 4 + 1, none⟩) hbb] at c1
   rw [← hb.cell (p := ⟨b, off + k * 4 + 2, none⟩) hbb] at c2
   rw [← hb.cell (p := ⟨b, off + k * 4 + 3, none⟩) hbb] at c3
   have g0 := cells_at hx 0
   have g1 := cells_at hx 1
   have g2 := cells_at hx 2
   have g3 := cells_at hx 3
   simp at g0 g1 g2 g3
   have hzr := hb.size
   have hbr : b < wr.heap.size := by omega
   have hki : (0 : Int) ≤ (k : Int) := by omega
   have hkj : (k : Int) < (ls.length : Int) := by omega
   obtain ⟨q, hq⟩ : ∃ q, q = aheadB x ⟨la, lb, lc, lr⟩ := ⟨_, rfl⟩
   have hah := sahead_any x ⟨la, lb, lc, lr⟩
   rw [← hq] at hah
   unfold lkV at hah
   have HAH := hide hah
   have OW := hide hown
   have HX := hide hx
   have HL := hide hl
   have HQ := hide hq
   have D0 := hide d0
   have D1 := hide d1
   have D2 := hide d2
   have D3 := hide d3
   clear hah hown hx hl hq d0 d1 d2 d3
   go_wp2
   go_region_held3 (fun W => W.cell? ⟨b, off + k * 4, none⟩ = some (.int .i64 x.a) ∧ W.cell? ⟨b, off + k * 4 + 1, none⟩ = some (.int .i64 x.b) ∧ W.cell? ⟨b, off + k * 4 + 2, none⟩ = some (.int .i64 x.c) ∧ W.cell? ⟨b, off + k * 4 + 3, none⟩ = some (.int .i64 x.r) ∧ W.cell? ⟨w.heap.size, 0, none⟩ = some (.int .i64 la) ∧ W.cell? ⟨w.heap.size, 1, none⟩ = some (.int .i64 lb) ∧ W.cell? ⟨w.heap.size, 2, none⟩ = some (.int .i64 lc) ∧ W.cell? ⟨w.heap.size, 3, none⟩ = some (.int .i64 lr)) (first | go_keep | (refine ⟨?_, ?_, ?_, ?_, ?_, ?_, ?_, ?_⟩ <;> (rw [hbc.cell (by assumption)]; assumption))) (first | (go_at_call 165; refine (HAH.out _).mono ?_; rintro e w1 ⟨rfl, hbc⟩))
   have B1 : Below w.heap.size w w1 := hb.drew.trans (hbc.mono hb.size)
   have hx1 : w1.heap[w.heap.size]? = some (.cells #[.int .i64 la, .int .i64 lb, .int .i64 lc, .int .i64 lr] 83) := by rw [hbc.block _ hxl]; exact HX.out
   have hown1 := owns_below OW.out.drew hbc (Nat.le_refl _)
   have c0 := D0.out
   have c1 := D1.out
   have c2 := D2.out
   have c3 := D3.out
   rw [← B1.cell (p := ⟨b, off + k * 4, none⟩) hbb] at c0
   rw [← B1.cell (p := ⟨b, off + k * 4 + 1, none⟩) hbb] at c1
   rw [← B1.cell (p := ⟨b, off + k * 4 + 2, none⟩) hbb] at c2
   rw [← B1.cell (p := ⟨b, off + k * 4 + 3, none⟩) hbb] at c3
   have hxl1 := lt_of_heap hx1
   have HX1 := hide hx1
   have OW1 := hide hown1
   clear hx1 hown1 hbc
   cases q
   ·have hs := filt_no (p := fun x => aheadB x ⟨la, lb, lc, lr⟩) HL.out HQ.out.symm
    have HS := hide hs
    clear hs
    go_wp2
    go_roundw
    case rel => exact ⟨k + 1, by omega, by go_num, by rw [HS.out]; exact OW1.out, B1, HX1.out⟩
    case measure => simp [intOf]; omega
   ·have hs := filt_yes (p := fun x => aheadB x ⟨la, lb, lc, lr⟩) HL.out HQ.out.symm
    have HS := hide hs
    clear hs
    go_wp2_with (first
     | (at_builtin; refine wpList_append_struct lkE_len (by omega) lkE_one (by omega) _ rfl _ _ 24 rfl (w.heap.size + 1) 83 Tryz.underlying24 (lkV lk0) rfl Tryz.infoLk u5 _ x rfl (OW1.out.alloc _) ⟨w1.heap.size, 0, none⟩ 1 rfl (news_struct (cs := lkE x)) (by omega) (by simp; omega) ?_))
    intro v' w2 l' hl' hown' hgrow
    have B2 : Below w.heap.size w w2 := (B1.alloc B1.size _).grown hgrow (by simp; omega) (fun k hk => by have := (OW1.out.lt k hk).1; omega)
    have hx2 : w2.heap[w.heap.size]? = some (.cells #[.int .i64 la, .int .i64 lb, .int .i64 lc, .int .i64 lr] 83) := by rw [heap_grown_below (OW1.out.alloc _) hgrow (by omega) (by simp; omega), Below.heap_alloc _ _ _ hxl1]; exact HX1.out
    have HX2 := hide hx2
    have OW2 := hide hown'
    clear hx2 hown' hgrow
    go_wp2
    go_roundw
    case rel => exact ⟨k + 1, by omega, by go_num, by rw [HS.out, ← hl'.out]; exact OW2.out, B2, HX2.out⟩
    case measure => simp [intOf]; omega
  ·have hk' : k = ls.length := by omega
   rw [hk', List.take_length] at hown
   have g0 := cells_at hx 0
   have g1 := cells_at hx 1
   have g2 := cells_at hx 2
   have g3 := cells_at hx 3
   simp at g0 g1 g2 g3
   have hzr := hb.size
   have hfl2 : (ls.filter (fun x => aheadB x ⟨la, lb, lc, lr⟩)).length ≤ ls.length := List.length_filter_le _ _
   have OW := hide hown
   have HX := hide hx
   clear hown hx hk'
   obtain ⟨wo, rfl⟩ : ∃ wo : World, wo = wr := ⟨_, rfl⟩
   go_wp2_with (first
    | (at_builtin; refine wpList_append_struct lkE_len (by omega) lkE_one (by omega) _ rfl _ _ 24 rfl (w.heap.size + 1) 83 Tryz.underlying24 (lkV lk0) rfl Tryz.infoLk u5 _ ⟨la, lb, lc, lr⟩ rfl (OW.out.alloc _) ⟨wo.heap.size, 0, none⟩ 1 rfl (news_struct (cs := lkE ⟨la, lb, lc, lr⟩)) (by omega) (by simp; omega) ?_))
   intro v' w2 l' hl' hown' hgrow
   have B2 : Below w.heap.size w w2 := (hb.alloc hb.size _).grown hgrow (by simp; omega) (fun k hk => by have := (OW.out.lt k hk).1; omega)
   have hx2 : w2.heap[w.heap.size]? = some (.cells #[.int .i64 la, .int .i64 lb, .int .i64 lc, .int .i64 lr] 83) := by rw [heap_grown_below (OW.out.alloc _) hgrow (by omega) (by simp; omega), Below.heap_alloc _ _ _ hxl]; exact HX.out
   have hll : l'.length ≤ ls.length + 1 := by rw [hl'.out]; simp; omega
   have HX2 := hide hx2
   have OW2 := hide hown'
   clear hx2 hown' hgrow hlt
   go_wp2
   go_loopw [5, 7] (fun u i wr => ∃ k : Nat, k ≤ ls.length ∧ i = .int .i64 k ∧ wr.ownsRow (w.heap.size + 1) 83 4 u (l' ++ (ls.take k).filter (fun x => aheadB ⟨la, lb, lc, lr⟩ x)).length (flat lkE (l' ++ (ls.take k).filter (fun x => aheadB ⟨la, lb, lc, lr⟩ x))) ∧ Below w.heap.size w wr ∧ wr.heap[w.heap.size]? = some (.cells #[.int .i64 la, .int .i64 lb, .int .i64 lc, .int .i64 lr] 83)) (fun _ i _ => ls.length - (intOf i).toNat)
   case atStart => exact ⟨0, by omega, rfl, by simpa using OW2.out, B2, HX2.out⟩
   case round =>
    clear OW2 HX2 B2 OW HX hb g0 g1 g2 g3 hzr hxl
    obtain ⟨k, hk, rfl, hown, hb, hx⟩ := hrel
    have hfl := filt_len (fun x => aheadB ⟨la, lb, lc, lr⟩ x) ls k
    have hfl3 : (l' ++ (ls.take k).filter (fun x => aheadB ⟨la, lb, lc, lr⟩ x)).length ≤ 2 * ls.length + 1 := by rw [List.length_append]; omega
    have hxl := lt_of_heap hx
    by_cases hlt : k < ls.length
    ·obtain ⟨x, hl⟩ : ∃ l, ls[k]? = some l := ⟨ls[k], List.getElem?_eq_getElem hlt⟩
     obtain ⟨b, off, cap', hve, hbb, c0, c1, c2, c3⟩ := HV.out.cells k x hl
     cases hve
     have d0 := c0
     have d1 := c1
     have d2 := c2
     have d3 := c3
     rw [← hb.cell (p := ⟨b, off + k * 4, none⟩) hbb] at c0
     rw [← hb.cell (p := ⟨b, off + k * 4 + 1, none⟩) hbb] at c1
     rw [← hb.cell (p := ⟨b, off + k * 4 + 2, none⟩) hbb] at c2
     rw [← hb.cell (p := ⟨b, off + k * 4 + 3, none⟩) hbb] at c3
     have g0 := cells_at hx 0
     have g1 := cells_at hx 1
     have g2 := cells_at hx 2
     have g3 := cells_at hx 3
     simp at g0 g1 g2 g3
     have hzr := hb.size
     have hbr : b < wr.heap.size := by omega
     have hki : (0 : Int) ≤ (k : Int) := by omega
     have hkj : (k : Int) < (ls.length : Int) := by omega
     obtain ⟨q, hq⟩ : ∃ q, q = aheadB ⟨la, lb, lc, lr⟩ x := ⟨_, rfl⟩
     have hah := sahead_any ⟨la, lb, lc, lr⟩ x
     rw [← hq] at hah
     unfold lkV at hah
     have HAH := hide hah
     have OW := hide hown
     have HX := hide hx
     have HL := hide hl
     have HQ := hide hq
     have D0 := hide d0
     have D1 := hide d1
     have D2 := hide d2
     have D3 := hide d3
     clear hah hown hx hl hq d0 d1 d2 d3
     go_wp2
     go_region_held3 (fun W => W.cell? ⟨b, off + k * 4, none⟩ = some (.int .i64 x.a) ∧ W.cell? ⟨b, off + k * 4 + 1, none⟩ = some (.int .i64 x.b) ∧ W.cell? ⟨b, off + k * 4 + 2, none⟩ = some (.int .i64 x.c) ∧ W.cell? ⟨b, off + k * 4 + 3, none⟩ = some (.int .i64 x.r) ∧ W.cell? ⟨w.heap.size, 0, none⟩ = some (.int .i64 la) ∧ W.cell? ⟨w.heap.size, 1, none⟩ = some (.int .i64 lb) ∧ W.cell? ⟨w.heap.size, 2, none⟩ = some (.int .i64 lc) ∧ W.cell? ⟨w.heap.size, 3, none⟩ = some (.int .i64 lr)) (first | go_keep | (refine ⟨?_, ?_, ?_, ?_, ?_, ?_, ?_, ?_⟩ <;> (rw [hbc.cell (by assumption)]; assumption))) (first | (go_at_call 165; refine (HAH.out _).mono ?_; rintro e w1 ⟨rfl, hbc⟩))
     have B1 : Below w.heap.size w w1 := hb.drew.trans (hbc.mono hb.size)
     have hx1 : w1.heap[w.heap.size]? = some (.cells #[.int .i64 la, .int .i64 lb, .int .i64 lc, .int .i64 lr] 83) := by rw [hbc.block _ hxl]; exact HX.out
     have hown1 := owns_below OW.out.drew hbc (Nat.le_refl _)
     have c0 := D0.out
     have c1 := D1.out
     have c2 := D2.out
     have c3 := D3.out
     rw [← B1.cell (p := ⟨b, off + k * 4, none⟩) hbb] at c0
     rw [← B1.cell (p := ⟨b, off + k * 4 + 1, none⟩) hbb] at c1
     rw [← B1.cell (p := ⟨b, off + k * 4 + 2, none⟩) hbb] at c2
     rw [← B1.cell (p := ⟨b, off + k * 4 + 3, none⟩) hbb] at c3
     have hxl1 := lt_of_heap hx1
     have HX1 := hide hx1
     have OW1 := hide hown1
     clear hx1 hown1 hbc
     cases q
     ·have hs := filt_no (p := fun x => aheadB ⟨la, lb, lc, lr⟩ x) HL.out HQ.out.symm
      have HS := hide hs
      clear hs
      go_wp2
      go_roundw
      case rel => exact ⟨k + 1, by omega, by go_num, by rw [HS.out]; exact OW1.out, B1, HX1.out⟩
      case measure => simp [intOf]; omega
     ·have hs := filt_yes (p := fun x => aheadB ⟨la, lb, lc, lr⟩ x) HL.out HQ.out.symm
      have HS := hide hs
      clear hs
      go_wp2_with (first
       | (at_builtin; refine wpList_append_struct lkE_len (by omega) lkE_one (by omega) _ rfl _ _ 24 rfl (w.heap.size + 1) 83 Tryz.underlying24 (lkV lk0) rfl Tryz.infoLk u5 _ x rfl (OW1.out.alloc _) ⟨w1.heap.size, 0, none⟩ 1 rfl (news_struct (cs := lkE x)) (by omega) (by simp; omega) ?_))
      intro v' w2 l2 hl2 hown' hgrow
      have B2 : Below w.heap.size w w2 := (B1.alloc B1.size _).grown hgrow (by simp; omega) (fun k hk => by have := (OW1.out.lt k hk).1; omega)
      have hx2 : w2.heap[w.heap.size]? = some (.cells #[.int .i64 la, .int .i64 lb, .int .i64 lc, .int .i64 lr] 83) := by rw [heap_grown_below (OW1.out.alloc _) hgrow (by omega) (by simp; omega), Below.heap_alloc _ _ _ hxl1]; exact HX1.out
      have HX2 := hide hx2
      have OW2 := hide hown'
      clear hx2 hown' hgrow
      go_wp2
      go_roundw
      case rel => exact ⟨k + 1, by omega, by go_num, by rw [HS.out]; first | (rw [← hl2.out]; exact OW2.out) | (rw [← List.append_assoc, ← hl2.out]; exact OW2.out), B2, HX2.out⟩
      case measure => simp [intOf]; omega
    ·have hk' : k = ls.length := by omega
     rw [hk', List.take_length] at hown
     have OW := hide hown
     clear hown hk'
     go_wp2
     go_ret
     exact ⟨_, rfl, by unfold putLk; rw [← hl'.out]; exact OW.out, hb⟩
end Go.Proofs.YtmijnjnihhemgaaGreat
