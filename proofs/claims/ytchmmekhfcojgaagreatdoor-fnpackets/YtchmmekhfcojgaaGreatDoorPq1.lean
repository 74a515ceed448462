/-
  The plain mathematics of numbers in bytes and figures; small laws on rows of bytes that a call makes.
  What every walk of this seat imports; the element type's row of the table.
  Rows that a call made, and what stays of them.
  Rows whose elements are structs: their cells one behind another.
  What rows of structs and struct results want, of no function.
  Nears (two numbers) as values and in rows; laws.toNear, eqNear, toNearS, eqNearS, szNearS.
  Records as values; laws.toRecord, eqRecord, szRecord.
  laws.markNearS, heldNearS, markRecord, heldRecord: only the row's own memory turns; what was marked is held.
  'append(out, x)' of a struct of four cells, out a row that the call itself made.
-/
import Derived.WalkKit
import Derived.Laws.IdiomStrings
import Derived.Test.YtchmmekhfcojgaaGreatDoorRows
import Derived.WalkSpells
import Derived.WalkLawsBesides
import Derived.OwnWalk
import Derived.Deep.QuietTactic
import Derived.BigQuiet
import Derived.Handy
import Derived.Deep.RegionHeld3
namespace Go.Proofs.YtchmmekhfcojgaaGreatDoor
open Go.RowKit

theorem hide {p : Prop} (h : p) : Hid p := h

theorem unhide {p : Prop} (h : Hid p) : p := h

def bs (l : List UInt8) : ByteArray := ⟨l.toArray⟩

def cellsOf (l : List UInt8) : List Value := l.map fun b => Value.int .u8 (b.toNat : Int)

theorem cellsOf_length (l : List UInt8) : (cellsOf l).length = l.length := by simp [cellsOf]

theorem cellsOf_append (a b : List UInt8) : cellsOf (a ++ b) = cellsOf a ++ cellsOf b := by simp [cellsOf]

def varL (n : Nat) : List UInt8 := if h : n > 127 then UInt8.ofNat (n % 128 + 128) :: varL (n / 128) else [UInt8.ofNat n]

def hiB (m : Nat) : UInt8 := UInt8.ofNat (m % 128 + 128)

def loB (m : Nat) : UInt8 := UInt8.ofNat m

theorem byte_hi (m : Nat) : ((m : Int) % 128 + 128) = ((hiB m).toNat : Int) := by simp [hiB]; omega

theorem byte_lo (m : Nat) (h : m ≤ 127) : (m : Int) = ((loB m).toNat : Int) := by simp [loB]; omega

theorem varL_big {n : Nat} (h : 127 < n) : varL n = hiB n :: varL (n / 128) := by rw [varL]; simp [h, hiB]

theorem varL_small {n : Nat} (h : n ≤ 127) : varL n = [loB n] := by rw [varL]; simp [loB]; omega

theorem one_byte (x : Int) (b : UInt8) (h : x = (b.toNat : Int)) : [Value.int .u8 x] = cellsOf [b] := by simp [cellsOf, h]

/-- 'string(out)' of a row that the call itself made, its cells the bytes l. -/
theorem run_str_own {P : Program} {w : World} {base : Nat} {v : Value} {l : List UInt8} {n : Nat} (src dst e : TypeId) (hs : P.underlying src = some (.slice e)) (he : P.underlying e = some (.int .u8)) (hd : P.underlying dst = some .string)
    (hown : w.ownsRow base e 1 v n (cellsOf l)) : (convert src dst v).run P w = .ok (.string (bs l)) w := by
  have hl : l.length = n := by have := hown.1; simpa [cellsOf_length] using this
  subst hl
  rcases hown.2 with ⟨rfl, hn⟩ | ⟨g, cap, cur, rfl, hb, hg, hnc, hcm, hcs, htk⟩
  · have : l = [] := List.length_eq_zero_iff.1 hn
    subst this
    rw [run_convert_bytes_string w src dst e none 0 0 hs he hd]
    simp [Conv.bytesToString, bs, Sem.run_pure]
    rfl
  · exact run_convert_bytes_back w src dst e ⟨g, 0, none⟩ cap l hs he hd (fun j hj => by
      have := hown.cellAt j (by omega)
      have e1 : (⟨g, 0, none⟩ : Addr).add j = ⟨g, j, none⟩ := by
        simp only [Addr.add, Nat.zero_add]
        split <;> simp_all
      rw [e1, this]
      simp [cellsOf, List.getElem?_eq_getElem hj])

/-- The same as one step of a region that draws its order. -/
theorem step_append_bytes {P : Program} {ops : Array Oper} {o : Oper} {a : Act} {w : World} {K : Act → World → Prop} {Q : Exit → Act → World → Prop} {E : Prop} (hgd : o.guard = none) (s x : Operand) (t : TypeId)
    (ho : o.op = .call { callee := .builtin .append, args := #[s, x], argTypes := #[t, t] }) (base : Nat) (e : TypeId) (ht : P.underlying t = some (.slice e))
    (hinfo : (P.info? e).map (fun i => (i.zero, i.size, i.bytes)) = some (some (.int .u8 0), 1, 1))
    (v : Value) (l nb : List UInt8) (hs : a.eval s = v) (hown : w.ownsRow base e 1 v l.length (cellsOf l))
    (ad : Addr) (c : Nat) (hx : a.eval x = .slice (some ad) nb.length c) (hnews : ∀ j (h : j < nb.length), w.cell? (ad.add j) = some (.int .u8 (nb[j].toNat : Int)))
    (hlen : l.length + nb.length ≤ 100000000000) (hbase : base ≤ w.heap.size)
    (h : ∀ v' w' l', Hid (l' = l ++ nb) → w'.ownsRow base e 1 v' l'.length (cellsOf l') → w.grownBy w' v.ownBlock → K (a.put o.dst v') w') :
    if Region.wanted o (yielded ops a.tmps) = true then Oper.wp P o a w K Q else E := by
  have hw : Region.wanted o (yielded ops a.tmps) = true := by simp [Region.wanted, hgd]
  rw [if_pos hw]
  obtain ⟨i0, hi, hz0, hz1, hz2⟩ := info_parts hinfo
  refine wp_append_own w s x t ho base e i0 (.int .u8 0) 1 1 ht hi hz0 hz1 hz2 rfl (by decide) v l.length (cellsOf l) hs hown ad nb.length c (cellsOf nb) hx (by simp [cellsOf]) ?_ ?_ (by unfold maxLen; omega) (by omega) hbase ?_
  · intro j u hj
    have hj' : j < nb.length := by have := (List.getElem?_eq_some_iff.1 hj).1; simpa [cellsOf] using this
    rw [hnews j hj']
    simpa [cellsOf, List.getElem?_eq_getElem hj'] using hj
  · intro u hu
    simp only [cellsOf, List.mem_map] at hu
    obtain ⟨b, _, rfl⟩ := hu
    rfl
  · intro v' w' h1 h2 _
    rw [← cellsOf_append, ← List.length_append] at h1
    exact h v' w' _ rfl h1 h2

/-- 'append(out, b1, ..)' of bytes, out a row that the call itself made. -/
theorem wpList_append_bytes {P : Program} (w : World) {ops : Array Oper} {rest : List Oper} {o : Oper} {a : Act} {Q : Exit → Act → World → Prop} (hgd : o.guard = none) (s x : Operand) (t : TypeId)
    (ho : o.op = .call { callee := .builtin .append, args := #[s, x], argTypes := #[t, t] }) (base : Nat) (e : TypeId) (ht : P.underlying t = some (.slice e))
    (hinfo : (P.info? e).map (fun i => (i.zero, i.size, i.bytes)) = some (some (.int .u8 0), 1, 1))
    (v : Value) (l nb : List UInt8) (hs : a.eval s = v) (hown : w.ownsRow base e 1 v l.length (cellsOf l))
    (ad : Addr) (c : Nat) (hx : a.eval x = .slice (some ad) nb.length c) (hnews : ∀ j (h : j < nb.length), w.cell? (ad.add j) = some (.int .u8 (nb[j].toNat : Int)))
    (hlen : l.length + nb.length ≤ 100000000000) (hbase : base ≤ w.heap.size)
    (h : ∀ v' w' l', Hid (l' = l ++ nb) → w'.ownsRow base e 1 v' l'.length (cellsOf l') → w.grownBy w' v.ownBlock → wpList P ops Q rest (a.put o.dst v') w') : wpList P ops Q (o :: rest) a w := by
  obtain ⟨i0, hi, hz0, hz1, hz2⟩ := info_parts hinfo
  refine wpList_append_own w hgd s x t ho base e i0 (.int .u8 0) 1 1 ht hi hz0 hz1 hz2 rfl (by decide) v l.length (cellsOf l) hs hown ad nb.length c (cellsOf nb) hx (by simp [cellsOf]) ?_ ?_ (by unfold maxLen; omega) (by omega) hbase ?_
  · intro j u hj
    have hj' : j < nb.length := by have := (List.getElem?_eq_some_iff.1 hj).1; simpa [cellsOf] using this
    rw [hnews j hj']
    simpa [cellsOf, List.getElem?_eq_getElem hj'] using hj
  · intro u hu
    simp only [cellsOf, List.mem_map] at hu
    obtain ⟨b, _, rfl⟩ := hu
    rfl
  · intro v' w' h1 h2 _
    rw [← cellsOf_append, ← List.length_append] at h1
    exact h v' w' _ rfl h1 h2

theorem add_zero' (b o : Nat) : (⟨b, o, none⟩ : Addr).add 0 = ⟨b, o, none⟩ := rfl

/-- the one new cell of 'append(out, x)' -/
theorem news_one {w : World} (y : Int) (b : UInt8) (t : TypeId) (h : y = (b.toNat : Int)) : ∀ j (_ : j < [b].length), (w.alloc (.cells #[.int .u8 y] t)).cell? ((⟨w.heap.size, 0, none⟩ : Addr).add j) = some (.int .u8 ([b][j].toNat : Int)) := by
  intro j hj
  have : j = 0 := by simpa using hj
  subst this
  rw [add_zero', World.cell?_alloc_at _ _ _ _ rfl, h]
  rfl

theorem wrap_fit (x : Int) (h0 : -1000000000000000000 ≤ x) (h1 : x ≤ 1000000000000000000) : IntKind.i64.wrap x = x := by
  simp only [IntKind.wrap, IntKind.signed, IntKind.bits]
  simp
  omega

theorem idx_str {P : Program} {t : TypeId} (hu : P.underlying t = some .string) (s : ByteArray) (q c : Nat) (hq : q < s.size) (hc : c = s[q].toNat) (w : World) :
    (Instr.index t (.string s) (.int .i64 (q : Int))).run P w = .ok (.int .u8 (c : Int)) w := by
  rw [hc]; simp [go_sem, hq, hu]

theorem sl_str {P : Program} {t : TypeId} (hu : P.underlying t = some .string) (s u : ByteArray) (i j : Int) (h0 : 0 ≤ i) (h1 : i ≤ j) (h2 : j ≤ s.size) (he : u = s.extract i.toNat j.toNat) (w : World) :
    (Instr.slice t (.string s) (some (.int .i64 i)) (some (.int .i64 j)) none).run P w = .ok (.string u) w := by
  rw [he, run_slice_string w t s .i64 .i64 i j hu h0 h1 h2]

/-- what an append leaves of old memory -/
theorem below_append {B : Nat} {w0 w w' : World} {v : Value} {base : Nat} {e : TypeId} {n : Nat} {xs : List Value} (o : Obj) (h : Below B w0 w) (hown : w.ownsRow base e 1 v n xs) (hB : B ≤ base) (hBw : B ≤ w.heap.size) (hg : (w.alloc o).grownBy w' v.ownBlock) : Below B w0 w' :=
  (h.alloc hBw o).grown hg (by simp; omega) (fun k hk => Nat.le_trans hB (hown.lt k hk).1)

end Go.Proofs.YtchmmekhfcojgaaGreatDoor
namespace Go.Proofs.YtchmmekhfcojgaaGreatDoor
open Go.RowKit

theorem Tryz.info5 : (Tryz.prog.info? 5).map (fun i => (i.zero, i.size, i.bytes)) = some (some (.int .u8 0), 1, 1) := by kernel_rfl
end Go.Proofs.YtchmmekhfcojgaaGreatDoor
namespace Go.Proofs.YtchmmekhfcojgaaGreatDoor
open Go.RowKit

theorem owns_below {w w' : World} {base B : Nat} {e : TypeId} {size : Nat} {v : Value} {n : Nat} {xs : List Value} (h : w.ownsRow base e size v n xs) (hb : Below B w w') (hB : w.heap.size ≤ B) : w'.ownsRow base e size v n xs := by
  refine ⟨h.1, ?_⟩
  rcases h.2 with h2 | ⟨g, cap, cur, hv, hg, hh, r⟩
  · exact .inl h2
  · have hlt : g < w.heap.size := by
      rcases Nat.lt_or_ge g w.heap.size with hl | hl
      · exact hl
      · rw [Array.getElem?_eq_none hl] at hh; cases hh
    exact .inr ⟨g, cap, cur, hv, hg, by rw [hb.block g (by omega)]; exact hh, r⟩

theorem owns_shape {w : World} {base : Nat} {e : TypeId} {v : Value} {n : Nat} {xs : List Value} (h : w.ownsRow base e 1 v n xs) (hn : 0 < n) :
    ∃ g cap, v = .slice (some ⟨g, 0, none⟩) n cap ∧ base ≤ g ∧ g < w.heap.size := by
  rcases h.2 with ⟨_, h0⟩ | ⟨g, cap, cur, hv, hb, hg, _⟩
  · omega
  · refine ⟨g, cap, hv, hb, ?_⟩
    rcases Nat.lt_or_ge g w.heap.size with hlt | hge
    · exact hlt
    · rw [Array.getElem?_eq_none hge] at hg; cases hg

theorem owns_len {w : World} {base : Nat} {e : TypeId} {v : Value} {n : Nat} {xs : List Value} (h : w.ownsRow base e 1 v n xs) : ∃ a cap, v = .slice a n cap := by
  rcases h.2 with ⟨h1, h0⟩ | ⟨g, cap, cur, hv, _⟩
  · exact ⟨none, 0, by rw [h1, h0]⟩
  · exact ⟨_, cap, hv⟩

theorem owns_lenS {w : World} {base size : Nat} {e : TypeId} {v : Value} {n : Nat} {xs : List Value} (h : w.ownsRow base e size v n xs) : ∃ a cap, v = .slice a n cap := by
  rcases h.2 with ⟨h1, h0⟩ | ⟨g, cap, cur, hv, _⟩
  · exact ⟨none, 0, by rw [h1, h0]⟩
  · exact ⟨_, cap, hv⟩

theorem owns_baseS {w : World} {b0 b1 size : Nat} {e : TypeId} {v : Value} {n : Nat} {xs : List Value} (h : w.ownsRow b1 e size v n xs) (hb : b0 ≤ b1) : w.ownsRow b0 e size v n xs := by
  refine ⟨h.1, ?_⟩
  rcases h.2 with h2 | ⟨g, cap, cur, hv, hg, r⟩
  · exact .inl h2
  · exact .inr ⟨g, cap, cur, hv, Nat.le_trans hb hg, r⟩

/-- a row stays where another block is written -/
theorem owns_set {w : World} {base size p j : Nat} {e : TypeId} {v u : Value} {n : Nat} {xs : List Value} (h : w.ownsRow base e size v n xs) (hp : p < base) : (w.setCell ⟨p, j, none⟩ u).ownsRow base e size v n xs := by
  refine ⟨h.1, ?_⟩
  rcases h.2 with h2 | ⟨g, cap, cur, hv, hg, hh, r⟩
  · exact .inl h2
  · exact .inr ⟨g, cap, cur, hv, hg, by rw [heap_setCell_other w ⟨p, j, none⟩ g _ (by show g ≠ p; omega)]; exact hh, r⟩

theorem owns_base {w : World} {b0 b1 : Nat} {e : TypeId} {v : Value} {n : Nat} {xs : List Value} (h : w.ownsRow b1 e 1 v n xs) (hb : b0 ≤ b1) : w.ownsRow b0 e 1 v n xs := by
  refine ⟨h.1, ?_⟩
  rcases h.2 with h2 | ⟨g, cap, cur, hv, hg, r⟩
  · exact .inl h2
  · exact .inr ⟨g, cap, cur, hv, Nat.le_trans hb hg, r⟩

theorem cells_at {w : World} {p : Nat} {C : Array Value} {t : TypeId} (h : w.heap[p]? = some (.cells C t (0, 0))) (j : Nat) : w.cell? ⟨p, j, none⟩ = C[j]? := by
  simp [World.cell?, h]

theorem frozen_at {w : World} {p : Nat} {C : Array Value} {t : TypeId} (h : w.heap[p]? = some (.cells C t (0, 0))) (j : Nat) : w.frozen? ⟨p, j, none⟩ = false := by
  simp [World.frozen?, h]

theorem grown_set (w : World) (p j : Nat) (v : Value) : w.grownBy (w.setCell ⟨p, j, none⟩ v) (some p) := ⟨rfl, rfl, rfl, by simp, fun k _ hk => heap_setCell_other w ⟨p, j, none⟩ k _ (fun e => hk (by simp [e]))⟩

theorem grown_drewN (w : World) (n : Nat) (row : Option Nat) : w.grownBy (w.drewN n) row := ⟨rfl, rfl, rfl, Nat.le_refl _, fun _ _ _ => rfl⟩

theorem grown_trans {a b c : World} {row : Option Nat} (h : a.grownBy b row) (k : b.grownBy c row) : a.grownBy c row :=
  ⟨k.os.trans h.os, k.tape.trans h.tape, k.output.trans h.output, Nat.le_trans h.size k.size, fun i hi hr => (k.block i (Nat.lt_of_lt_of_le hi h.size) hr).trans (h.block i hi hr)⟩

theorem lt_of_heap {w : World} {p : Nat} {o : Obj} (h : w.heap[p]? = some o) : p < w.heap.size := by
  rcases Nat.lt_or_ge p w.heap.size with hl | hl
  · exact hl
  · rw [Array.getElem?_eq_none hl] at h; cases h
end Go.Proofs.YtchmmekhfcojgaaGreatDoor
namespace Go.Proofs.YtchmmekhfcojgaaGreatDoor
open Go.RowKit

def flat {α : Type} (enc : α → List Value) (xs : List α) : List Value := xs.flatMap enc

section
variable {α : Type} {enc : α → List Value} {sz : Nat}

theorem flat_cons (x : α) (xs : List α) : flat enc (x :: xs) = enc x ++ flat enc xs := rfl

theorem flat_len (h : ∀ a, (enc a).length = sz) (xs : List α) : (flat enc xs).length = xs.length * sz := by
  induction xs with
  | nil => simp [flat]
  | cons x xs ih => rw [flat_cons, List.length_append, h, ih, List.length_cons, Nat.add_mul, Nat.one_mul, Nat.add_comm]

theorem flat_get (h : ∀ a, (enc a).length = sz) : ∀ (xs : List α) (i r : Nat) (x : α), xs[i]? = some x → r < sz → (flat enc xs)[i * sz + r]? = (enc x)[r]?
  | [], i, r, x, hx, _ => by simp at hx
  | y :: ys, 0, r, x, hx, hr => by
    simp at hx
    subst hx
    rw [flat_cons, Nat.zero_mul, Nat.zero_add, List.getElem?_append_left (by rw [h]; exact hr)]
  | y :: ys, i + 1, r, x, hx, hr => by
    have e : (i + 1) * sz + r = sz + (i * sz + r) := by rw [Nat.add_mul, Nat.one_mul]; omega
    rw [flat_cons, List.getElem?_append_right (by rw [h, e]; omega), h, e, Nat.add_sub_cancel_left]
    exact flat_get h ys i r x (by simpa using hx) hr

/-- cells laid one behind another, from off on -/
def setL : List Value → Nat → List Value → List Value
  | xs, _, [] => xs
  | xs, off, v :: vs => setL (xs.set off v) (off + 1) vs

theorem setL_append (a b : List Value) : ∀ (off : Nat) (vs : List Value), setL (a ++ b) (a.length + off) vs = a ++ setL b off vs
  | _, [] => rfl
  | off, v :: vs => by
    unfold setL
    rw [List.set_append_right _ _ (by omega), Nat.add_sub_cancel_left]
    exact setL_append a (b.set off v) (off + 1) vs

theorem setL_head : ∀ (vs b c : List Value), b.length = vs.length → setL (b ++ c) 0 vs = vs ++ c
  | [], b, c, h => by
    have : b = [] := List.length_eq_zero_iff.1 (by simpa using h)
    subst this
    rfl
  | v :: vs, [], c, h => by simp at h
  | v :: vs, x :: b, c, h => by
    have h2 : setL ([v] ++ (b ++ c)) ([v].length + 0) vs = [v] ++ setL (b ++ c) 0 vs := setL_append [v] (b ++ c) 0 vs
    unfold setL
    simp only [List.cons_append, List.set_cons_zero]
    simp only [List.cons_append, List.nil_append, List.length_cons, List.length_nil, Nat.add_zero] at h2
    rw [Nat.zero_add, h2, setL_head vs b c (by simpa using h)]

theorem flat_set (h : ∀ a, (enc a).length = sz) : ∀ (xs : List α) (k : Nat) (x : α), k < xs.length → setL (flat enc xs) (k * sz) (enc x) = flat enc (xs.set k x)
  | [], k, x, hk => by simp at hk
  | y :: ys, 0, x, _ => by
    rw [Nat.zero_mul, flat_cons, setL_head _ _ _ (by rw [h, h]), List.set_cons_zero, flat_cons]
  | y :: ys, k + 1, x, hk => by
    have e : (k + 1) * sz = (enc y).length + k * sz := by rw [h, Nat.add_mul, Nat.one_mul, Nat.add_comm]
    rw [flat_cons, e, setL_append, flat_set h ys k x (by simpa using hk), List.set_cons_succ, flat_cons]
end

/-- the slice v has n elements of sz cells; cell j (of n * sz) holds f j; all lie in a block below B -/
def RowAt (W : World) (v : Value) (n sz : Nat) (f : Nat → Value) (B : Nat) : Prop :=
  ∃ a cap, v = .slice a n cap ∧ (n = 0 ∨ ∃ b off, a = some ⟨b, off, none⟩ ∧ b < B ∧ ∀ j, j < n * sz → W.cell? ⟨b, off + j, none⟩ = some (f j))

theorem RowAt.later {W W' : World} {v : Value} {n sz : Nat} {f : Nat → Value} {B C : Nat} (h : RowAt W v n sz f B) (hb : Below C W W') (hBC : B ≤ C) : RowAt W' v n sz f B := by
  obtain ⟨a, cap, hv, h2⟩ := h
  refine ⟨a, cap, hv, ?_⟩
  rcases h2 with h0 | ⟨b, off, ha, hb1, hx⟩
  · exact .inl h0
  · exact .inr ⟨b, off, ha, hb1, fun j hj => by rw [hb.cell (p := ⟨b, off + j, none⟩) (by show b < C; omega)]; exact hx j hj⟩

theorem RowAt.more {W : World} {v : Value} {n sz : Nat} {f : Nat → Value} {B C : Nat} (h : RowAt W v n sz f B) (hBC : B ≤ C) : RowAt W v n sz f C := by
  obtain ⟨a, cap, hv, h2⟩ := h
  refine ⟨a, cap, hv, ?_⟩
  rcases h2 with h0 | ⟨b, off, ha, hb1, hx⟩
  · exact .inl h0
  · exact .inr ⟨b, off, ha, by omega, hx⟩

/-- the same row in a later world, all of it below that world's end -/
theorem RowAt.then {W W' : World} {v : Value} {n sz : Nat} {f : Nat → Value} (h : RowAt W v n sz f W.heap.size) (hb : Below W.heap.size W W') : RowAt W' v n sz f W'.heap.size := (h.later hb (Nat.le_refl _)).more hb.size

/-- a row of structs: the cells of its elements -/
def StructsAt {α : Type} (enc : α → List Value) (sz : Nat) (W : World) (v : Value) (xs : List α) (B : Nat) : Prop := RowAt W v xs.length sz (fun j => (flat enc xs).getD j undef) B

section
variable {α : Type} {enc : α → List Value} {sz : Nat}

theorem StructsAt.cell {W : World} {v : Value} {xs : List α} {B : Nat} (h : StructsAt enc sz W v xs B) (hs : ∀ a, (enc a).length = sz) (i : Nat) (x : α) (hx : xs[i]? = some x) :
    ∃ b off cap, v = .slice (some ⟨b, off, none⟩) xs.length cap ∧ b < B ∧ ∀ r u, (enc x)[r]? = some u → W.cell? ⟨b, off + i * sz + r, none⟩ = some u := by
  have hi : i < xs.length := (List.getElem?_eq_some_iff.1 hx).1
  obtain ⟨a, cap, hv, h2⟩ := h
  rcases h2 with h0 | ⟨b, off, ha, hb, hc⟩
  · omega
  · refine ⟨b, off, cap, by rw [hv, ha], hb, fun r u hu => ?_⟩
    have hr : r < sz := by have := (List.getElem?_eq_some_iff.1 hu).1; rw [hs] at this; exact this
    have hg := flat_get hs xs i r x hx hr
    have hlt : i * sz + r < xs.length * sz := by
      have : (i + 1) * sz ≤ xs.length * sz := Nat.mul_le_mul_right _ hi
      rw [Nat.add_mul, Nat.one_mul] at this
      omega
    rw [Nat.add_assoc, hc _ hlt]
    simp only [List.getD_eq_getElem?_getD, hg, hu]
    rfl

theorem owns_rowAt {W : World} {base : Nat} {e : TypeId} {v : Value} {xs : List α} (h : W.ownsRow base e sz v xs.length (flat enc xs)) : StructsAt enc sz W v xs W.heap.size := by
  rcases h.2 with ⟨hv, h0⟩ | ⟨g, cap, cur, hv, hg, hh, hnc, hcm, hcs, htk⟩
  · exact ⟨none, 0, by rw [hv, h0], .inl h0⟩
  · have hlt : g < W.heap.size := by
      rcases Nat.lt_or_ge g W.heap.size with hl | hl
      · exact hl
      · rw [Array.getElem?_eq_none hl] at hh; cases hh
    refine ⟨_, cap, hv, .inr ⟨g, 0, rfl, hlt, fun j hj => ?_⟩⟩
    rw [Nat.zero_add]
    simp only [World.cell?, hh]
    have hj2 : j < cur.size := by
      have : xs.length * sz ≤ cap * sz := Nat.mul_le_mul_right _ hnc
      omega
    have e1 : (flat enc xs)[j]? = cur.toList[j]? := by rw [← htk, List.getElem?_take_of_lt hj]
    simp [List.getD, e1, hj2]
end
end Go.Proofs.YtchmmekhfcojgaaGreatDoor
namespace Go.Proofs.YtchmmekhfcojgaaGreatDoor
open Go.RowKit

theorem ret_bool_no {p : Prop} [Decidable p] (h : ¬ p) : Ending.returned (.bool false) = .returned (.bool (decide p)) := by rw [decide_eq_false h]

theorem ret_bool_yes {p : Prop} [Decidable p] (h : p) : Ending.returned (.bool true) = .returned (.bool (decide p)) := by rw [decide_eq_true h]

theorem below_two {w : World} (o1 o2 : Obj) : Below w.heap.size w ((w.alloc o1).alloc o2) := ((Below.refl _ _).alloc (Nat.le_refl _) _).alloc (by simp) _

theorem below_three {w : World} (o1 o2 o3 : Obj) : Below w.heap.size w (((w.alloc o1).alloc o2).alloc o3) := (below_two o1 o2).alloc (by simp; omega) _

/-- k of them copied -/
def part {α : Type} (xs : List α) (z : α) (k : Nat) : List α := xs.take k ++ List.replicate (xs.length - k) z

theorem eq_all {α : Type} {xs ys : List α} (hl : xs.length = ys.length) (h : ∀ j, j < xs.length → xs[j]? = ys[j]?) : xs = ys := by
  apply List.ext_getElem?
  intro i
  by_cases hi : i < xs.length
  · exact h i hi
  · rw [List.getElem?_eq_none (by omega), List.getElem?_eq_none (by omega)]

theorem heap3_0 (w : World) (a b c : Obj) : (((w.alloc a).alloc b).alloc c).heap[w.heap.size]? = some a := by
  rw [Below.heap_alloc _ _ _ (by simp; omega), Below.heap_alloc _ _ _ (by simp), heap_alloc_new]

theorem heap3_1 (w : World) (a b c : Obj) : (((w.alloc a).alloc b).alloc c).heap[w.heap.size + 1]? = some b := by
  rw [Below.heap_alloc _ _ _ (by simp)]
  have := heap_alloc_new (w.alloc a) b
  simpa using this

theorem heap3_2 (w : World) (a b c : Obj) : (((w.alloc a).alloc b).alloc c).heap[w.heap.size + 1 + 1]? = some c := by
  have := heap_alloc_new ((w.alloc a).alloc b) c
  simpa using this

theorem ret_bool {a b : Bool} (h : b = a) : Ending.returned (.bool a) = .returned (.bool b) := by rw [h]
end Go.Proofs.YtchmmekhfcojgaaGreatDoor
namespace Go.Proofs.YtchmmekhfcojgaaGreatDoor
open Go.RowKit

structure Nr where
  to : Int
  c : Int
  deriving DecidableEq

instance : Inhabited Nr := ⟨⟨0, 0⟩⟩

def nrV (l : Nr) : Value := .agg #[.int .i64 l.to, .int .i64 l.c]

def nrE (l : Nr) : List Value := [.int .i64 l.to, .int .i64 l.c]

theorem nrE_len (l : Nr) : (nrE l).length = 2 := rfl

def NearsAt (W : World) (v : Value) (ls : List Nr) (B : Nat) : Prop := StructsAt nrE 2 W v ls B

theorem NearsAt.then {W W' : World} {v : Value} {ls : List Nr} (h : NearsAt W v ls W.heap.size) (hb : Below W.heap.size W W') : NearsAt W' v ls W'.heap.size := RowAt.then h hb

theorem NearsAt.shape {W : World} {v : Value} {ls : List Nr} {B : Nat} (h : NearsAt W v ls B) : ∃ a cap, v = .slice a ls.length cap := by obtain ⟨a, cap, h, _⟩ := h; exact ⟨a, cap, h⟩

theorem NearsAt.cells {W : World} {v : Value} {ls : List Nr} {B : Nat} (h : NearsAt W v ls B) (i : Nat) (l : Nr) (hl : ls[i]? = some l) :
    ∃ b off cap, v = .slice (some ⟨b, off, none⟩) ls.length cap ∧ b < B ∧ W.cell? ⟨b, off + i * 2, none⟩ = some (.int .i64 l.to) ∧ W.cell? ⟨b, off + i * 2 + 1, none⟩ = some (.int .i64 l.c) := by
  obtain ⟨b, off, cap, hv, hb, hc⟩ := StructsAt.cell h nrE_len i l hl
  exact ⟨b, off, cap, hv, hb, hc 0 _ rfl, hc 1 _ rfl⟩

def nr0 : Nr := ⟨0, 0⟩

theorem Tryz.infoNr : (Tryz.prog.info? 100).map (fun i => (i.zero, i.size, i.bytes)) = some (some (nrV nr0), 2, 16) := by kernel_rfl

end Go.Proofs.YtchmmekhfcojgaaGreatDoor
namespace Go.Proofs.YtchmmekhfcojgaaGreatDoor
open Go.RowKit

structure RecD where
  area : Int
  kind : Int
  owner : Int
  key : Int
  seq : Int
  near : List Nr
  cost : Int
  far : Bool
  deriving DecidableEq

def recC (x : RecD) (v : Value) : Array Value := #[.int .i64 x.area, .int .i64 x.kind, .int .i64 x.owner, .int .i64 x.key, .int .i64 x.seq, v, .int .i64 x.cost, .bool x.far]

/-- the value v is the record x, whose row lies below B -/
def RecAt (W : World) (v : Value) (x : RecD) (B : Nat) : Prop := ∃ v1, v = .agg (recC x v1) ∧ NearsAt W v1 x.near B

theorem RecAt.then {W W' : World} {v : Value} {x : RecD} (h : RecAt W v x W.heap.size) (hb : Below W.heap.size W W') : RecAt W' v x W'.heap.size := by
  obtain ⟨v1, hv, h1⟩ := h
  exact ⟨v1, hv, h1.then hb⟩

end Go.Proofs.YtchmmekhfcojgaaGreatDoor
namespace Go.Proofs.YtchmmekhfcojgaaGreatDoor
open Go.RowKit

def mk (q : Int) (i : Nat) : Nr := ⟨q + 2 * (i : Int), q + 2 * (i : Int) + 1⟩

theorem own_cell {w : World} {base size g cap : Nat} {e : TypeId} {n : Nat} {xs : List Value} (h : w.ownsRow base e size (.slice (some ⟨g, 0, none⟩) n cap) n xs) (j : Nat) (hj : j < n * size) : ∃ u, w.cell? ⟨g, j, none⟩ = some u := by
  rw [h.cellAt j hj]
  have hl : j < xs.length := by rw [h.1]; exact hj
  exact ⟨_, List.getElem?_eq_getElem hl⟩

theorem grown_refl (w : World) (r : Option Nat) : w.grownBy w r := ⟨rfl, rfl, rfl, Nat.le_refl _, fun _ _ _ => rfl⟩

theorem ret_int1 {a b : Int} (h : a = b) : Ending.returned (.int .i64 a) = .returned (.int .i64 b) := by rw [h]

end Go.Proofs.YtchmmekhfcojgaaGreatDoor
namespace Go.Proofs.YtchmmekhfcojgaaGreatDoor
open Go.RowKit

theorem flat_append {α : Type} {enc : α → List Value} (xs ys : List α) : flat enc (xs ++ ys) = flat enc xs ++ flat enc ys := by simp [flat]

theorem wpList_append_struct {α : Type} {enc : α → List Value} {sz bytes : Nat} (hlen : ∀ a, (enc a).length = sz) (hpos : 0 < sz) (hone : ∀ a, ∀ u ∈ enc a, u.oneCell' = true) (hbb : bytes ≤ 100) {P : Program} (w : World) {ops : Array Oper} {rest : List Oper} {o : Oper} {a : Act} {Q : Exit → Act → World → Prop} (hgd : o.guard = none) (s x : Operand) (t : TypeId)
    (ho : o.op = .call { callee := .builtin .append, args := #[s, x], argTypes := #[t, t] }) (base : Nat) (e : TypeId) (ht : P.underlying t = some (.slice e)) (zv : Value) (hzv : zv.cells.size = sz)
    (hinfo : (P.info? e).map (fun i => (i.zero, i.size, i.bytes)) = some (some zv, sz, bytes))
    (v : Value) (l : List α) (y : α) (hs : a.eval s = v) (hown : w.ownsRow base e sz v l.length (flat enc l))
    (ad : Addr) (c : Nat) (hx : a.eval x = .slice (some ad) 1 c) (hnews : ∀ j u, (enc y)[j]? = some u → w.cell? (ad.add j) = some u)
    (hl : l.length + 1 ≤ 1000000000) (hbase : base ≤ w.heap.size)
    (h : ∀ v' w' l', Hid (l' = l ++ [y]) → w'.ownsRow base e sz v' l'.length (flat enc l') → w.grownBy w' v.ownBlock → wpList P ops Q rest (a.put o.dst v') w') : wpList P ops Q (o :: rest) a w := by
  obtain ⟨i0, hi, hz0, hz1, hz2⟩ := info_parts hinfo
  refine wpList_append_own w hgd s x t ho base e i0 zv sz bytes ht hi hz0 hz1 hz2 hzv hpos v l.length (flat enc l) hs hown ad 1 c (enc y) hx (by rw [hlen]; omega) hnews (hone y) (by unfold maxLen; omega) ?_ hbase ?_
  · have : (l.length + 1) * bytes ≤ 1000000000 * 100 := Nat.mul_le_mul hl hbb
    omega
  · intro v' w' h1 h2 _
    have e1 : flat enc l ++ enc y = flat enc (l ++ [y]) := by rw [flat_append]; simp [flat]
    rw [e1] at h1
    exact h v' w' (l ++ [y]) rfl (by simpa using h1) h2

theorem news_struct {w : World} {cs : List Value} {t : TypeId} : ∀ (j : Nat) (u : Value), cs[j]? = some u → (w.alloc (.cells cs.toArray t)).cell? ((⟨w.heap.size, 0, none⟩ : Addr).add j) = some u := by
  intro j u hj
  have e : (⟨w.heap.size, 0, none⟩ : Addr).add j = ⟨w.heap.size, j, none⟩ := by
    simp only [Addr.add]
    split <;> simp_all
  rw [e, World.cell?_alloc_at _ _ _ _ rfl]
  simpa using hj
end Go.Proofs.YtchmmekhfcojgaaGreatDoor
