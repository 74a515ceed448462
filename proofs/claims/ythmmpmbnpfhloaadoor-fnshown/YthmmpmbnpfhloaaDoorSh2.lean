/-
  Rows whose elements are structs: their cells one behind another.
  Rows of ints that a call made.
  impl.isIn, cmp.isNaN, cmp.Compare: their contracts.
  What slices.SortFunc leaves, in general (cut out of OrdQ and SortQ).
  The cursor of a draw: spec.l01Byte, l01Below, l01Once: some number in its range comes back; nothing but the cursor's own block turns.
  spec.Decimal: its contract at every int.
  What rows of structs and struct results want, of no function.
  Rows of truths.
  Rows of a known number of cells, told by a function.
  slices.Sort and slices.Compact of a row of the call's own; what they make of it.
  spec.l01Below: some answer in its range.
  A cursor beside an append (cut out of CurT and DrawRight).
  impl.Decimal: its contract; the law's walk.
-/
import Derived.Test.YthmmpmbnpfhloaaDoorSh1
import Derived.Shelf.SlSortCmp.WholeK
import Derived.Handy
import Derived.Deep.OwnRows
import Derived.Lib.OwnBridge
import Derived.Sort.OwnSortedInts
import Derived.Lib.AppendIntMem
import Derived.Stop.LaidErr
import Derived.MakeChecks
namespace Go.Proofs.YthmmpmbnpfhloaaDoor
open Go.RowKit

def flat {α : Type} (enc : α → List Value) (xs : List α) : List Value := xs.flatMap enc

section
variable {α : Type} {enc : α → List Value} {sz : Nat}

theorem flat_cons (x : α) (xs : List α) : flat enc (x :: xs) = enc x ++ flat enc xs := rfl

theorem flat_len (h : ∀ a, (enc a).length = sz) (xs : List α) : (flat enc xs).length = xs.length * sz := by
  induction xs with
  | nil => simp [flat]
  | cons x xs ih => rw [flat_cons, List.length_append, h, ih, List.length_cons, Nat.add_mul, Nat.one_mul, Nat.add_comm]

theorem flat_get (h : ∀ a, (enc a).length = sz) : ∀ (xs : List α) (i r : Nat) (x : α), xs[i]? = some x → r < sz → (flat enc xs)[i * sz + r]? = (enc x)[r]?
  | [], i, r, x, hx, _ => by simp at hx
  | y :: ys, 0, r, x, hx, hr => by
    simp at hx
    subst hx
    rw [flat_cons, Nat.zero_mul, Nat.zero_add, List.getElem?_append_left (by rw [h]; exact hr)]
  | y :: ys, i + 1, r, x, hx, hr => by
    have e : (i + 1) * sz + r = sz + (i * sz + r) := by rw [Nat.add_mul, Nat.one_mul]; omega
    rw [flat_cons, List.getElem?_append_right (by rw [h, e]; omega), h, e, Nat.add_sub_cancel_left]
    exact flat_get h ys i r x (by simpa using hx) hr

end

/-- the slice v has n elements of sz cells; cell j (of n * sz) holds f j; all lie in a block below B -/
def RowAt (W : World) (v : Value) (n sz : Nat) (f : Nat → Value) (B : Nat) : Prop :=
  ∃ a cap, v = .slice a n cap ∧ (n = 0 ∨ ∃ b off, a = some ⟨b, off, none⟩ ∧ b < B ∧ ∀ j, j < n * sz → W.cell? ⟨b, off + j, none⟩ = some (f j))

theorem RowAt.later {W W' : World} {v : Value} {n sz : Nat} {f : Nat → Value} {B C : Nat} (h : RowAt W v n sz f B) (hb : Below C W W') (hBC : B ≤ C) : RowAt W' v n sz f B := by
  obtain ⟨a, cap, hv, h2⟩ := h
  refine ⟨a, cap, hv, ?_⟩
  rcases h2 with h0 | ⟨b, off, ha, hb1, hx⟩
  · exact .inl h0
  · exact .inr ⟨b, off, ha, hb1, fun j hj => by rw [hb.cell (p := ⟨b, off + j, none⟩) (by show b < C; omega)]; exact hx j hj⟩

theorem RowAt.more {W : World} {v : Value} {n sz : Nat} {f : Nat → Value} {B C : Nat} (h : RowAt W v n sz f B) (hBC : B ≤ C) : RowAt W v n sz f C := by
  obtain ⟨a, cap, hv, h2⟩ := h
  refine ⟨a, cap, hv, ?_⟩
  rcases h2 with h0 | ⟨b, off, ha, hb1, hx⟩
  · exact .inl h0
  · exact .inr ⟨b, off, ha, by omega, hx⟩

/-- the same row in a later world, all of it below that world's end -/
theorem RowAt.then {W W' : World} {v : Value} {n sz : Nat} {f : Nat → Value} (h : RowAt W v n sz f W.heap.size) (hb : Below W.heap.size W W') : RowAt W' v n sz f W'.heap.size := (h.later hb (Nat.le_refl _)).more hb.size

/-- a row of structs: the cells of its elements -/
def StructsAt {α : Type} (enc : α → List Value) (sz : Nat) (W : World) (v : Value) (xs : List α) (B : Nat) : Prop := RowAt W v xs.length sz (fun j => (flat enc xs).getD j undef) B

section
variable {α : Type} {enc : α → List Value} {sz : Nat}

theorem StructsAt.cell {W : World} {v : Value} {xs : List α} {B : Nat} (h : StructsAt enc sz W v xs B) (hs : ∀ a, (enc a).length = sz) (i : Nat) (x : α) (hx : xs[i]? = some x) :
    ∃ b off cap, v = .slice (some ⟨b, off, none⟩) xs.length cap ∧ b < B ∧ ∀ r u, (enc x)[r]? = some u → W.cell? ⟨b, off + i * sz + r, none⟩ = some u := by
  have hi : i < xs.length := (List.getElem?_eq_some_iff.1 hx).1
  obtain ⟨a, cap, hv, h2⟩ := h
  rcases h2 with h0 | ⟨b, off, ha, hb, hc⟩
  · omega
  · refine ⟨b, off, cap, by rw [hv, ha], hb, fun r u hu => ?_⟩
    have hr : r < sz := by have := (List.getElem?_eq_some_iff.1 hu).1; rw [hs] at this; exact this
    have hg := flat_get hs xs i r x hx hr
    have hlt : i * sz + r < xs.length * sz := by
      have : (i + 1) * sz ≤ xs.length * sz := Nat.mul_le_mul_right _ hi
      rw [Nat.add_mul, Nat.one_mul] at this
      omega
    rw [Nat.add_assoc, hc _ hlt]
    simp only [List.getD_eq_getElem?_getD, hg, hu]
    rfl

theorem owns_rowAt {W : World} {base : Nat} {e : TypeId} {v : Value} {xs : List α} (h : W.ownsRow base e sz v xs.length (flat enc xs)) : StructsAt enc sz W v xs W.heap.size := by
  rcases h.2 with ⟨hv, h0⟩ | ⟨g, cap, cur, hv, hg, hh, hnc, hcm, hcs, htk⟩
  · exact ⟨none, 0, by rw [hv, h0], .inl h0⟩
  · have hlt : g < W.heap.size := by
      rcases Nat.lt_or_ge g W.heap.size with hl | hl
      · exact hl
      · rw [Array.getElem?_eq_none hl] at hh; cases hh
    refine ⟨_, cap, hv, .inr ⟨g, 0, rfl, hlt, fun j hj => ?_⟩⟩
    rw [Nat.zero_add]
    simp only [World.cell?, hh]
    have hj2 : j < cur.size := by
      have : xs.length * sz ≤ cap * sz := Nat.mul_le_mul_right _ hnc
      omega
    have e1 : (flat enc xs)[j]? = cur.toList[j]? := by rw [← htk, List.getElem?_take_of_lt hj]
    simp [List.getD, e1, hj2]
end
end Go.Proofs.YthmmpmbnpfhloaaDoor
namespace Go.Proofs.YthmmpmbnpfhloaaDoor
open Go.RowKit

def intsOf (l : List Int) : List Value := l.map fun z => Value.int .i64 z

theorem intsOf_append (a b : List Int) : intsOf (a ++ b) = intsOf a ++ intsOf b := by simp [intsOf]

theorem Tryd.info3 : (Tryd.prog.info? 3).map (fun i => (i.zero, i.size, i.bytes)) = some (some (.int .i64 0), 1, 8) := by kernel_rfl

/-- 'append(out, z)' of an int, out a row that the call itself made. -/
theorem wpList_append_int {P : Program} (w : World) {ops : Array Oper} {rest : List Oper} {o : Oper} {a : Act} {Q : Exit → Act → World → Prop} (hgd : o.guard = none) (s x : Operand) (t : TypeId)
    (ho : o.op = .call { callee := .builtin .append, args := #[s, x], argTypes := #[t, t] }) (base : Nat) (e : TypeId) (ht : P.underlying t = some (.slice e))
    (hinfo : (P.info? e).map (fun i => (i.zero, i.size, i.bytes)) = some (some (.int .i64 0), 1, 8))
    (v : Value) (l : List Int) (z : Int) (hs : a.eval s = v) (hown : w.ownsRow base e 1 v l.length (intsOf l))
    (ad : Addr) (c : Nat) (hx : a.eval x = .slice (some ad) 1 c) (hnews : w.cell? (ad.add 0) = some (.int .i64 z))
    (hlen : l.length + 1 ≤ 1000000000) (hbase : base ≤ w.heap.size)
    (h : ∀ v' w' l', Hid (l' = l ++ [z]) → w'.ownsRow base e 1 v' l'.length (intsOf l') → w.grownBy w' v.ownBlock → wpList P ops Q rest (a.put o.dst v') w') : wpList P ops Q (o :: rest) a w := by
  obtain ⟨i0, hi, hz0, hz1, hz2⟩ := info_parts hinfo
  refine wpList_append_own w hgd s x t ho base e i0 (.int .i64 0) 1 8 ht hi hz0 hz1 hz2 rfl (by decide) v l.length (intsOf l) hs hown ad 1 c (intsOf [z]) hx (by simp [intsOf]) ?_ ?_ (by unfold maxLen; omega) (by omega) hbase ?_
  · intro j u hj
    have hj' : j = 0 := by have := (List.getElem?_eq_some_iff.1 hj).1; simp [intsOf] at this; omega
    subst hj'
    rw [hnews]
    simpa [intsOf] using hj
  · intro u hu
    simp only [intsOf, List.mem_map] at hu
    obtain ⟨b, _, rfl⟩ := hu
    rfl
  · intro v' w' h1 h2 _
    rw [← intsOf_append] at h1
    exact h v' w' (l ++ [z]) rfl (by simpa using h1) h2
end Go.Proofs.YthmmpmbnpfhloaaDoor
namespace Go.Proofs.YthmmpmbnpfhloaaDoor
open Go.RowKit

def cmpN (a b : Int) : Int := if a < b then -1 else if b < a then 1 else 0

theorem cmpN_zero {a b : Int} : cmpN a b = 0 ↔ a = b := by unfold cmpN; split <;> (try split) <;> omega

theorem cmpN_neg {a b : Int} : cmpN a b < 0 ↔ a < b := by unfold cmpN; split <;> (try split) <;> omega

end Go.Proofs.YthmmpmbnpfhloaaDoor
namespace Go.Proofs.YthmmpmbnpfhloaaDoor
open Go.RowKit

set_option linter.unusedSimpArgs false

end Go.Proofs.YthmmpmbnpfhloaaDoor
namespace Go.Proofs.YthmmpmbnpfhloaaDoor
open Go.RowKit

/-- the bytes of a draw: len of them, in a block below p -/
def Code (w : World) (a : Option Addr) (len p : Nat) : Prop :=
  len ≤ 1048576 ∧ (len = 0 ∨ ∃ b off, a = some ⟨b, off, none⟩ ∧ b < p ∧ ∀ i, i < len → ∃ x : Nat, x < 256 ∧ w.cell? ⟨b, off + i, none⟩ = some (.int .u8 (x : Int)))

/-- the cursor lies in block p -/
def Cur (w : World) (p : Nat) (a : Option Addr) (len cap : Nat) : Prop :=
  (∃ (i : Nat) (h : Int), i ≤ len ∧ w.heap[p]? = some (.cells #[.slice a len cap, .int .i64 (i : Int), .int .i64 h] 41 (0, 0))) ∧ Code w a len p

theorem and255 (n : Int) : 0 ≤ bits .and .i64 n 255 ∧ bits .and .i64 n 255 ≤ 255 := by
  have key : (BitVec.ofInt 64 n &&& BitVec.ofInt 64 255).toNat ≤ 255 := by
    rw [BitVec.toNat_and]
    exact Nat.le_trans Nat.and_le_right (by decide)
  have e : bits .and .i64 n 255 = IntKind.i64.wrap ((BitVec.ofInt 64 n &&& BitVec.ofInt 64 255).toNat : Nat) := rfl
  rw [e, IntKind.wrap_i64]
  omega

theorem Code.grown {w w' : World} {a : Option Addr} {len p : Nat} {row : Option Nat} (h : Code w a len p) (hg : w.grownBy w' row) (hr : ∀ b, b < p → some b ≠ row) : Code w' a len p := by
  refine ⟨h.1, ?_⟩
  rcases h.2 with h0 | ⟨b, off, ha, hb, hx⟩
  · exact .inl h0
  · refine .inr ⟨b, off, ha, hb, fun i hi => ?_⟩
    obtain ⟨x, h1, h2⟩ := hx i hi
    exact ⟨x, h1, hg.cell h2 (hr b hb)⟩

theorem Cur.grown {w w' : World} {p : Nat} {a : Option Addr} {len cap : Nat} {row : Option Nat} (h : Cur w p a len cap) (hg : w.grownBy w' row) (hr : ∀ b, b ≤ p → some b ≠ row) : Cur w' p a len cap := by
  obtain ⟨⟨i, hh, hi, e⟩, hc⟩ := h
  refine ⟨⟨i, hh, hi, ?_⟩, hc.grown hg (fun b hb => hr b (by omega))⟩
  have hlt : p < w.heap.size := by
    rcases Nat.lt_or_ge p w.heap.size with hl | hl
    · exact hl
    · rw [Array.getElem?_eq_none hl] at e; cases e
  rw [hg.block p hlt (hr p (Nat.le_refl _))]
  exact e

theorem Cur.end {w W2 : World} {p : Nat} {a : Option Addr} {len cap : Nat} (hc : Code w a len p) (hg : w.grownBy W2 (some p)) (i : Nat) (h : Int) (hi : i ≤ len)
    (hh : W2.heap[p]? = some (.cells #[.slice a len cap, .int .i64 (i : Int), .int .i64 h] 41 (0, 0))) : Cur W2 p a len cap ∧ w.grownBy W2 (some p) :=
  ⟨⟨⟨i, h, hi, hh⟩, hc.grown hg (fun b hb => by simp; omega)⟩, hg⟩

set_option maxRecDepth 100000 in
set_option maxHeartbeats 1000000 in
theorem byte_any (p : Nat) (a : Option Addr) (len cap : Nat) (w : World) (hc : Cur w p a len cap) :
    Calls Tryd.prog 20 #[.pointer (some ⟨p, 0, none⟩)] w fun e w' => ∃ x : Int, e = .returned (.int .i64 x) ∧ 0 ≤ x ∧ x ≤ 255 ∧ Cur w' p a len cap ∧ w.grownBy w' (some p) := by
  obtain ⟨⟨i, h, hi, hh⟩, hlen, hcode⟩ := hc
  have c0 := cells_at hh 0
  have c1 := cells_at hh 1
  have c2 := cells_at hh 2
  have f1 := frozen_at hh 1
  have f2 := frozen_at hh 2
  simp at c0 c1 c2
  have HH := hide hh
  have HC := hide hcode
  clear hh hcode
  go_enter Tryd.func20, Tryd.ntmps20
  go_wp2
  generalize wrap64 (wrap64 (h * 6364136223846793005) + 1442695040888963407) = h2
  have hh2 : (w.setCell ⟨p, 2, none⟩ (.int .i64 h2)).heap[p]? = some (.cells #[.slice a len cap, .int .i64 (i : Int), .int .i64 h2] 41 (0, 0)) := by
    rw [heap_setCell_same w p 2 _ _ _ HH.out]; rfl
  have hg1 : w.grownBy (w.setCell ⟨p, 2, none⟩ (.int .i64 h2)) (some p) := ⟨rfl, rfl, rfl, by simp, fun k _ hk => heap_setCell_other w ⟨p, 2, none⟩ k _ (fun e => hk (by simp [e]))⟩
  generalize w.setCell ⟨p, 2, none⟩ (.int .i64 h2) = W1 at hh2 hg1 ⊢
  have d0 := cells_at hh2 0
  have d1 := cells_at hh2 1
  have d2 := cells_at hh2 2
  have e1 := frozen_at hh2 1
  simp at d0 d1 d2
  have HH2 := hide hh2
  clear hh2 c0 c1 c2 f1 f2
  have hbx := and255 (bits .xor .i64 (h2 / 8589934592) (h2 / 35184372088832))
  by_cases hil : i < len
  · have hil2 : (i : Int) < (len : Int) := by omega
    have hcell : ∃ b off, a = some ⟨b, off, none⟩ ∧ b ≠ p ∧ ∃ x : Nat, x < 256 ∧ W1.cell? ⟨b, off + i, none⟩ = some (.int .u8 (x : Int)) := by
      rcases HC.out with h0 | ⟨b, off, ha, hb, hx⟩
      · omega
      · obtain ⟨x, hx1, hx2⟩ := hx i hil
        exact ⟨b, off, ha, by omega, x, hx1, hg1.cell hx2 (by simp; omega)⟩
    obtain ⟨b, off, ha, hbp, x, hx, d3⟩ := hcell
    subst ha
    go_quiet (fail)
    go_wp2
    generalize bits .and .i64 (bits .xor .i64 (h2 / 8589934592) (h2 / 35184372088832)) 255 = x0 at hbx ⊢
    obtain ⟨hb0, hb1⟩ := hbx
    go_quiet (fail)
    go_wp2
    go_quiet (fail)
    go_wp2
    go_ret
    have hbz := and255 (x0 + (x : Int))
    exact ⟨_, rfl, hbz.1, hbz.2, Cur.end ⟨hlen, HC.out⟩ (grown_trans hg1 (grown_trans (grown_drewN W1 _ _) (grown_set _ p 1 _))) (i + 1) h2 (by omega) (heap_setCell_same (W1.drewN _) p 1 _ _ _ HH2.out)⟩
  · have hil2 : ¬ (i : Int) < (len : Int) := by omega
    go_quiet (fail)
    go_wp2
    generalize bits .and .i64 (bits .xor .i64 (h2 / 8589934592) (h2 / 35184372088832)) 255 = x0 at hbx ⊢
    obtain ⟨hb0, hb1⟩ := hbx
    go_quiet (fail)
    go_wp2
    go_ret
    exact ⟨_, rfl, hb0, hb1, Cur.end ⟨hlen, HC.out⟩ (grown_trans hg1 (grown_trans (grown_drewN W1 _ _) (grown_drewN _ _ _))) i h2 hi HH2.out⟩
end Go.Proofs.YthmmpmbnpfhloaaDoor
namespace Go.Proofs.YthmmpmbnpfhloaaDoor
open Go.RowKit

/-- 'string([]byte{x})' -/
theorem str_one (b : UInt8) (W : World) : (convert 22 9 (.slice (some ⟨W.heap.size, 0, none⟩) 1 1)).run Tryd.prog (W.alloc (.cells #[.int .u8 (b.toNat : Int)] 5)) = .ok (.string (bs [b])) (W.alloc (.cells #[.int .u8 (b.toNat : Int)] 5)) :=
  run_convert_bytes_back _ 22 9 5 ⟨W.heap.size, 0, none⟩ 1 [b] Tryd.underlying22 Tryd.underlying5 Tryd.underlying9 (news_one _ _ _ rfl)

theorem fig_dig (m : Nat) : fig ((m : Int) % 10) = digB m := by
  unfold fig digB
  rw [if_pos (by omega)]
  congr 1

theorem bsz (l : List UInt8) : (bs l).size = l.length := by simp [bs, ByteArray.size]

/-- what holds at the head of a round of Decimal: m: what is left; t: the figures so far -/
structure Dc (n m : Nat) (t : List UInt8) : Prop where
  all : decN n = decN m ++ t
  len : t.length ≤ 64
  lt : m < 2 ^ (64 - t.length)

theorem Dc.next {n m : Nat} {t : List UInt8} (h : Dc n m t) (hm : 0 < m) : Dc n (m / 10) (digB m :: t) := by
  obtain ⟨h1, h2, h3⟩ := h
  have hl : t.length < 64 := by
    rcases Nat.lt_or_ge t.length 64 with h | h
    · exact h
    · rw [show 64 - t.length = 0 by omega] at h3; simp at h3; omega
  refine ⟨by rw [h1, decN_pos hm]; simp, by simp; omega, ?_⟩
  have e : 64 - t.length = (64 - (digB m :: t).length) + 1 := by simp; omega
  rw [e, Nat.pow_succ] at h3
  omega

set_option maxRecDepth 100000 in
set_option maxHeartbeats 1000000 in
theorem dec_pos (n : Nat) (w : World) (h0 : 0 < n) (h1 : (n : Int) ≤ 9223372036854775807) :
    Calls Tryd.prog 7 #[.int .i64 (n : Int)] w fun e w' => e = .returned (.string (bs (decN n))) ∧ Below w.heap.size w w' := by
  have hn0 : ((n : Int) == 0) = false := by simp; omega
  have hst := str_one
  go_enter Tryd.func7, Tryd.ntmps7
  go_wp2
  go_loopw [4, 0] (fun v i wr => ∃ (m : Nat) (t : List UInt8), (m : Int) ≤ 9223372036854775807 ∧ i = .int .i64 m ∧ v = .string (bs t) ∧ Dc n m t ∧ Below w.heap.size w wr) (fun _ i _ => (intOf i).toNat)
  case atStart => exact ⟨n, [], h1, rfl, rfl, ⟨by simp, by simp, by simp; omega⟩, Below.refl _ _⟩
  case round =>
    clear hn0
    obtain ⟨m, t, hm, rfl, rfl, D, hnx⟩ := hrel
    have hsz := hnx.size
    have htl : (bs t).size ≤ 64 := by rw [bsz]; exact D.len
    by_cases hz : 0 < m
    · have hne : ((m : Int) != 0) = true := by simp; omega
      have hs1 : (bs [fig ((m : Int) % 10)]).size ≤ 64 := by rw [bsz]; simp
      go_wp2_with (first | (go_at_call 16; refine (fig_any _ _ (by omega) (by omega)).mono ?_; rintro e w' ⟨rfl, rfl⟩))
      go_roundw
      case rel => exact ⟨m / 10, digB m :: t, by omega, by go_num, by rw [fig_dig, bs_append]; rfl, D.next hz, hnx.alloc hsz _⟩
      case measure => simp [intOf]; omega
    · have hne : ((m : Int) != 0) = false := by simp; omega
      have hm0 : m = 0 := by omega
      have Z := hide hm0
      clear hm0
      go_wp2
      go_ret
      refine ⟨?_, hnx⟩
      have e := D.all
      rw [Z.out, decN_zero, List.nil_append] at e
      rw [e]
      rfl

set_option maxRecDepth 100000 in
set_option maxHeartbeats 1000000 in
theorem dec_neg (n : Nat) (w : World) (h0 : 0 < n) (h1 : (n : Int) ≤ 9223372036854775808) :
    Calls Tryd.prog 7 #[.int .i64 (-(n : Int))] w fun e w' => e = .returned (.string (bs (45 :: decN n))) ∧ Below w.heap.size w w' := by
  have hn0 : (-(n : Int) == 0) = false := by simp; omega
  have hst := str_one
  go_enter Tryd.func7, Tryd.ntmps7
  go_wp2
  go_loopw [4, 0] (fun v i wr => ∃ (m : Nat) (t : List UInt8), (m : Int) ≤ 9223372036854775808 ∧ i = .int .i64 (-(m : Int)) ∧ v = .string (bs t) ∧ Dc n m t ∧ Below w.heap.size w wr) (fun _ i _ => (intOf i).natAbs)
  case atStart => exact ⟨n, [], h1, rfl, rfl, ⟨by simp, by simp, by simp; omega⟩, Below.refl _ _⟩
  case round =>
    clear hn0
    obtain ⟨m, t, hm, rfl, rfl, D, hnx⟩ := hrel
    have hsz := hnx.size
    have htl : (bs t).size ≤ 64 := by rw [bsz]; exact D.len
    have htm : (-(m : Int)).tmod 10 = -((m : Int) % 10) := by rw [Int.neg_tmod, Int.tmod_eq_emod_of_nonneg (by omega)]
    have htd : (-(m : Int)).tdiv 10 = -((m : Int) / 10) := by rw [Int.neg_tdiv, Int.tdiv_eq_ediv_of_nonneg (by omega)]
    by_cases hz : 0 < m
    · have hne : (-(m : Int) != 0) = true := by simp; omega
      have hs1 : (bs [fig ((m : Int) % 10)]).size ≤ 64 := by rw [bsz]; simp
      by_cases hd : 0 < (m : Int) % 10
      · go_wp2_with (first | (go_at_call 16; refine (fig_any _ _ (by omega) (by omega)).mono ?_; rintro e w' ⟨rfl, rfl⟩))
        go_roundw
        case rel => exact ⟨m / 10, digB m :: t, by omega, by go_num, by rw [fig_dig, bs_append]; rfl, D.next hz, hnx.alloc hsz _⟩
        case measure => simp [intOf]; omega
      · have hd0 : (m : Int) % 10 = 0 := by omega
        have hs2 : (bs [fig 0]).size ≤ 64 := by rw [bsz]; simp
        go_wp2_with (first | (go_at_call 16; refine (fig_any _ _ (by omega) (by omega)).mono ?_; rintro e w' ⟨rfl, rfl⟩))
        go_roundw
        case rel => exact ⟨m / 10, digB m :: t, by omega, by go_num, by rw [← hd0, fig_dig, bs_append]; rfl, D.next hz, hnx.alloc hsz _⟩
        case measure => simp [intOf]; omega
    · have hne : (-(m : Int) != 0) = false := by simp; omega
      have hm0 : m = 0 := by omega
      have Z := hide hm0
      clear hm0
      go_wp2
      go_ret
      refine ⟨?_, hnx⟩
      have e := D.all
      rw [Z.out, decN_zero, List.nil_append] at e
      rw [e, show (45 :: t) = [45] ++ t from rfl, ← bs_append]
      rfl

set_option maxHeartbeats 400000 in
theorem dec_zero (w : World) : Calls Tryd.prog 7 #[.int .i64 0] w fun e w' => e = .returned (.string (bs [48])) ∧ Below w.heap.size w w' := by
  go_enter Tryd.func7, Tryd.ntmps7
  go_wp2
  go_ret
  exact ⟨rfl, Below.refl _ _⟩

/-- the decimal text of an int -/
def decI (n : Int) : List UInt8 := if n < 0 then 45 :: decN n.natAbs else decS n.natAbs

theorem dec_any (n : Int) (w : World) (h0 : -9223372036854775808 ≤ n) (h1 : n ≤ 9223372036854775807) :
    Calls Tryd.prog 7 #[.int .i64 n] w fun e w' => e = .returned (.string (bs (decI n))) ∧ Below w.heap.size w w' := by
  by_cases hz : n = 0
  · subst hz; exact dec_zero w
  by_cases hn : n < 0
  · have e : n = -(n.natAbs : Int) := by omega
    have e2 : decI n = 45 :: decN n.natAbs := by unfold decI; rw [if_pos hn]
    rw [e2]
    have := dec_neg n.natAbs w (by omega) (by omega)
    rw [← e] at this
    exact this
  · have e : n = (n.natAbs : Int) := by omega
    have e2 : decI n = decN n.natAbs := by unfold decI decS; rw [if_neg hn, if_neg (by omega)]
    rw [e2]
    have := dec_pos n.natAbs w (by omega) (by omega)
    rw [← e] at this
    exact this
end Go.Proofs.YthmmpmbnpfhloaaDoor
namespace Go.Proofs.YthmmpmbnpfhloaaDoor
open Go.RowKit

theorem below_two {w : World} (o1 o2 : Obj) : Below w.heap.size w ((w.alloc o1).alloc o2) := ((Below.refl _ _).alloc (Nat.le_refl _) _).alloc (by simp) _

theorem below_three {w : World} (o1 o2 o3 : Obj) : Below w.heap.size w (((w.alloc o1).alloc o2).alloc o3) := (below_two o1 o2).alloc (by simp; omega) _

theorem heap3_0 (w : World) (a b c : Obj) : (((w.alloc a).alloc b).alloc c).heap[w.heap.size]? = some a := by
  rw [Below.heap_alloc _ _ _ (by simp; omega), Below.heap_alloc _ _ _ (by simp), heap_alloc_new]

theorem heap3_1 (w : World) (a b c : Obj) : (((w.alloc a).alloc b).alloc c).heap[w.heap.size + 1]? = some b := by
  rw [Below.heap_alloc _ _ _ (by simp)]
  have := heap_alloc_new (w.alloc a) b
  simpa using this

theorem heap3_2 (w : World) (a b c : Obj) : (((w.alloc a).alloc b).alloc c).heap[w.heap.size + 1 + 1]? = some c := by
  have := heap_alloc_new ((w.alloc a).alloc b) c
  simpa using this

theorem ret_bool {a b : Bool} (h : b = a) : Ending.returned (.bool a) = .returned (.bool b) := by rw [h]
end Go.Proofs.YthmmpmbnpfhloaaDoor
namespace Go.Proofs.YthmmpmbnpfhloaaDoor
open Go.RowKit

def blE (b : Bool) : List Value := [.bool b]

theorem blE_len (b : Bool) : (blE b).length = 1 := rfl

/-- the row v of truths bs, below B -/
def BoolsAt (W : World) (v : Value) (bs : List Bool) (B : Nat) : Prop := StructsAt blE 1 W v bs B

theorem BoolsAt.shape {W : World} {v : Value} {bs : List Bool} {B : Nat} (h : BoolsAt W v bs B) : ∃ a cap, v = .slice a bs.length cap := by obtain ⟨a, cap, h, _⟩ := h; exact ⟨a, cap, h⟩

theorem BoolsAt.cell {W : World} {v : Value} {bs : List Bool} {B : Nat} (h : BoolsAt W v bs B) (i : Nat) (b : Bool) (hb : bs[i]? = some b) : ∃ g off cap, v = .slice (some ⟨g, off, none⟩) bs.length cap ∧ g < B ∧ W.cell? ⟨g, off + i, none⟩ = some (.bool b) := by
  obtain ⟨g, off, cap, hv, hg, hc⟩ := StructsAt.cell h blE_len i b hb
  refine ⟨g, off, cap, hv, hg, ?_⟩
  have := hc 0 _ rfl
  simpa using this
end Go.Proofs.YthmmpmbnpfhloaaDoor
namespace Go.Proofs.YthmmpmbnpfhloaaDoor
open Go.RowKit

def rowA (f : Nat → Value) (n : Nat) : Array Value := ((List.range n).map f).toArray

theorem rowA_at {f : Nat → Value} {n i : Nat} (h : i < n) : (rowA f n)[i]? = some (f i) := by
  simp [rowA, h]

theorem rowA_set (f : Nat → Value) (n i : Nat) (x : Value) : (rowA f n).setIfInBounds i x = rowA (fun j => if j = i then x else f j) n := by
  apply Array.ext
  · simp [rowA]
  · intro j h1 h2
    have hj : j < n := by simpa [rowA] using h2
    simp [rowA]
    by_cases e : i = j
    · subst e; simp
    · have e' : ¬ j = i := fun h => e h.symm
      simp [e, e']

theorem rowA_congr {f g : Nat → Value} {n : Nat} (h : ∀ i, i < n → f i = g i) : rowA f n = rowA g n := by
  unfold rowA
  congr 1
  apply List.map_congr_left
  intro i hi
  exact h i (List.mem_range.1 hi)

theorem rowA_cell {W : World} {b n i : Nat} {f : Nat → Value} {t : TypeId} (h : W.heap[b]? = some (.cells (rowA f n) t)) (hi : i < n) : W.cell? ⟨b, i, none⟩ = some (f i) := by
  have e := cells_at h i
  rw [rowA_at hi] at e
  exact e

theorem rowA_put {W : World} {b n i : Nat} {f : Nat → Value} {t : TypeId} (h : W.heap[b]? = some (.cells (rowA f n) t)) (x : Value) : (W.setCell ⟨b, i, none⟩ x).heap[b]? = some (.cells (rowA (fun j => if j = i then x else f j) n) t) := by
  have e := heap_setCell_same W b i _ _ x h
  rw [rowA_set] at e
  exact e
theorem rowA_made (z : Value) (n : Nat) : madeCells #[z] n = rowA (fun _ => z) n := by
  apply Array.ext
  · simp [rowA, madeCells]
  · intro j h1 h2
    simp [rowA, madeCells, Nat.mod_one]

theorem wpList_make_rowA {P : Program} (w : World) {ops : Array Oper} {rest : List Oper} {o : Oper} {a : Act} {Q : Exit → Act → World → Prop}
    (hg : o.guard = none) (l c : Operand) (t : TypeId) (hop : o.op = Op.makeSlice t l c)
    (e : TypeId) (z : Value) (bytes : Nat) (ht : P.underlying t = some (.slice e)) (hinfo : (P.info? e).map (fun i => (i.zero, i.size, i.bytes)) = some (some z, 1, bytes)) (hz1 : z.cells = #[z])
    (n : Nat) (hl : a.eval l = .int .i64 (n : Int)) (hc : a.eval c = .int .i64 (n : Int)) (hbytes : bytes * n ≤ 281474976710656) (h63 : n ≤ 9223372036854775807)
    (hK : wpList P ops Q rest (a.put o.dst (.slice (some ⟨w.heap.size, 0, none⟩) n n)) (w.alloc (.cells (rowA (fun _ => z) n) e))) :
    wpList P ops Q (o :: rest) a w := by
  obtain ⟨i, hi, hzz⟩ := Option.map_eq_some_iff.1 hinfo
  simp only [Prod.mk.injEq] at hzz
  obtain ⟨hz, hs, hb⟩ := hzz
  refine wpList_make_row w hg l c t hop e i z ht hi hz hs hz1 .i64 .i64 n hl hc (by rw [hb]; exact hbytes) h63 ?_
  rw [rowA_made]
  exact hK
end Go.Proofs.YthmmpmbnpfhloaaDoor
namespace Go.Proofs.YthmmpmbnpfhloaaDoor
open Go.RowKit

theorem upTo_mem (d : Array Int) : ∀ (m j : Nat), j < m → d[j]! ∈ Lib.compactUpTo d m
  | 0, j, h => by omega
  | m + 1, j, h => by
    rw [Lib.compactUpTo_succ]
    by_cases hj : j < m
    · exact List.mem_append_left _ (upTo_mem d m j hj)
    · obtain rfl : j = m := by omega
      by_cases hk : Lib.keeps d j = true
      · rw [if_pos hk]; simp
      · have hk2 : ¬ (j = 0 ∨ d[j]! ≠ d[j - 1]!) := by simpa [Lib.keeps] using hk
        have h0 : 0 < j := by omega
        have he : d[j]! = d[j - 1]! := by
          by_cases e : d[j]! = d[j - 1]!
          · exact e
          · exact absurd (Or.inr e) hk2
        rw [he]
        exact List.mem_append_left _ (upTo_mem d j (j - 1) (by omega))

theorem mem_compact {zs : List Int} {x : Int} : x ∈ Lib.compact zs ↔ x ∈ zs := by
  constructor
  · intro h
    simp only [Lib.compact, Lib.compactUpTo, List.mem_map, List.mem_filter, List.mem_range] at h
    obtain ⟨j, ⟨hj, _⟩, rfl⟩ := h
    have : zs.toArray[j]! = zs[j] := by simp [hj]
    rw [this]
    exact List.getElem_mem hj
  · intro h
    obtain ⟨j, hj, rfl⟩ := List.mem_iff_getElem.1 h
    have e : zs[j] = zs.toArray[j]! := by simp [hj]
    rw [e]
    exact upTo_mem _ _ j hj

theorem upTo_asc (d : Array Int) (n : Nat) (hs : ∀ i j, i ≤ j → j < n → d[i]! ≤ d[j]!) : ∀ m, m ≤ n → (Lib.compactUpTo d m).Pairwise (· < ·)
  | 0, _ => by simp [Lib.compactUpTo]
  | m + 1, h => by
    rw [Lib.compactUpTo_succ, List.pairwise_append]
    refine ⟨upTo_asc d n hs m (by omega), by split <;> simp, fun x hx y hy => ?_⟩
    simp only [Lib.compactUpTo, List.mem_map, List.mem_filter, List.mem_range] at hx
    obtain ⟨j, ⟨hj, _⟩, rfl⟩ := hx
    split at hy
    · rename_i hk
      have e : y = d[m]! := by simpa using hy
      subst e
      have hk2 : m = 0 ∨ d[m]! ≠ d[m - 1]! := by simpa [Lib.keeps] using hk
      have h1 := hs j (m - 1) (by omega) (by omega)
      have h2 := hs (m - 1) m (by omega) (by omega)
      rcases hk2 with h3 | h3
      · omega
      · omega
    · cases hy

theorem sorted_get {zs : List Int} (hp : zs.Pairwise (fun a b => decide (a ≤ b) = true)) : ∀ i j, i ≤ j → j < zs.length → zs.toArray[i]! ≤ zs.toArray[j]! := by
  intro i j hij hj
  have hi : i < zs.length := by omega
  have e1 : zs.toArray[i]! = zs[i] := by simp [hi]
  have e2 : zs.toArray[j]! = zs[j] := by simp [hj]
  rw [e1, e2]
  by_cases e : i = j
  · subst e; exact Int.le_refl _
  · have := List.pairwise_iff_getElem.1 hp i j hi hj (by omega)
    simpa using this

def hopsI (a b : List Int) : List Int := Lib.compact ((a ++ b).mergeSort fun x y => decide (x ≤ y))

theorem hopsI_mem {a b : List Int} {x : Int} : x ∈ hopsI a b ↔ x ∈ a ∨ x ∈ b := by
  unfold hopsI
  rw [mem_compact, List.mem_mergeSort, List.mem_append]

theorem hopsI_asc (a b : List Int) : (hopsI a b).Pairwise (· < ·) := by
  unfold hopsI Lib.compact
  refine upTo_asc _ _ ?_ _ (Nat.le_refl _)
  have hp := List.pairwise_mergeSort (le := fun x y : Int => decide (x ≤ y)) (fun a b c h1 h2 => by simp at h1 h2 ⊢; omega) (fun a b => by simp; omega) (a ++ b)
  exact sorted_get hp

end Go.Proofs.YthmmpmbnpfhloaaDoor
namespace Go.Proofs.YthmmpmbnpfhloaaDoor
open Go.RowKit

set_option maxRecDepth 100000 in
set_option maxHeartbeats 1000000 in
theorem below_any (p : Nat) (a : Option Addr) (len cap : Nat) (n : Int) (w : World) (hc : Cur w p a len cap) (hn : 0 < n) (hn2 : n ≤ 1000000000000) :
    Calls Tryd.prog 11 #[.pointer (some ⟨p, 0, none⟩), .int .i64 n] w fun e w' => ∃ x : Int, e = .returned (.int .i64 x) ∧ 0 ≤ x ∧ x < n ∧ Cur w' p a len cap ∧ w.grownBy w' (some p) := by
  by_cases h256 : n ≤ 256
  · go_enter Tryd.func11, Tryd.ntmps11
    go_wp2_with fail
    refine (byte_any p a len cap _ hc).mono ?_
    rintro e w1 ⟨x, rfl, h0, h1, hc1, hg1⟩
    have hr0 := Int.emod_nonneg x (show n ≠ 0 by omega)
    have hr1 := Int.emod_lt_of_pos x hn
    have htm : x.tmod n = x % n := Int.tmod_eq_emod_of_nonneg h0
    have HG := hide hg1
    have HC := hide hc1
    clear hc1 hg1 hc
    go_wp2
    go_ret
    exact ⟨_, rfl, hr0, hr1, HC.out, HG.out⟩
  · go_enter Tryd.func11, Tryd.ntmps11
    go_wp2_with fail
    refine (byte_any p a len cap _ hc).mono ?_
    rintro e w1 ⟨x, rfl, hx0, hx1, hc1, hg1⟩
    have HG1 := hide hg1
    clear hc hg1
    go_wp2_with fail
    refine (byte_any p a len cap _ hc1).mono ?_
    rintro e w2 ⟨y, rfl, hy0, hy1, hc2, hg2⟩
    have HG2 := hide hg2
    clear hc1 hg2
    go_wp2_with fail
    refine (byte_any p a len cap _ hc2).mono ?_
    rintro e w3 ⟨z, rfl, hz0, hz1, hc3, hg3⟩
    have HG3 := hide hg3
    clear hc2 hg3
    go_wp2_with fail
    refine (byte_any p a len cap _ hc3).mono ?_
    rintro e w4 ⟨u, rfl, hu0, hu1, hc4, hg4⟩
    have HG4 := hide hg4
    have HC4 := hide hc4
    clear hc3 hg4 hc4
    have hr0 := Int.emod_nonneg (x * 16777216 + y * 65536 + z * 256 + u) (show n ≠ 0 by omega)
    have hr1 := Int.emod_lt_of_pos (x * 16777216 + y * 65536 + z * 256 + u) hn
    have htm : (x * 16777216 + y * 65536 + z * 256 + u).tmod n = (x * 16777216 + y * 65536 + z * 256 + u) % n := Int.tmod_eq_emod_of_nonneg (by omega)
    go_wp2
    go_ret
    exact ⟨_, rfl, hr0, hr1, HC4.out, grown_trans HG1.out (grown_trans HG2.out (grown_trans HG3.out HG4.out))⟩

theorem lt_of_cur {w : World} {p : Nat} {a : Option Addr} {len cap : Nat} (h : Cur w p a len cap) : p < w.heap.size := by
  obtain ⟨⟨i, hh, hi, e⟩, _⟩ := h
  rcases Nat.lt_or_ge p w.heap.size with hl | hl
  · exact hl
  · rw [Array.getElem?_eq_none hl] at e; cases e

end Go.Proofs.YthmmpmbnpfhloaaDoor
namespace Go.Proofs.YthmmpmbnpfhloaaDoor
open Go.RowKit

end Go.Proofs.YthmmpmbnpfhloaaDoor
namespace Go.Proofs.YthmmpmbnpfhloaaDoor
open Go.RowKit

theorem decDigits_S (u : Nat) (h : 0 < u) : Lib.decDigits u = decN u := by
  induction u using Nat.strongRecOn with
  | _ u ih =>
    rw [Lib.decDigits, decN_pos h]
    split
    · rename_i h10
      rw [show u / 10 = 0 by omega, decN_zero]
      have e : u % 10 = u := by omega
      simp [digB, e]
    · rw [ih (u / 10) (by omega) (by omega)]
      rfl

theorem itoa_decI (n : Int) : Lib.itoa n = decI n := by
  unfold Lib.itoa decI
  split
  · rw [decDigits_S _ (by omega)]
  · have e : n.toNat = n.natAbs := by omega
    rw [e]
    unfold decS
    split
    · rename_i h0; rw [h0, Lib.decDigits]; rfl
    · rw [decDigits_S _ (by omega)]

theorem gPow : Tryd.prog.globalNamed "internal/strconv.uint64pow10" = some 1 := by kernel_rfl

set_option maxHeartbeats 400000 in
theorem idec_any (n : Int) (w : World) (h0 : -9223372036854775808 ≤ n) (h1 : n ≤ 9223372036854775807) (htab : Lib.TabIs Tryd.prog w "internal/strconv.uint64pow10" .u64 Lib.pow10Tab) :
    Calls Tryd.prog 13 #[.int .i64 n] w fun e w' => e = .returned (.string (bs (decI n))) ∧ Below w.heap.size w w' := by
  go_enter Tryd.func13, Tryd.ntmps13
  go_wp2_with fail
  refine (Tryd.strconv_Itoa n h0 h1 w htab).mono ?_
  rintro e w' ⟨rfl, k, os, rfl⟩
  go_wp2
  go_ret
  exact ⟨by rw [itoa_decI]; rfl, Lib.below_grow _ _ (Nat.le_refl _) _ _⟩

theorem glob_lt {W : World} {n : String} {g : Nat} {k : IntKind} {zs : List Int} (hg : Tryd.prog.globalNamed n = some g) (h : Lib.TabIs Tryd.prog W n k zs) : g < W.heap.size := by
  unfold Lib.TabIs World.var? at h
  simp only [hg, Option.bind_some] at h
  rcases Nat.lt_or_ge g W.heap.size with hlt | hge
  · exact hlt
  · rw [Array.getElem?_eq_none hge] at h
    simp at h
end Go.Proofs.YthmmpmbnpfhloaaDoor
