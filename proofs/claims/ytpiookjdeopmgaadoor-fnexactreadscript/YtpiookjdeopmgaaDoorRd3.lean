/-
  Rows of ints that a call made.
  Rows whose elements are structs: their cells one behind another.
  spec.Decimal: its contract at every int.
  impl.isIn, cmp.isNaN, cmp.Compare: their contracts.
  Regions that draw their order and store at their end: a condition on the world that is held till one operation has come up.
  spec.l01Value, spec.Unhex: their contracts; the law.
-/
import Derived.Test.YtpiookjdeopmgaaDoorRd2
namespace Go.Proofs.YtpiookjdeopmgaaDoor
open Go.RowKit

def intsOf (l : List Int) : List Value := l.map fun z => Value.int .i64 z

theorem intsOf_append (a b : List Int) : intsOf (a ++ b) = intsOf a ++ intsOf b := by simp [intsOf]

theorem Tryd.info3 : (Tryd.prog.info? 3).map (fun i => (i.zero, i.size, i.bytes)) = some (some (.int .i64 0), 1, 8) := by kernel_rfl

/-- 'append(out, z)' of an int, out a row that the call itself made. -/
theorem wpList_append_int {P : Program} (w : World) {ops : Array Oper} {rest : List Oper} {o : Oper} {a : Act} {Q : Exit → Act → World → Prop} (hgd : o.guard = none) (s x : Operand) (t : TypeId)
    (ho : o.op = .call { callee := .builtin .append, args := #[s, x], argTypes := #[t, t] }) (base : Nat) (e : TypeId) (ht : P.underlying t = some (.slice e))
    (hinfo : (P.info? e).map (fun i => (i.zero, i.size, i.bytes)) = some (some (.int .i64 0), 1, 8))
    (v : Value) (l : List Int) (z : Int) (hs : a.eval s = v) (hown : w.ownsRow base e 1 v l.length (intsOf l))
    (ad : Addr) (c : Nat) (hx : a.eval x = .slice (some ad) 1 c) (hnews : w.cell? (ad.add 0) = some (.int .i64 z))
    (hlen : l.length + 1 ≤ 1000000000) (hbase : base ≤ w.heap.size)
    (h : ∀ v' w' l', Hid (l' = l ++ [z]) → w'.ownsRow base e 1 v' l'.length (intsOf l') → w.grownBy w' v.ownBlock → wpList P ops Q rest (a.put o.dst v') w') : wpList P ops Q (o :: rest) a w := by
  obtain ⟨i0, hi, hz0, hz1, hz2⟩ := info_parts hinfo
  refine wpList_append_own w hgd s x t ho base e i0 (.int .i64 0) 1 8 ht hi hz0 hz1 hz2 rfl (by decide) v l.length (intsOf l) hs hown ad 1 c (intsOf [z]) hx (by simp [intsOf]) ?_ ?_ (by unfold maxLen; omega) (by omega) hbase ?_
  · intro j u hj
    have hj' : j = 0 := by have := (List.getElem?_eq_some_iff.1 hj).1; simp [intsOf] at this; omega
    subst hj'
    rw [hnews]
    simpa [intsOf] using hj
  · intro u hu
    simp only [intsOf, List.mem_map] at hu
    obtain ⟨b, _, rfl⟩ := hu
    rfl
  · intro v' w' h1 h2 _
    rw [← intsOf_append] at h1
    exact h v' w' (l ++ [z]) rfl (by simpa using h1) h2
end Go.Proofs.YtpiookjdeopmgaaDoor
namespace Go.Proofs.YtpiookjdeopmgaaDoor
open Go.RowKit

def flat {α : Type} (enc : α → List Value) (xs : List α) : List Value := xs.flatMap enc

section
variable {α : Type} {enc : α → List Value} {sz : Nat}

theorem flat_cons (x : α) (xs : List α) : flat enc (x :: xs) = enc x ++ flat enc xs := rfl

theorem flat_len (h : ∀ a, (enc a).length = sz) (xs : List α) : (flat enc xs).length = xs.length * sz := by
  induction xs with
  | nil => simp [flat]
  | cons x xs ih => rw [flat_cons, List.length_append, h, ih, List.length_cons, Nat.add_mul, Nat.one_mul, Nat.add_comm]

theorem flat_get (h : ∀ a, (enc a).length = sz) : ∀ (xs : List α) (i r : Nat) (x : α), xs[i]? = some x → r < sz → (flat enc xs)[i * sz + r]? = (enc x)[r]?
  | [], i, r, x, hx, _ => by simp at hx
  | y :: ys, 0, r, x, hx, hr => by
    simp at hx
    subst hx
    rw [flat_cons, Nat.zero_mul, Nat.zero_add, List.getElem?_append_left (by rw [h]; exact hr)]
  | y :: ys, i + 1, r, x, hx, hr => by
    have e : (i + 1) * sz + r = sz + (i * sz + r) := by rw [Nat.add_mul, Nat.one_mul]; omega
    rw [flat_cons, List.getElem?_append_right (by rw [h, e]; omega), h, e, Nat.add_sub_cancel_left]
    exact flat_get h ys i r x (by simpa using hx) hr

/-- cells laid one behind another, from off on -/
def setL : List Value → Nat → List Value → List Value
  | xs, _, [] => xs
  | xs, off, v :: vs => setL (xs.set off v) (off + 1) vs

theorem setL_append (a b : List Value) : ∀ (off : Nat) (vs : List Value), setL (a ++ b) (a.length + off) vs = a ++ setL b off vs
  | _, [] => rfl
  | off, v :: vs => by
    unfold setL
    rw [List.set_append_right _ _ (by omega), Nat.add_sub_cancel_left]
    exact setL_append a (b.set off v) (off + 1) vs

theorem setL_head : ∀ (vs b c : List Value), b.length = vs.length → setL (b ++ c) 0 vs = vs ++ c
  | [], b, c, h => by
    have : b = [] := List.length_eq_zero_iff.1 (by simpa using h)
    subst this
    rfl
  | v :: vs, [], c, h => by simp at h
  | v :: vs, x :: b, c, h => by
    have h2 : setL ([v] ++ (b ++ c)) ([v].length + 0) vs = [v] ++ setL (b ++ c) 0 vs := setL_append [v] (b ++ c) 0 vs
    unfold setL
    simp only [List.cons_append, List.set_cons_zero]
    simp only [List.cons_append, List.nil_append, List.length_cons, List.length_nil, Nat.add_zero] at h2
    rw [Nat.zero_add, h2, setL_head vs b c (by simpa using h)]

theorem flat_set (h : ∀ a, (enc a).length = sz) : ∀ (xs : List α) (k : Nat) (x : α), k < xs.length → setL (flat enc xs) (k * sz) (enc x) = flat enc (xs.set k x)
  | [], k, x, hk => by simp at hk
  | y :: ys, 0, x, _ => by
    rw [Nat.zero_mul, flat_cons, setL_head _ _ _ (by rw [h, h]), List.set_cons_zero, flat_cons]
  | y :: ys, k + 1, x, hk => by
    have e : (k + 1) * sz = (enc y).length + k * sz := by rw [h, Nat.add_mul, Nat.one_mul, Nat.add_comm]
    rw [flat_cons, e, setL_append, flat_set h ys k x (by simpa using hk), List.set_cons_succ, flat_cons]
end

/-- the slice v has n elements of sz cells; cell j (of n * sz) holds f j; all lie in a block below B -/
def RowAt (W : World) (v : Value) (n sz : Nat) (f : Nat → Value) (B : Nat) : Prop :=
  ∃ a cap, v = .slice a n cap ∧ (n = 0 ∨ ∃ b off, a = some ⟨b, off, none⟩ ∧ b < B ∧ ∀ j, j < n * sz → W.cell? ⟨b, off + j, none⟩ = some (f j))

theorem RowAt.later {W W' : World} {v : Value} {n sz : Nat} {f : Nat → Value} {B C : Nat} (h : RowAt W v n sz f B) (hb : Below C W W') (hBC : B ≤ C) : RowAt W' v n sz f B := by
  obtain ⟨a, cap, hv, h2⟩ := h
  refine ⟨a, cap, hv, ?_⟩
  rcases h2 with h0 | ⟨b, off, ha, hb1, hx⟩
  · exact .inl h0
  · exact .inr ⟨b, off, ha, hb1, fun j hj => by rw [hb.cell (p := ⟨b, off + j, none⟩) (by show b < C; omega)]; exact hx j hj⟩

theorem RowAt.more {W : World} {v : Value} {n sz : Nat} {f : Nat → Value} {B C : Nat} (h : RowAt W v n sz f B) (hBC : B ≤ C) : RowAt W v n sz f C := by
  obtain ⟨a, cap, hv, h2⟩ := h
  refine ⟨a, cap, hv, ?_⟩
  rcases h2 with h0 | ⟨b, off, ha, hb1, hx⟩
  · exact .inl h0
  · exact .inr ⟨b, off, ha, by omega, hx⟩

/-- the same row in a later world, all of it below that world's end -/
theorem RowAt.then {W W' : World} {v : Value} {n sz : Nat} {f : Nat → Value} (h : RowAt W v n sz f W.heap.size) (hb : Below W.heap.size W W') : RowAt W' v n sz f W'.heap.size := (h.later hb (Nat.le_refl _)).more hb.size

/-- a row of structs: the cells of its elements -/
def StructsAt {α : Type} (enc : α → List Value) (sz : Nat) (W : World) (v : Value) (xs : List α) (B : Nat) : Prop := RowAt W v xs.length sz (fun j => (flat enc xs).getD j undef) B

section
variable {α : Type} {enc : α → List Value} {sz : Nat}

theorem StructsAt.cell {W : World} {v : Value} {xs : List α} {B : Nat} (h : StructsAt enc sz W v xs B) (hs : ∀ a, (enc a).length = sz) (i : Nat) (x : α) (hx : xs[i]? = some x) :
    ∃ b off cap, v = .slice (some ⟨b, off, none⟩) xs.length cap ∧ b < B ∧ ∀ r u, (enc x)[r]? = some u → W.cell? ⟨b, off + i * sz + r, none⟩ = some u := by
  have hi : i < xs.length := (List.getElem?_eq_some_iff.1 hx).1
  obtain ⟨a, cap, hv, h2⟩ := h
  rcases h2 with h0 | ⟨b, off, ha, hb, hc⟩
  · omega
  · refine ⟨b, off, cap, by rw [hv, ha], hb, fun r u hu => ?_⟩
    have hr : r < sz := by have := (List.getElem?_eq_some_iff.1 hu).1; rw [hs] at this; exact this
    have hg := flat_get hs xs i r x hx hr
    have hlt : i * sz + r < xs.length * sz := by
      have : (i + 1) * sz ≤ xs.length * sz := Nat.mul_le_mul_right _ hi
      rw [Nat.add_mul, Nat.one_mul] at this
      omega
    rw [Nat.add_assoc, hc _ hlt]
    simp only [List.getD_eq_getElem?_getD, hg, hu]
    rfl

theorem owns_rowAt {W : World} {base : Nat} {e : TypeId} {v : Value} {xs : List α} (h : W.ownsRow base e sz v xs.length (flat enc xs)) : StructsAt enc sz W v xs W.heap.size := by
  rcases h.2 with ⟨hv, h0⟩ | ⟨g, cap, cur, hv, hg, hh, hnc, hcm, hcs, htk⟩
  · exact ⟨none, 0, by rw [hv, h0], .inl h0⟩
  · have hlt : g < W.heap.size := by
      rcases Nat.lt_or_ge g W.heap.size with hl | hl
      · exact hl
      · rw [Array.getElem?_eq_none hl] at hh; cases hh
    refine ⟨_, cap, hv, .inr ⟨g, 0, rfl, hlt, fun j hj => ?_⟩⟩
    rw [Nat.zero_add]
    simp only [World.cell?, hh]
    have hj2 : j < cur.size := by
      have : xs.length * sz ≤ cap * sz := Nat.mul_le_mul_right _ hnc
      omega
    have e1 : (flat enc xs)[j]? = cur.toList[j]? := by rw [← htk, List.getElem?_take_of_lt hj]
    simp [List.getD, e1, hj2]
end
end Go.Proofs.YtpiookjdeopmgaaDoor
namespace Go.Proofs.YtpiookjdeopmgaaDoor
open Go.RowKit

/-- 'string([]byte{x})' -/
theorem str_one (b : UInt8) (W : World) : (convert 95 9 (.slice (some ⟨W.heap.size, 0, none⟩) 1 1)).run Tryd.prog (W.alloc (.cells #[.int .u8 (b.toNat : Int)] 5)) = .ok (.string (bs [b])) (W.alloc (.cells #[.int .u8 (b.toNat : Int)] 5)) :=
  run_convert_bytes_back _ 95 9 5 ⟨W.heap.size, 0, none⟩ 1 [b] Tryd.underlying95 Tryd.underlying5 Tryd.underlying9 (news_one _ _ _ rfl)

theorem fig_dig (m : Nat) : fig ((m : Int) % 10) = digB m := by
  unfold fig digB
  rw [if_pos (by omega)]
  congr 1

theorem bsz (l : List UInt8) : (bs l).size = l.length := by simp [bs, ByteArray.size]

/-- what holds at the head of a round of Decimal: m: what is left; t: the figures so far -/
structure Dc (n m : Nat) (t : List UInt8) : Prop where
  all : decN n = decN m ++ t
  len : t.length ≤ 64
  lt : m < 2 ^ (64 - t.length)

theorem Dc.next {n m : Nat} {t : List UInt8} (h : Dc n m t) (hm : 0 < m) : Dc n (m / 10) (digB m :: t) := by
  obtain ⟨h1, h2, h3⟩ := h
  have hl : t.length < 64 := by
    rcases Nat.lt_or_ge t.length 64 with h | h
    · exact h
    · rw [show 64 - t.length = 0 by omega] at h3; simp at h3; omega
  refine ⟨by rw [h1, decN_pos hm]; simp, by simp; omega, ?_⟩
  have e : 64 - t.length = (64 - (digB m :: t).length) + 1 := by simp; omega
  rw [e, Nat.pow_succ] at h3
  omega

set_option maxRecDepth 100000 in
set_option maxHeartbeats 1000000 in
theorem dec_pos (n : Nat) (w : World) (h0 : 0 < n) (h1 : (n : Int) ≤ 9223372036854775807) :
    Calls Tryd.prog 37 #[.int .i64 (n : Int)] w fun e w' => e = .returned (.string (bs (decN n))) ∧ Below w.heap.size w w' := by
  have hn0 : ((n : Int) == 0) = false := by simp; omega
  have hst := str_one
  go_enter Tryd.func37, Tryd.ntmps37
  go_wp2
  go_loopw [4, 0] (fun v i wr => ∃ (m : Nat) (t : List UInt8), (m : Int) ≤ 9223372036854775807 ∧ i = .int .i64 m ∧ v = .string (bs t) ∧ Dc n m t ∧ Below w.heap.size w wr) (fun _ i _ => (intOf i).toNat)
  case atStart => exact ⟨n, [], h1, rfl, rfl, ⟨by simp, by simp, by simp; omega⟩, Below.refl _ _⟩
  case round =>
    clear hn0
    obtain ⟨m, t, hm, rfl, rfl, D, hnx⟩ := hrel
    have hsz := hnx.size
    have htl : (bs t).size ≤ 64 := by rw [bsz]; exact D.len
    by_cases hz : 0 < m
    · have hne : ((m : Int) != 0) = true := by simp; omega
      have hs1 : (bs [fig ((m : Int) % 10)]).size ≤ 64 := by rw [bsz]; simp
      go_wp2_with (first | (go_at_call 62; refine (fig_any _ _ (by omega) (by omega)).mono ?_; rintro e w' ⟨rfl, rfl⟩))
      go_roundw
      case rel => exact ⟨m / 10, digB m :: t, by omega, by go_num, by rw [fig_dig, bs_append]; rfl, D.next hz, hnx.alloc hsz _⟩
      case measure => simp [intOf]; omega
    · have hne : ((m : Int) != 0) = false := by simp; omega
      have hm0 : m = 0 := by omega
      have Z := hide hm0
      clear hm0
      go_wp2
      go_ret
      refine ⟨?_, hnx⟩
      have e := D.all
      rw [Z.out, decN_zero, List.nil_append] at e
      rw [e]
      rfl

set_option maxRecDepth 100000 in
set_option maxHeartbeats 1000000 in
theorem dec_neg (n : Nat) (w : World) (h0 : 0 < n) (h1 : (n : Int) ≤ 9223372036854775808) :
    Calls Tryd.prog 37 #[.int .i64 (-(n : Int))] w fun e w' => e = .returned (.string (bs (45 :: decN n))) ∧ Below w.heap.size w w' := by
  have hn0 : (-(n : Int) == 0) = false := by simp; omega
  have hst := str_one
  go_enter Tryd.func37, Tryd.ntmps37
  go_wp2
  go_loopw [4, 0] (fun v i wr => ∃ (m : Nat) (t : List UInt8), (m : Int) ≤ 9223372036854775808 ∧ i = .int .i64 (-(m : Int)) ∧ v = .string (bs t) ∧ Dc n m t ∧ Below w.heap.size w wr) (fun _ i _ => (intOf i).natAbs)
  case atStart => exact ⟨n, [], h1, rfl, rfl, ⟨by simp, by simp, by simp; omega⟩, Below.refl _ _⟩
  case round =>
    clear hn0
    obtain ⟨m, t, hm, rfl, rfl, D, hnx⟩ := hrel
    have hsz := hnx.size
    have htl : (bs t).size ≤ 64 := by rw [bsz]; exact D.len
    have htm : (-(m : Int)).tmod 10 = -((m : Int) % 10) := by rw [Int.neg_tmod, Int.tmod_eq_emod_of_nonneg (by omega)]
    have htd : (-(m : Int)).tdiv 10 = -((m : Int) / 10) := by rw [Int.neg_tdiv, Int.tdiv_eq_ediv_of_nonneg (by omega)]
    by_cases hz : 0 < m
    · have hne : (-(m : Int) != 0) = true := by simp; omega
      have hs1 : (bs [fig ((m : Int) % 10)]).size ≤ 64 := by rw [bsz]; simp
      by_cases hd : 0 < (m : Int) % 10
      · go_wp2_with (first | (go_at_call 62; refine (fig_any _ _ (by omega) (by omega)).mono ?_; rintro e w' ⟨rfl, rfl⟩))
        go_roundw
        case rel => exact ⟨m / 10, digB m :: t, by omega, by go_num, by rw [fig_dig, bs_append]; rfl, D.next hz, hnx.alloc hsz _⟩
        case measure => simp [intOf]; omega
      · have hd0 : (m : Int) % 10 = 0 := by omega
        have hs2 : (bs [fig 0]).size ≤ 64 := by rw [bsz]; simp
        go_wp2_with (first | (go_at_call 62; refine (fig_any _ _ (by omega) (by omega)).mono ?_; rintro e w' ⟨rfl, rfl⟩))
        go_roundw
        case rel => exact ⟨m / 10, digB m :: t, by omega, by go_num, by rw [← hd0, fig_dig, bs_append]; rfl, D.next hz, hnx.alloc hsz _⟩
        case measure => simp [intOf]; omega
    · have hne : (-(m : Int) != 0) = false := by simp; omega
      have hm0 : m = 0 := by omega
      have Z := hide hm0
      clear hm0
      go_wp2
      go_ret
      refine ⟨?_, hnx⟩
      have e := D.all
      rw [Z.out, decN_zero, List.nil_append] at e
      rw [e, show (45 :: t) = [45] ++ t from rfl, ← bs_append]
      rfl

set_option maxHeartbeats 400000 in
theorem dec_zero (w : World) : Calls Tryd.prog 37 #[.int .i64 0] w fun e w' => e = .returned (.string (bs [48])) ∧ Below w.heap.size w w' := by
  go_enter Tryd.func37, Tryd.ntmps37
  go_wp2
  go_ret
  exact ⟨rfl, Below.refl _ _⟩

/-- the decimal text of an int -/
def decI (n : Int) : List UInt8 := if n < 0 then 45 :: decN n.natAbs else decS n.natAbs

theorem dec_any (n : Int) (w : World) (h0 : -9223372036854775808 ≤ n) (h1 : n ≤ 9223372036854775807) :
    Calls Tryd.prog 37 #[.int .i64 n] w fun e w' => e = .returned (.string (bs (decI n))) ∧ Below w.heap.size w w' := by
  by_cases hz : n = 0
  · subst hz; exact dec_zero w
  by_cases hn : n < 0
  · have e : n = -(n.natAbs : Int) := by omega
    have e2 : decI n = 45 :: decN n.natAbs := by unfold decI; rw [if_pos hn]
    rw [e2]
    have := dec_neg n.natAbs w (by omega) (by omega)
    rw [← e] at this
    exact this
  · have e : n = (n.natAbs : Int) := by omega
    have e2 : decI n = decN n.natAbs := by unfold decI decS; rw [if_neg hn, if_neg (by omega)]
    rw [e2]
    have := dec_pos n.natAbs w (by omega) (by omega)
    rw [← e] at this
    exact this
end Go.Proofs.YtpiookjdeopmgaaDoor
namespace Go.Proofs.YtpiookjdeopmgaaDoor
open Go.RowKit

set_option maxRecDepth 100000 in
set_option maxHeartbeats 2000000 in
theorem isIn_any (x a b : Int) (w : World) : Calls Tryd.prog 87 #[.int .i64 x, .int .i64 a, .int .i64 b] w fun e w' => e = .returned (.bool (inB x a b)) ∧ w = w' := by
  by_cases h1 : a ≤ x <;> by_cases h2 : x ≤ b
  all_goals
    go_enter Tryd.func87, Tryd.ntmps87
    go_wp2
    go_ret
    exact ⟨by simp [inB, h1, h2], rfl⟩

def cmpN (a b : Int) : Int := if a < b then -1 else if b < a then 1 else 0

theorem ret_i {a b : Int} (h : b = a) : Ending.returned (.int .i64 a) = .returned (.int .i64 b) := by rw [h]

set_option maxRecDepth 100000 in
set_option maxHeartbeats 1000000 in
theorem isNaN_any (a : Int) (w : World) : Calls Tryd.prog 108 #[.int .i64 a] w fun e w' => e = .returned (.bool false) ∧ w = w' := by
  go_enter Tryd.func108, Tryd.ntmps108
  go_wp2
  go_ret
  exact ⟨by simp, rfl⟩

set_option maxRecDepth 100000 in
set_option maxHeartbeats 1000000 in
theorem compare_any (a b : Int) (w : World) : Calls Tryd.prog 93 #[.int .i64 a, .int .i64 b] w fun e w' => e = .returned (.int .i64 (cmpN a b)) ∧ w = w' := by
  go_enter Tryd.func93, Tryd.ntmps93
  go_wp2_with fail
  refine (isNaN_any a _).mono ?_
  rintro e w1 ⟨rfl, rfl⟩
  go_wp2_with fail
  refine (isNaN_any b _).mono ?_
  rintro e w1 ⟨rfl, rfl⟩
  go_wp2
  all_goals go_ret
  all_goals refine ⟨ret_i ?_, rfl⟩
  all_goals (unfold cmpN; grind)
end Go.Proofs.YtpiookjdeopmgaaDoor
namespace Go.Proofs.YtpiookjdeopmgaaDoor
open Go.RowKit

/-- whatever order is picked, S holds behind every operation till number st has come up -/
def wpAnyL (P : Program) (ops : Array Oper) (Q : Exit → Act → World → Prop) (S : World → Prop) (st : Nat) : Nat → Array Bool → Act → World → Prop
  | 0, listed, a, w => Region.ready .any ops listed = [] ∧ Q .normal a w
  | fuel + 1, listed, a, w =>
    (Region.ready .any ops listed = [] → Q .normal a w) ∧
    ∀ i ∈ Region.ready .any ops listed, wpOp P ops Q i (fun a' w' => ((listed.setIfInBounds i true).getD st true = false → S w') ∧ wpAnyL P ops Q S st fuel (listed.setIfInBounds i true) a' w') a w

section
variable {P : Program} {ops : Array Oper} {Q : Exit → Act → World → Prop} {S : World → Prop} {st : Nat}

theorem wpAny_of_L : ∀ (fuel : Nat) (listed : Array Bool) (a : Act) (w : World), wpAnyL P ops Q S st fuel listed a w → wpAny P .any ops Q fuel listed a w
  | 0, _, _, _, h => h
  | fuel + 1, _, _, _, h => ⟨h.1, fun i hi => wpOp_mono (fun a' w' h' => wpAny_of_L fuel _ a' w' h'.2) (h.2 i hi)⟩

/-- the operations T (st among them) come up behind number i alone, and none of them has come up -/
def behindB (ops : Array Oper) (listed : Array Bool) (i st : Nat) (T : List Nat) : Bool :=
  T.contains st && T.all fun t => t != i && (listed.getD t true == false) && (match ops[t]? with | some o => o.after.any (fun e => Region.binds .any e && (e.on == i || T.contains e.on)) | none => false)

theorem un_getD {listed : Array Bool} {k : Nat} (h0 : listed.getD k true = false) (h1 : listed.getD k false = true) : False := by
  rcases Nat.lt_or_ge k listed.size with h' | h'
  · simp [h'] at h0 h1; rw [h0] at h1; cases h1
  · simp [Array.getElem?_eq_none h'] at h1

theorem wpAnyL_first {i : Nat} {oi : Oper} {v : Value} (hi : ops[i]? = some oi) (hsel : ∀ (j : Nat) (o : Oper) cs b, ops[j]? = some o → o.op ≠ .select cs b)
    (hQ : ∀ c a w, Q (.panic c) (a.put oi.dst v) w → Q (.panic c) a w) (T : List Nat) (hst : st ∈ T) (hne : ∀ t ∈ T, t ≠ i)
    (hT : ∀ t ∈ T, ∀ o, ops[t]? = some o → ∃ e ∈ o.after, Region.binds .any e = true ∧ (e.on = i ∨ e.on ∈ T)) :
    ∀ (fuel : Nat) (listed : Array Bool) (a : Act) (w : World),
      (∀ j oj, ops[j]? = some oj → j ≠ i → listed.getD j true = false → (∀ e ∈ oj.after, Region.binds .any e = true → e.on ≠ i) → oi.apart ops oj = true) →
      i ∈ Region.ready .any ops listed → (∀ t ∈ T, listed.getD t true = false) → YieldsIf P ops S oi v a → S w →
      wpAnyL P ops Q S st fuel (listed.setIfInBounds i true) (a.put oi.dst v) w → wpAnyL P ops Q S st (fuel + 1) listed a w := by
  intro fuel
  induction fuel with
  | zero =>
    intro listed a w _ hr _ hy hS H
    refine ⟨fun h => (by rw [h] at hr; cases hr), fun j hj => ?_⟩
    by_cases hji : j = i
    · subst hji; exact hy.wpOp hi hS ⟨fun _ => hS, H⟩
    · have := ready_mono hj hji
      rw [H.1] at this
      cases this
  | succ fuel ih =>
    intro listed a w hfree hr hun hy hS H
    refine ⟨fun h => (by rw [h] at hr; cases hr), fun j hj => ?_⟩
    by_cases hji : j = i
    · subst hji; exact hy.wpOp hi hS ⟨fun _ => hS, H⟩
    · have h1 := H.2 j (ready_mono hj hji)
      obtain ⟨hjun, oj, hoj, hall⟩ := mem_ready.1 hj
      have hi0 := (mem_ready.1 hr).1
      have hnot : ∀ e ∈ oj.after, Region.binds .any e = true → e.on ≠ i := fun e he hb heq => un_getD hi0 (heq ▸ hall e he hb)
      have hjT : j ∉ T := fun hm => by
        obtain ⟨e, he, hb, h⟩ := hT j hm oj hoj
        rcases h with h | h
        · exact hnot e he hb h
        · exact un_getD (hun _ h) (hall e he hb)
      have h2 := wpOp_putIf hoj (hfree j oj hoj hji hjun hnot) (fun cs b => hsel i oi cs b hi) (fun cs b => hsel j oj cs b hoj) hQ hy h1
      have hfree' : ∀ k ok, ops[k]? = some ok → k ≠ i → (listed.setIfInBounds j true).getD k true = false →
          (∀ e ∈ ok.after, Region.binds .any e = true → e.on ≠ i) → oi.apart ops ok = true := fun k ok hk hki hun hno => by
        refine hfree k ok hk hki ?_ hno
        by_cases hjk : j = k
        · subst hjk; exact hjun
        · rw [getD_set_ne true hjk] at hun; exact hun
      have hun' : ∀ t ∈ T, (listed.setIfInBounds j true).getD t true = false := fun t ht => by
        rw [getD_set_ne true (fun e => hjT (by rw [e]; exact ht))]
        exact hun t ht
      refine wpOp_mono (fun a' w' h3 => ?_) h2
      have hS' : S w' := h3.2.1 (by
        rw [getD_set_ne true (fun e => hjT (by rw [e]; exact hst)), getD_set_ne true (fun e => hne st hst e.symm)]
        exact hun st hst)
      refine ⟨fun _ => hS', ih (listed.setIfInBounds j true) a' w' hfree' (ready_mono hr (Ne.symm hji)) hun' h3.1 hS' ?_⟩
      rw [Array.setIfInBounds_comm _ _ hji]
      exact h3.2.2

theorem wpAnyL_pure {i : Nat} {oi : Oper} {v : Value} (hi : ops[i]? = some oi) (hsel : ∀ (j : Nat) (o : Oper) cs b, ops[j]? = some o → o.op ≠ .select cs b)
    (hQ : ∀ c a w, Q (.panic c) (a.put oi.dst v) w → Q (.panic c) a w) (his : i ≠ st) :
    ∀ (fuel : Nat) (listed : Array Bool) (a : Act) (w : World),
      (∀ j oj, ops[j]? = some oj → j ≠ i → listed.getD j true = false → (∀ e ∈ oj.after, Region.binds .any e = true → e.on ≠ i) → oi.apart ops oj = true) →
      i ∈ Region.ready .any ops listed → YieldsIf P ops (fun _ => True) oi v a → (listed.getD st true = false → S w) →
      wpAnyL P ops Q S st fuel (listed.setIfInBounds i true) (a.put oi.dst v) w → wpAnyL P ops Q S st (fuel + 1) listed a w := by
  intro fuel
  induction fuel with
  | zero =>
    intro listed a w _ hr hy hS H
    refine ⟨fun h => (by rw [h] at hr; cases hr), fun j hj => ?_⟩
    by_cases hji : j = i
    · subst hji; exact hy.wpOp hi trivial ⟨fun h => hS (by rw [getD_set_ne true his] at h; exact h), H⟩
    · have := ready_mono hj hji
      rw [H.1] at this
      cases this
  | succ fuel ih =>
    intro listed a w hfree hr hy hS H
    refine ⟨fun h => (by rw [h] at hr; cases hr), fun j hj => ?_⟩
    by_cases hji : j = i
    · subst hji; exact hy.wpOp hi trivial ⟨fun h => hS (by rw [getD_set_ne true his] at h; exact h), H⟩
    · have h1 := H.2 j (ready_mono hj hji)
      obtain ⟨hjun, oj, hoj, hall⟩ := mem_ready.1 hj
      have hi0 := (mem_ready.1 hr).1
      have hnot : ∀ e ∈ oj.after, Region.binds .any e = true → e.on ≠ i := fun e he hb heq => un_getD hi0 (heq ▸ hall e he hb)
      have h2 := wpOp_putIf hoj (hfree j oj hoj hji hjun hnot) (fun cs b => hsel i oi cs b hi) (fun cs b => hsel j oj cs b hoj) hQ hy h1
      have hfree' : ∀ k ok, ops[k]? = some ok → k ≠ i → (listed.setIfInBounds j true).getD k true = false →
          (∀ e ∈ ok.after, Region.binds .any e = true → e.on ≠ i) → oi.apart ops ok = true := fun k ok hk hki hun hno => by
        refine hfree k ok hk hki ?_ hno
        by_cases hjk : j = k
        · subst hjk; exact hjun
        · rw [getD_set_ne true hjk] at hun; exact hun
      refine wpOp_mono (fun a' w' h3 => ?_) h2
      have hS' : (listed.setIfInBounds j true).getD st true = false → S w' := fun h => h3.2.1 (by
        rw [Array.setIfInBounds_comm _ _ (Ne.symm hji), getD_set_ne true his]
        exact h)
      refine ⟨hS', ih (listed.setIfInBounds j true) a' w' hfree' (ready_mono hr (Ne.symm hji)) h3.1 hS' ?_⟩
      rw [Array.setIfInBounds_comm _ _ hji]
      exact h3.2.2

variable {fuel : Nat} {listed : Array Bool} {a : Act} {w : World}

/-- the beginning: the region's operations behind a letter -/
theorem wp_region_startL {id : Nat} (st : Nat) (S : World → Prop) (hm : P.follows .mixedOrders = true) (n : Nat) (hn : ops.size = n) (h : ∀ ops', Hid (ops' = ops) → wpAnyL P ops' Q S st n (Array.replicate n false) a w.drew) : (Code.region id ops true).wp P Q a w := by
  refine wp_region_any hm (wpAny_of_L _ _ _ _ (?_ : wpAnyL P ops Q S st _ _ _ _))
  rw [hn]
  exact h ops rfl

/-- an operation that yields v in every world -/
theorem takeL_do (i : Nat) {oi : Oper} {v : Value} (hi : ops[i]? = some oi) (ht : mayTake ops listed i = true) (hw : Region.wanted oi (yielded ops a.tmps) = true) (hy : ∀ w, (execOp a.eval oi).run P w = .ok (.value v) w)
    (hQ : ∀ c a w, Q (.panic c) (a.put oi.dst v) w → Q (.panic c) a w) (his : (i != st) = true) (hS : S w) (h : wpAnyL P ops Q S st fuel (listed.setIfInBounds i true) (a.put oi.dst v) w) : wpAnyL P ops Q S st (fuel + 1) listed a w := by
  obtain ⟨h1, h2, h3⟩ := mayTake_parts ht
  exact wpAnyL_pure hi (Region.noSelect_spec h1) hQ (by simpa using his) fuel listed a w (Region.free_spec hi h2) (by simpa using h3) (.inl ⟨hw, fun w _ => hy w⟩) (fun _ => hS) h

/-- an operation that yields v in every world that meets S, and that number st waits for -/
theorem takeL_held (i : Nat) (T : List Nat) {oi : Oper} {v : Value} (hi : ops[i]? = some oi) (ht : mayTake ops listed i = true) (hT : behindB ops listed i st T = true) (hw : Region.wanted oi (yielded ops a.tmps) = true) (hy : ∀ w, S w → (execOp a.eval oi).run P w = .ok (.value v) w)
    (hQ : ∀ c a w, Q (.panic c) (a.put oi.dst v) w → Q (.panic c) a w) (hS : S w) (h : wpAnyL P ops Q S st fuel (listed.setIfInBounds i true) (a.put oi.dst v) w) : wpAnyL P ops Q S st (fuel + 1) listed a w := by
  obtain ⟨h1, h2, h3⟩ := mayTake_parts ht
  unfold behindB at hT
  simp only [Bool.and_eq_true, List.all_eq_true, bne_iff_ne, beq_iff_eq, ne_eq] at hT
  refine wpAnyL_first hi (Region.noSelect_spec h1) hQ T (by simpa using hT.1) (fun t ht => (hT.2 t ht).1.1) (fun t ht o ho => ?_) fuel listed a w (Region.free_spec hi h2) (by simpa using h3) (fun t ht => (hT.2 t ht).1.2) (.inl ⟨hw, hy⟩) hS h
  have h4 := (hT.2 t ht).2
  rw [ho] at h4
  simp only [Array.any_eq_true'] at h4
  obtain ⟨e, he, h5⟩ := h4
  simp only [Bool.and_eq_true, Bool.or_eq_true, beq_iff_eq, List.contains_iff_mem] at h5
  exact ⟨e, he, h5.1, h5.2⟩

/-- a call that alone may come up -/
theorem takeL_call (i : Nat) {oi : Oper} (hi : ops[i]? = some oi) (hr : Region.ready .any ops listed = [i]) (hw : Region.wanted oi (yielded ops a.tmps) = true)
    (h : ∀ K' : Act → World → Prop, Shut (∀ a w, ((listed.setIfInBounds i true).getD st true = false → S w) → wpAnyL P ops Q S st fuel (listed.setIfInBounds i true) a w → K' a w) → Oper.wp P oi a w K' Q) : wpAnyL P ops Q S st (fuel + 1) listed a w := by
  refine ⟨fun h0 => (by rw [h0] at hr; cases hr), fun j hj => ?_⟩
  rw [hr] at hj
  have e : j = i := by simpa using hj
  subst e
  refine wpOp_step hi (fun K' hK => ?_)
  rw [if_pos hw]
  exact h K' (fun a w hS hW => hK a w ⟨hS, hW⟩)

theorem wpAnyL_done (hr : Region.ready .any ops listed = []) (h : Q .normal a w) : ∀ fuel, wpAnyL P ops Q S st fuel listed a w
  | 0 => ⟨hr, h⟩
  | _ + 1 => ⟨fun _ => h, by rw [hr]; simp⟩
end
end Go.Proofs.YtpiookjdeopmgaaDoor
namespace Go.Proofs.YtpiookjdeopmgaaDoor
open Go.RowKit

theorem retI {k : IntKind} {a b : Int} (h : a = b) : Ending.returned (.int k a) = .returned (.int k b) := by rw [h]

set_option maxHeartbeats 400000 in
theorem val_any (c : Nat) (w : World) (hc : c < 256) : Calls Tryd.prog 70 #[.int .u8 (c : Int)] w fun e w' => e = .returned (.int .i64 (fv c)) ∧ w = w' := by
  by_cases h1 : 48 ≤ c ∧ c ≤ 57
  · rw [fv_dig h1]
    obtain ⟨h1, h2⟩ := h1
    go_enter Tryd.func70, Tryd.ntmps70
    go_wp2
    go_ret
    exact ⟨retI (by omega), rfl⟩
  by_cases h2 : 97 ≤ c ∧ c ≤ 102
  · rw [fv_let h2]
    obtain ⟨h2, h3⟩ := h2
    have h4 : 57 < c := by omega
    go_enter Tryd.func70, Tryd.ntmps70
    go_wp2
    go_ret
    exact ⟨retI (by omega), rfl⟩
  rw [fv_no h1 h2]
  have h3 : c < 48 ∨ (57 < c ∧ c < 97) ∨ 102 < c := by omega
  clear h1 h2
  rcases h3 with h | ⟨h, h'⟩ | h
  all_goals
    go_enter Tryd.func70, Tryd.ntmps70
    go_wp2
    go_ret
    exact ⟨rfl, rfl⟩

theorem pair_int (a b : UInt8) (x y : Int) (hx : x = fv a.toNat) (hy : y = fv b.toNat) (h0 : 0 ≤ x) (h1 : 0 ≤ y) : 16 * x + y = ((pairB a b).toNat : Int) := by
  have h2 := fv_le a.toNat
  have h3 := fv_le b.toNat
  subst hx hy
  simp [pairB]
  omega

set_option maxRecDepth 100000 in
set_option maxHeartbeats 1000000 in
theorem suh_in (s : ByteArray) (w : World) (hs : s.size ≤ 40000) (he : (s.size : Int) % 2 = 0) :
    Calls Tryd.prog 48 #[.string s] w fun e w' => e = .returned (unV s) ∧ Below w.heap.size w w' := by
  go_enter Tryd.func48, Tryd.ntmps48
  go_wp2
  go_loopw [4, 5] (fun v i wr => ∃ (k : Nat) (l : List UInt8), k ≤ s.size ∧ i = .int .i64 k ∧ Hid (k % 2 = 0 ∧ okF (s.data.toList.take k) = true ∧ l = unL (s.data.toList.take k)) ∧ wr.ownsRow w.heap.size 5 1 v l.length (cellsOf l) ∧ Below w.heap.size w wr)
    (fun _ i _ => s.size - (intOf i).toNat)
  case atStart =>
    refine ⟨0, [], by omega, rfl, ⟨rfl, rfl, rfl⟩, ?_, (Below.refl _ _).alloc (Nat.le_refl _) _⟩
    exact World.ownsRow_lit _ _ 0 (by simp) (by decide) rfl
  case round =>
    obtain ⟨k, l, hk, rfl, hl, hown, hnx⟩ := hrel
    have hsz := hnx.size
    have hll : l.length ≤ k := by
      rw [hl.out.2.2]
      have := unL_len (s.data.toList.take k)
      have := List.length_take_le k s.data.toList
      omega
    by_cases hlt : k < s.size
    · have hlt2 : k + 1 < s.size := by have := hl.out.1; omega
      obtain ⟨c, hc⟩ : ∃ c : Nat, c = s[k].toNat := ⟨_, rfl⟩
      obtain ⟨d, hd⟩ : ∃ d : Nat, d = s[k + 1].toNat := ⟨_, rfl⟩
      have hcb : c < 256 := by have := s[k].toNat_lt; omega
      have hdb : d < 256 := by have := s[k + 1].toNat_lt; omega
      have hix := idx_str Tryd.underlying9 s k c hlt hc
      have hiy := idx_str Tryd.underlying9 s (k + 1) d hlt2 hd
      rw [show ((k + 1 : Nat) : Int) = (k : Int) + 1 from by omega] at hiy
      obtain ⟨x, hx⟩ : ∃ x : Int, x = fv c := ⟨_, rfl⟩
      obtain ⟨y, hy⟩ : ∃ y : Int, y = fv d := ⟨_, rfl⟩
      have hx1 := fv_le c
      have hy1 := fv_le d
      rw [← hx] at hx1
      rw [← hy] at hy1
      have C : Hid (c = s[k].toNat ∧ d = s[k + 1].toNat ∧ x = fv c ∧ y = fv d) := ⟨hc, hd, hx, hy⟩
      have hvc : ∀ w, Calls Tryd.prog 70 #[.int .u8 (c : Int)] w fun e w' => e = .returned (.int .i64 x) ∧ w = w' := fun w => by rw [hx]; exact val_any c w hcb
      have hvd : ∀ w, Calls Tryd.prog 70 #[.int .u8 (d : Int)] w fun e w' => e = .returned (.int .i64 y) ∧ w = w' := fun w => by rw [hy]; exact val_any d w hdb
      have VC := hide hvc
      have VD := hide hvd
      clear hc hd hx hy hvc hvd
      by_cases hx0 : x < 0
      · have hf : okF s.data.toList = false := okF_bad s k hlt (by obtain ⟨e1, e2, e3, e4⟩ := C.out; rw [← e1, ← e3]; exact hx0)
        have F := hide hf
        clear hf
        go_wp2_with fail
        refine (VC.out _).mono ?_
        rintro e w' ⟨rfl, rfl⟩
        go_wp2_with fail
        refine (VD.out _).mono ?_
        rintro e w' ⟨rfl, rfl⟩
        go_wp2
        go_ret2
        exact ⟨by rw [unV_no F.out]; rfl, hnx⟩
      by_cases hy0 : y < 0
      · have hf : okF s.data.toList = false := okF_bad s (k + 1) hlt2 (by obtain ⟨e1, e2, e3, e4⟩ := C.out; rw [← e2, ← e4]; exact hy0)
        have F := hide hf
        clear hf
        go_wp2_with fail
        refine (VC.out _).mono ?_
        rintro e w' ⟨rfl, rfl⟩
        go_wp2_with fail
        refine (VD.out _).mono ?_
        rintro e w' ⟨rfl, rfl⟩
        go_wp2
        go_ret2
        exact ⟨by rw [unV_no F.out]; rfl, hnx⟩
      have hpr := pair_int s[k] s[k + 1] x y (by obtain ⟨e1, e2, e3, e4⟩ := C.out; rw [← e1]; exact e3) (by obtain ⟨e1, e2, e3, e4⟩ := C.out; rw [← e2]; exact e4) (by omega) (by omega)
      have P := hide hpr
      clear hpr
      go_wp2_with fail
      refine (VC.out _).mono ?_
      rintro e w' ⟨rfl, rfl⟩
      go_wp2_with fail
      refine (VD.out _).mono ?_
      rintro e w' ⟨rfl, rfl⟩
      go_wp2_with (first
        | (at_builtin; refine wpList_append_bytes _ rfl _ _ 95 rfl w.heap.size 5 Tryd.underlying95 Tryd.info5 u4 l [pairB s[k] s[k + 1]] rfl (hown.alloc _) ⟨wr.heap.size, 0, none⟩ 1 rfl (news_one _ _ _ P.out) (by simp; omega) (by simp; omega) ?_))
      intro v' w1 l' hl' hown' hgrow
      have hb := below_append _ hnx hown (Nat.le_refl _) hsz hgrow
      clear hgrow hnx hown
      go_wp2
      go_roundw
      case rel =>
        obtain ⟨e1, e2, e3⟩ := hl.out
        obtain ⟨f1, f2, f3, f4⟩ := C.out
        have g1 : s.data.toList.take (k + 2) = s.data.toList.take k ++ [s[k], s[k + 1]] := by
          rw [take_one s (k + 1) hlt2, take_one s k hlt]; simp
        refine ⟨k + 2, l', by omega, by go_num, ⟨by omega, ?_, ?_⟩, hown', hb⟩
        · rw [g1, okF_append, e2]
          simp [okF]
          rw [← f1, ← f2, ← f3, ← f4]
          omega
        · rw [g1, unL_snoc _ _ _ (by simp; omega), ← e3]
          exact hl'.out
      case measure => simp [intOf]; omega
    · have hstr := run_str_own (P := Tryd.prog) 95 9 5 Tryd.underlying95 Tryd.underlying5 Tryd.underlying9 hown
      go_wp2
      go_ret2
      refine ⟨?_, hnx⟩
      obtain ⟨e1, e2, e3⟩ := hl.out
      have e4 : s.data.toList.take k = s.data.toList := List.take_of_length_le (by simp; omega)
      rw [e4] at e2 e3
      rw [unV_yes e2, ← e3]
      rfl

set_option maxRecDepth 100000 in
set_option maxHeartbeats 400000 in
theorem suh_any (s : ByteArray) (w : World) (hs : s.size ≤ 1048576) : Calls Tryd.prog 48 #[.string s] w fun e w' => e = .returned (unW s) ∧ Below w.heap.size w w' := by
  by_cases h1 : (40000 : Int) < (s.size : Int)
  · rw [unW_out (by omega)]
    go_enter Tryd.func48, Tryd.ntmps48
    go_wp2
    go_ret2
    exact ⟨rfl, Below.refl _ _⟩
  by_cases h2 : (s.size : Int) % 2 = 0
  · rw [unW_in (by omega) h2]
    exact suh_in s w (by omega) h2
  · rw [unW_out (by omega)]
    have h3 : (s.size : Int) % 2 = 1 := by omega
    clear h2
    go_enter Tryd.func48, Tryd.ntmps48
    go_wp2
    go_ret2
    exact ⟨rfl, Below.refl _ _⟩

end Go.Proofs.YtpiookjdeopmgaaDoor
