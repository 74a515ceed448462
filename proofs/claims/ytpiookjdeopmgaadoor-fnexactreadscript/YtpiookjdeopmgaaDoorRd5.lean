/-
  What rows of structs and struct results want, of no function.
  spec.ReadDecimal: its contract; the law.
  Rows of strings that a call made: laws.markText, eqStringS, markStringS, heldStringS.
  spec.l01Below: some answer in its range.
  laws.eqIntS, markIntS, heldIntS, toIntS, szIntS: their contracts (IntRow2 without nets).
  Links and things as values; laws.toLink, toThing, eqLink, eqThing.
  'append(out, x)' of a struct of four cells, out a row that the call itself made.
  laws.eqStringS, markStringS, heldStringS: their contracts over rows that calls made.
  A cursor over the bytes of a draw: spec.l01New, l01Once, l01PickInt; laws.big.
  Rows of strings wherever they lie; spec.l14Nums, impl.numbersIn: their contracts.
  Links and things in a row.
  append of one element, as an operation of a region (cut out of RpDag).
  laws.heldStringS: its contract over a row of marks.
-/
import Derived.Test.YtpiookjdeopmgaaDoorRd3
import Derived.Handy
import Derived.Test.YtpiookjdeopmgaaDoorRd4
namespace Go.Proofs.YtpiookjdeopmgaaDoor
open Go.RowKit

theorem ret_bool_no {p : Prop} [Decidable p] (h : ¬ p) : Ending.returned (.bool false) = .returned (.bool (decide p)) := by rw [decide_eq_false h]

theorem ret_bool_yes {p : Prop} [Decidable p] (h : p) : Ending.returned (.bool true) = .returned (.bool (decide p)) := by rw [decide_eq_true h]

theorem below_two {w : World} (o1 o2 : Obj) : Below w.heap.size w ((w.alloc o1).alloc o2) := ((Below.refl _ _).alloc (Nat.le_refl _) _).alloc (by simp) _

/-- k of them copied -/
def part {α : Type} (xs : List α) (z : α) (k : Nat) : List α := xs.take k ++ List.replicate (xs.length - k) z

theorem ne_at {α : Type} {xs ys : List α} {k : Nat} {x y : α} (hx : xs[k]? = some x) (hy : ys[k]? = some y) (h : x ≠ y) : ¬ xs = ys := by
  rintro rfl
  rw [hx] at hy
  exact h (Option.some.inj hy)

theorem eq_all {α : Type} {xs ys : List α} (hl : xs.length = ys.length) (h : ∀ j, j < xs.length → xs[j]? = ys[j]?) : xs = ys := by
  apply List.ext_getElem?
  intro i
  by_cases hi : i < xs.length
  · exact h i hi
  · rw [List.getElem?_eq_none (by omega), List.getElem?_eq_none (by omega)]

theorem ret_bool {a b : Bool} (h : b = a) : Ending.returned (.bool a) = .returned (.bool b) := by rw [h]
end Go.Proofs.YtpiookjdeopmgaaDoor
namespace Go.Proofs.YtpiookjdeopmgaaDoor
open Go.RowKit

theorem val10_lt : ∀ (l : List UInt8) (a : Nat), allD l = true → val10 l a < (a + 1) * 10 ^ l.length
  | [], a, _ => by simp [val10]
  | c :: r, a, h => by
    have hc : 48 ≤ c.toNat ∧ c.toNat ≤ 57 := by simp [allD, isD] at h; exact h.1
    have hr : allD r = true := by simp [allD] at h ⊢; exact h.2
    have ih := val10_lt r (10 * a + (c.toNat - 48)) hr
    simp only [val10, List.length_cons, Nat.pow_succ]
    refine Nat.lt_of_lt_of_le ih ?_
    have e : (a + 1) * (10 ^ r.length * 10) = (10 * (a + 1)) * 10 ^ r.length := by rw [Nat.mul_comm (10 ^ r.length) 10, ← Nat.mul_assoc, Nat.mul_comm (a + 1) 10]
    rw [e]
    exact Nat.mul_le_mul_right _ (by omega)

theorem valD_ten (l : List UInt8) (h : allD l = true) (hl : l.length ≤ 10) : valD l ≤ 9999999999 := by
  have h1 := val10_lt l 0 h
  have h2 : 10 ^ l.length ≤ 10 ^ 10 := Nat.pow_le_pow_right (by omega) hl
  unfold valD
  omega

theorem cmp_dec {s : ByteArray} {m : Nat} (hm : m = valD s.data.toList) (hd : allD s.data.toList = true) : ((bs (decI (m : Int))).toList == s.toList) = canon s.data.toList := by
  have e : decI (m : Int) = decS m := by unfold decI; rw [if_neg (by omega)]; rfl
  have e2 := dec_iff s.data.toList hd
  rw [ByteArray.toList_eq, ByteArray.toList_eq, e, hm]
  show ((decS (valD s.data.toList)).toArray.toList == s.data.toList) = _
  by_cases h : canon s.data.toList = true
  · rw [e2.2 h, h]; simp
  · have h' : ¬ decS (valD s.data.toList) = s.data.toList := fun x => h (e2.1 x)
    have h2 : canon s.data.toList = false := by simpa using h
    rw [h2]
    simpa using h'

set_option maxRecDepth 100000 in
set_option maxHeartbeats 1000000 in
theorem srd_any (s : ByteArray) (w : World) (hs : s.size ≤ 1048576) : Calls Tryd.prog 44 #[.string s] w fun e w' => e = .returned (rdDV s) ∧ Below w.heap.size w w' := by
  by_cases h10 : (10 : Int) < (s.size : Int)
  · have hno : ¬ (canon s.data.toList = true ∧ valD s.data.toList ≤ 1000000000) := by
      rintro ⟨h1, h2⟩
      have := canon_long _ h1 (by simp; omega)
      omega
    have NO := hide hno
    clear hno
    go_enter Tryd.func44, Tryd.ntmps44
    go_wp2
    go_ret2
    exact ⟨retD_no NO.out, Below.refl _ _⟩
  go_enter Tryd.func44, Tryd.ntmps44
  go_wp2
  go_loop [4, 5] (fun n i => ∃ (k m : Nat), k ≤ s.size ∧ m ≤ 9999999999 ∧ i = .int .i64 k ∧ n = .int .i64 m ∧ Hid (m = valD (s.data.toList.take k) ∧ allD (s.data.toList.take k) = true)) (fun _ i => s.size - (intOf i).toNat)
  case atStart => exact ⟨0, 0, by omega, by omega, rfl, rfl, ⟨rfl, rfl⟩⟩
  case round =>
    obtain ⟨k, m, hk, hm, rfl, rfl, hl⟩ := hrel
    by_cases hlt : k < s.size
    · obtain ⟨c, hc⟩ : ∃ c : Nat, c = s[k].toNat := ⟨_, rfl⟩
      have hcb : c < 256 := by have := s[k].toNat_lt; omega
      have hix := idx_str Tryd.underlying9 s k c hlt hc
      have C : Hid (c = s[k].toNat) := hc
      clear hc
      have h3 : (48 ≤ c ∧ c ≤ 57) ∨ c < 48 ∨ 57 < c := by omega
      rcases h3 with ⟨ha, hb⟩ | h | h
      · go_wp2
        go_round
        case rel =>
          obtain ⟨e1, e2⟩ := hl.out
          have e3 := C.out
          have e4 : allD (s.data.toList.take (k + 1)) = true := by rw [takeD_one s k hlt, allD_snoc, e2]; simp [isD]; omega
          have e5 : valD (s.data.toList.take (k + 1)) = 10 * m + (c - 48) := by rw [takeD_one s k hlt, valD_snoc, ← e1, ← e3]
          have e6 := valD_ten _ e4 (by simp; omega)
          exact ⟨k + 1, 10 * m + (c - 48), by omega, by omega, by go_num, by go_num, ⟨e5.symm, e4⟩⟩
        case measure => simp [intOf]; omega
      all_goals
        have hno : ¬ (canon s.data.toList = true ∧ valD s.data.toList ≤ 1000000000) := by
          rintro ⟨h1, h2⟩
          have h5 := canon_allD h1
          have h6 := allD_bad s k hlt (by have := C.out; omega)
          rw [h6] at h5
          cases h5
        have NO := hide hno
        clear hno
        go_wp2
        go_ret2
        exact ⟨retD_no NO.out, Below.refl _ _⟩
    · have hall : s.data.toList.take k = s.data.toList := List.take_of_length_le (by simp; omega)
      have hl2 := hl.out
      rw [hall] at hl2
      have L := hide hl2
      clear hall hl hl2
      by_cases hbig : (1000000000 : Int) < (m : Int)
      · go_wp2
        go_ret2
        exact ⟨retD_no (by have := L.out.1; omega), Below.refl _ _⟩
      · go_wp2_with (first | (go_at_call 37; refine (dec_any _ _ (by omega) (by omega)).mono ?_; rintro e w1 ⟨rfl, hb⟩))
        · go_ret2
          have hx : (!((bs (decI (m : Int))).toList == s.toList)) = true := by assumption
          rw [cmp_dec L.out.1 L.out.2] at hx
          exact ⟨retD_no (by intro h; rw [h.1] at hx; cases hx), hb⟩
        · go_ret2
          have hx : (!((bs (decI (m : Int))).toList == s.toList)) = false := by assumption
          rw [cmp_dec L.out.1 L.out.2] at hx
          exact ⟨retD_yes (by simpa using hx) (by have := L.out.1; omega) (by have := L.out.1; omega), hb⟩

end Go.Proofs.YtpiookjdeopmgaaDoor
namespace Go.Proofs.YtpiookjdeopmgaaDoor
open Go.RowKit

def strs (xs : List (List UInt8)) : List Value := xs.map fun l => Value.string (bs l)
theorem strs_at (xs : List (List UInt8)) (i : Nat) (h : i < xs.length) : (strs xs)[i]? = some (.string (bs xs[i])) := by simp [strs, List.getElem?_eq_getElem h]

/-- the mark of a number -/
def mkT (k : Int) : List UInt8 := if k ≤ 0 then [109, 48] else 109 :: decN k.toNat

set_option maxRecDepth 100000 in
set_option maxHeartbeats 1000000 in
theorem mark_pos (n : Nat) (w : World) (h0 : 0 < n) (h1 : (n : Int) ≤ 9223372036854775807) :
    Calls Tryd.prog 33 #[.int .i64 (n : Int)] w fun e w' => e = .returned (.string (bs (109 :: decN n))) ∧ Below w.heap.size w w' := by
  have hst := str_one
  go_enter Tryd.func33, Tryd.ntmps33
  go_wp2
  go_loopw [3, 0] (fun v i wr => ∃ (m : Nat) (t : List UInt8), (m : Int) ≤ 9223372036854775807 ∧ i = .int .i64 m ∧ v = .string (bs t) ∧ Dc n m t ∧ Below w.heap.size w wr) (fun _ i _ => (intOf i).toNat)
  case atStart => exact ⟨n, [], h1, rfl, rfl, ⟨by simp, by simp, by simp; omega⟩, Below.refl _ _⟩
  case round =>
    obtain ⟨m, t, hm, rfl, rfl, D, hnx⟩ := hrel
    have hsz := hnx.size
    have htl : (bs t).size ≤ 64 := by rw [bsz]; exact D.len
    by_cases hz : 0 < m
    · have hs1 : (bs [digB m]).size ≤ 64 := by rw [bsz]; simp
      have hdg : (48 : Int) + (m : Int) % 10 = ((digB m).toNat : Int) := by simp [digB]; omega
      go_wp2
      go_roundw
      case rel => exact ⟨m / 10, digB m :: t, by omega, by go_num, by rw [bs_append]; rfl, D.next hz, hnx.alloc hsz _⟩
      case measure => simp [intOf]; omega
    · have hm0 : m = 0 := by omega
      have Z := hide hm0
      clear hm0
      go_wp2
      go_ret
      refine ⟨?_, hnx⟩
      have e := D.all
      rw [Z.out, decN_zero, List.nil_append] at e
      rw [e, show (109 :: t) = [109] ++ t from rfl, ← bs_append]
      rfl

theorem mark_any (k : Int) (w : World) (h1 : k ≤ 9223372036854775807) :
    Calls Tryd.prog 33 #[.int .i64 k] w fun e w' => e = .returned (.string (bs (mkT k))) ∧ Below w.heap.size w w' := by
  by_cases hk : k ≤ 0
  · have e : mkT k = [109, 48] := by unfold mkT; rw [if_pos hk]
    rw [e]
    go_enter Tryd.func33, Tryd.ntmps33
    go_wp2
    go_ret
    exact ⟨rfl, Below.refl _ _⟩
  · have e : mkT k = 109 :: decN k.toNat := by unfold mkT; rw [if_neg hk]
    have e2 : k = (k.toNat : Int) := by omega
    rw [e]
    have := mark_pos k.toNat w (by omega) (by omega)
    rw [← e2] at this
    exact this
end Go.Proofs.YtpiookjdeopmgaaDoor
namespace Go.Proofs.YtpiookjdeopmgaaDoor
open Go.RowKit

end Go.Proofs.YtpiookjdeopmgaaDoor
namespace Go.Proofs.YtpiookjdeopmgaaDoor
open Go.RowKit

theorem below_drewN {B : Nat} {w wr : World} (h : Below B w wr) (n : Nat) : Below B w (wr.drewN n) := ⟨h.os, h.tape, h.output, h.size, h.block⟩

/-- cells of numbers, as rows of structs of one cell -/
def intE (z : Int) : List Value := [.int .i64 z]

theorem intE_len (z : Int) : (intE z).length = 1 := rfl

def HopsAt (W : World) (v : Value) (l : List Int) (B : Nat) : Prop := StructsAt intE 1 W v l B

theorem HopsAt.then {W W' : World} {v : Value} {l : List Int} (h : HopsAt W v l W.heap.size) (hb : Below W.heap.size W W') : HopsAt W' v l W'.heap.size := RowAt.then h hb

theorem HopsAt.shape {W : World} {v : Value} {l : List Int} {B : Nat} (h : HopsAt W v l B) : ∃ a cap, v = .slice a l.length cap := by obtain ⟨a, cap, h, _⟩ := h; exact ⟨a, cap, h⟩

theorem HopsAt.cell {W : World} {v : Value} {l : List Int} {B : Nat} (h : HopsAt W v l B) (i : Nat) (z : Int) (hz : l[i]? = some z) : ∃ b off cap, v = .slice (some ⟨b, off, none⟩) l.length cap ∧ b < B ∧ W.cell? ⟨b, off + i, none⟩ = some (.int .i64 z) := by
  obtain ⟨b, off, cap, hv, hb, hc⟩ := StructsAt.cell h intE_len i z hz
  exact ⟨b, off, cap, hv, hb, by have := hc 0 _ rfl; simpa using this⟩

end Go.Proofs.YtpiookjdeopmgaaDoor
namespace Go.Proofs.YtpiookjdeopmgaaDoor
open Go.RowKit

structure Lk where
  a : Int
  b : Int
  c : Int
  r : Int
  deriving DecidableEq

structure Th where
  o : Int
  k : Int
  c : Int
  f : Bool
  deriving DecidableEq

def lkV (l : Lk) : Value := .agg #[.int .i64 l.a, .int .i64 l.b, .int .i64 l.c, .int .i64 l.r]

def thV (t : Th) : Value := .agg #[.int .i64 t.o, .int .i64 t.k, .int .i64 t.c, .bool t.f]

set_option maxRecDepth 100000 in
set_option maxHeartbeats 1000000 in
theorem eqLink_any (l m : Lk) (w : World) : Calls Tryd.prog 60 #[lkV l, lkV m] w fun e w' => e = .returned (.bool (decide (l = m))) ∧ Below w.heap.size w w' := by
  obtain ⟨a, b, c, r⟩ := l
  obtain ⟨a', b', c', r'⟩ := m
  unfold lkV
  go_enter Tryd.func60, Tryd.ntmps60
  go_wp2
  all_goals go_returns
  all_goals refine ⟨?_, below_two _ _⟩
  all_goals first
    | exact ret_bool_no (fun h => by cases h; simp_all)
    | exact ret_bool_yes (by simp_all)

set_option maxRecDepth 100000 in
set_option maxHeartbeats 1000000 in
theorem eqThing_any (l m : Th) (w : World) : Calls Tryd.prog 61 #[thV l, thV m] w fun e w' => e = .returned (.bool (decide (l = m))) ∧ Below w.heap.size w w' := by
  obtain ⟨a, b, c, r⟩ := l
  obtain ⟨a', b', c', r'⟩ := m
  unfold thV
  go_enter Tryd.func61, Tryd.ntmps61
  go_wp2
  all_goals go_returns
  all_goals refine ⟨?_, below_two _ _⟩
  all_goals first
    | exact ret_bool_no (fun h => by cases h; simp_all)
    | exact ret_bool_yes (by simp_all)
end Go.Proofs.YtpiookjdeopmgaaDoor
namespace Go.Proofs.YtpiookjdeopmgaaDoor
open Go.RowKit

theorem flat_append {α : Type} {enc : α → List Value} (xs ys : List α) : flat enc (xs ++ ys) = flat enc xs ++ flat enc ys := by simp [flat]

theorem wpList_append_struct {α : Type} {enc : α → List Value} {sz bytes : Nat} (hlen : ∀ a, (enc a).length = sz) (hpos : 0 < sz) (hone : ∀ a, ∀ u ∈ enc a, u.oneCell' = true) (hbb : bytes ≤ 100) {P : Program} (w : World) {ops : Array Oper} {rest : List Oper} {o : Oper} {a : Act} {Q : Exit → Act → World → Prop} (hgd : o.guard = none) (s x : Operand) (t : TypeId)
    (ho : o.op = .call { callee := .builtin .append, args := #[s, x], argTypes := #[t, t] }) (base : Nat) (e : TypeId) (ht : P.underlying t = some (.slice e)) (zv : Value) (hzv : zv.cells.size = sz)
    (hinfo : (P.info? e).map (fun i => (i.zero, i.size, i.bytes)) = some (some zv, sz, bytes))
    (v : Value) (l : List α) (y : α) (hs : a.eval s = v) (hown : w.ownsRow base e sz v l.length (flat enc l))
    (ad : Addr) (c : Nat) (hx : a.eval x = .slice (some ad) 1 c) (hnews : ∀ j u, (enc y)[j]? = some u → w.cell? (ad.add j) = some u)
    (hl : l.length + 1 ≤ 1000000000) (hbase : base ≤ w.heap.size)
    (h : ∀ v' w' l', Hid (l' = l ++ [y]) → w'.ownsRow base e sz v' l'.length (flat enc l') → w.grownBy w' v.ownBlock → wpList P ops Q rest (a.put o.dst v') w') : wpList P ops Q (o :: rest) a w := by
  obtain ⟨i0, hi, hz0, hz1, hz2⟩ := info_parts hinfo
  refine wpList_append_own w hgd s x t ho base e i0 zv sz bytes ht hi hz0 hz1 hz2 hzv hpos v l.length (flat enc l) hs hown ad 1 c (enc y) hx (by rw [hlen]; omega) hnews (hone y) (by unfold maxLen; omega) ?_ hbase ?_
  · have : (l.length + 1) * bytes ≤ 1000000000 * 100 := Nat.mul_le_mul hl hbb
    omega
  · intro v' w' h1 h2 _
    have e1 : flat enc l ++ enc y = flat enc (l ++ [y]) := by rw [flat_append]; simp [flat]
    rw [e1] at h1
    exact h v' w' (l ++ [y]) rfl (by simpa using h1) h2

theorem news_struct {w : World} {cs : List Value} {t : TypeId} : ∀ (j : Nat) (u : Value), cs[j]? = some u → (w.alloc (.cells cs.toArray t)).cell? ((⟨w.heap.size, 0, none⟩ : Addr).add j) = some u := by
  intro j u hj
  have e : (⟨w.heap.size, 0, none⟩ : Addr).add j = ⟨w.heap.size, j, none⟩ := by
    simp only [Addr.add]
    split <;> simp_all
  rw [e, World.cell?_alloc_at _ _ _ _ rfl]
  simpa using hj
end Go.Proofs.YtpiookjdeopmgaaDoor
namespace Go.Proofs.YtpiookjdeopmgaaDoor
open Go.RowKit

theorem strs_get (xs : List (List UInt8)) (i : Nat) (h : i < xs.length) : (strs xs)[i]? = some (.string (bs (xs.getD i []))) := by
  rw [strs_at xs i h]; simp [List.getElem?_eq_getElem h]

theorem strs_set (xs : List (List UInt8)) (i : Nat) (t : List UInt8) : (strs xs).set i (.string (bs t)) = strs (xs.set i t) := by simp [strs]

end Go.Proofs.YtpiookjdeopmgaaDoor
namespace Go.Proofs.YtpiookjdeopmgaaDoor
open Go.RowKit

end Go.Proofs.YtpiookjdeopmgaaDoor
namespace Go.Proofs.YtpiookjdeopmgaaDoor
open Go.RowKit
set_option linter.unusedSimpArgs false
set_option linter.unusedVariables false

def sE (l : List UInt8) : List Value := [.string (bs l)]
theorem sE_len (l : List UInt8) : (sE l).length = 1 := rfl
theorem flat_sE (ls : List (List UInt8)) : flat sE ls = strs ls := by
  unfold flat sE strs
  induction ls with
  | nil => rfl
  | cons a t ih => simp [ih]
def StrsAt (W : World) (v : Value) (l : List (List UInt8)) (B : Nat) : Prop := StructsAt sE 1 W v l B
theorem StrsAt.then {W W' : World} {v : Value} {l : List (List UInt8)} (h : StrsAt W v l W.heap.size) (hb : Below W.heap.size W W') : StrsAt W' v l W'.heap.size := RowAt.then h hb
theorem StrsAt.shape {W : World} {v : Value} {l : List (List UInt8)} {B : Nat} (h : StrsAt W v l B) : ∃ a cap, v = .slice a l.length cap := by obtain ⟨a, cap, h, _⟩ := h; exact ⟨a, cap, h⟩
theorem StrsAt.cell {W : World} {v : Value} {l : List (List UInt8)} {B : Nat} (h : StrsAt W v l B) (i : Nat) (z : List UInt8) (hz : l[i]? = some z) : ∃ b off cap, v = .slice (some ⟨b, off, none⟩) l.length cap ∧ b < B ∧ W.cell? ⟨b, off + i, none⟩ = some (.string (bs z)) := by
  obtain ⟨b, off, cap, hv, hb, hc⟩ := StructsAt.cell h sE_len i z hz
  exact ⟨b, off, cap, hv, hb, by have := hc 0 _ rfl; simpa using this⟩
theorem strsAt_of {W : World} {base : Nat} {v : Value} {l : List (List UInt8)} (h : W.ownsRow base 9 1 v l.length (strs l)) : StrsAt W v l W.heap.size := by
  rw [← flat_sE] at h
  exact owns_rowAt h

/-- a text that is a number -/
def okN (l : List UInt8) : Bool := canon l && decide (valD l ≤ 1000000000)
def numI (l : List UInt8) : Int := (valD l : Int)
def numsB (ls : List (List UInt8)) : Bool := ls.all okN
def numsL (ls : List (List UInt8)) : List Int := if numsB ls = true then ls.map numI else []
theorem numsL_yes {ls : List (List UInt8)} (h : numsB ls = true) : numsL ls = ls.map numI := if_pos h
theorem numsL_no {ls : List (List UInt8)} (h : numsB ls = false) : numsL ls = [] := if_neg (by simp [h])
theorem bs_list (l : List UInt8) : (bs l).data.toList = l := rfl
theorem rd_yes {l : List UInt8} (h : okN l = true) : rdDV (bs l) = .tuple #[.int .i64 (numI l), .bool true] := by
  simp [okN] at h
  exact rdDV_yes (s := bs l) h.1 h.2
theorem rd_no {l : List UInt8} (h : okN l = false) : rdDV (bs l) = .tuple #[.int .i64 0, .bool false] := by
  refine rdDV_no (s := bs l) (fun h2 => ?_)
  rw [bs_list] at h2
  simp [okN, h2.1] at h
  omega
theorem numsB_bad {ls : List (List UInt8)} {k : Nat} {l : List UInt8} (hl : ls[k]? = some l) (h : okN l = false) : numsB ls = false := by
  have := List.mem_of_getElem? hl
  simp only [numsB, List.all_eq_false]
  exact ⟨l, this, by simp [h]⟩
theorem numsB_take {ls : List (List UInt8)} {k : Nat} {l : List UInt8} (hl : ls[k]? = some l) (h0 : numsB (ls.take k) = true) (h : okN l = true) : numsB (ls.take (k + 1)) = true := by
  obtain ⟨hk, e⟩ := List.getElem?_eq_some_iff.1 hl
  rw [List.take_succ_eq_append_getElem hk, e]
  simp only [numsB, List.all_append] at h0 ⊢
  simp [h0, h]
theorem nums_take {ls : List (List UInt8)} {k : Nat} {l : List UInt8} (hl : ls[k]? = some l) : (ls.take (k + 1)).map numI = (ls.take k).map numI ++ [numI l] := by
  obtain ⟨hk, e⟩ := List.getElem?_eq_some_iff.1 hl
  rw [List.take_succ_eq_append_getElem hk, e]
  simp

theorem intsE (w : World) (base : Nat) (h : base ≤ w.heap.size) : (w.alloc (.cells #[] 3)).ownsRow base 3 1 (.slice (some ⟨w.heap.size, 0, none⟩) 0 0) 0 (intsOf []) := World.ownsRow_lit _ _ 0 h (by decide) rfl

set_option maxRecDepth 100000 in
set_option maxHeartbeats 2000000 in
theorem snums_any (v : Value) (ls : List (List UInt8)) (w : World) (hv : StrsAt w v ls w.heap.size) (hn : ls.length ≤ 1048576) (hl : ∀ l ∈ ls, l.length ≤ 1048576) :
    Calls Tryd.prog 20 #[v] w fun e w' => ∃ u, e = .returned (.tuple #[u, .bool (numsB ls)]) ∧ w'.ownsRow w.heap.size 3 1 u (numsL ls).length (intsOf (numsL ls)) ∧ Below w.heap.size w w' := by
  obtain ⟨a1, c1, rfl⟩ := hv.shape
  have HV := hide hv
  have HL := hide hl
  clear hv hl
  obtain ⟨G, hG⟩ : ∃ G, G = numsB ls := ⟨_, rfl⟩
  obtain ⟨L, hL⟩ : ∃ L, L = numsL ls := ⟨_, rfl⟩
  rw [← hG, ← hL]
  have GL : Hid (G = numsB ls ∧ L = numsL ls) := ⟨hG, hL⟩
  clear hG hL
  go_enter Tryd.func20, Tryd.ntmps20
  go_wp2
  go_loopw [4, 5, 6, 7] (fun o i _ _ wr => ∃ (k : Nat) (zs : List Int), k ≤ ls.length ∧ i = .int .i64 k ∧ Hid (numsB (ls.take k) = true ∧ zs = (ls.take k).map numI) ∧ zs.length ≤ k ∧ wr.ownsRow w.heap.size 3 1 o zs.length (intsOf zs) ∧ Below w.heap.size w wr) (fun _ i _ _ _ => ls.length - (intOf i).toNat)
  case atStart => exact ⟨0, [], by omega, rfl, ⟨rfl, rfl⟩, by simp, intsE w _ (Nat.le_refl _), (Below.refl _ _).alloc (Nat.le_refl _) _⟩
  case round =>
    obtain ⟨k, zs, hk, rfl, HZ, hzl, hown, hnx⟩ := hrel
    have hsz := hnx.size
    by_cases hlt : k < ls.length
    · obtain ⟨z, hz⟩ : ∃ z, ls[k]? = some z := ⟨_, List.getElem?_eq_getElem hlt⟩
      obtain ⟨b, off, cap, hvv, hb, hc⟩ := StrsAt.cell HV.out k z hz
      obtain ⟨rfl, rfl⟩ : a1 = some ⟨b, off, none⟩ ∧ c1 = cap := by cases hvv; exact ⟨rfl, rfl⟩
      have hcell : wr.cell? ⟨b, off + k, none⟩ = some (.string (bs z)) := by rw [hnx.cell (p := ⟨b, off + k, none⟩) hb]; exact hc
      have hzs := HL.out z (List.mem_of_getElem? hz)
      have HZK := hide hz
      have hki : (0 : Int) ≤ (k : Int) := by omega
      have hkj : (k : Int) < (ls.length : Int) := by omega
      obtain ⟨t, ht⟩ : ∃ t, t = bs z := ⟨_, rfl⟩
      have hts : t.size ≤ 1048576 := by rw [ht]; exact hzs
      rw [← ht] at hcell
      have TT := hide ht
      clear hvv hc hz ht
      rcases hok : okN z with _ | _
      · have hr : rdDV t = .tuple #[.int .i64 0, .bool false] := by rw [TT.out]; exact rd_no hok
        have hg := hide (numsB_bad HZK.out hok)
        clear hok
        go_wp2_with (first | (go_at_call 44; refine (srd_any t _ hts).mono ?_; rintro e w1 ⟨he, b1⟩; rw [hr] at he; subst he))
        have hnx1 := hnx.trans (b1.mono hsz)
        go_ret2
        refine ⟨_, by rw [GL.out.1, hg.out]; rfl, ?_, hnx1.alloc (by have := b1.size; omega) _⟩
        rw [GL.out.2, numsL_no hg.out]
        exact intsE w1 _ (by have := b1.size; omega)
      · have hr : rdDV t = .tuple #[.int .i64 (numI z), .bool true] := by rw [TT.out]; exact rd_yes hok
        have hg := hide (numsB_take HZK.out HZ.out.1 hok)
        clear hok
        go_wp2_with (first
          | (go_at_call 44; refine (srd_any t _ hts).mono ?_; rintro e w1 ⟨he, b1⟩; rw [hr] at he; subst he; have hs1 := b1.size; have hnx1 := hnx.trans (b1.mono hsz); have hown1 := owns_below hown b1 (Nat.le_refl _); clear hnx hown)
          | (at_builtin; refine wpList_append_int _ rfl _ _ 34 rfl w.heap.size 3 Tryd.underlying34 Tryd.info3 u4 zs (numI z) rfl (hown1.alloc _) ⟨w1.heap.size, 0, none⟩ 1 rfl (by rw [add_zero', World.cell?_alloc_at _ _ _ _ rfl]; rfl) (by omega) (by simp; omega) ?_))
        intro v' w2 zs' hz' hown' hgrow
        have hb2 := below_append _ hnx1 hown1 (Nat.le_refl _) (by omega) hgrow
        clear hgrow hnx1 hown1
        go_wp2
        go_roundw
        case rel => exact ⟨k + 1, zs', by omega, by go_num, ⟨hg.out, by rw [hz'.out, HZ.out.2, nums_take HZK.out]⟩, by rw [hz'.out]; simp; omega, hown', hb2⟩
        case measure => simp [intOf]; omega
    · have hke : k = ls.length := by omega
      have hg := hide (show numsB ls = true ∧ zs = ls.map numI by
        have := HZ.out
        rw [hke, List.take_length] at this
        exact this)
      have OW := hide hown
      clear hown hke
      go_wp2
      go_ret2
      refine ⟨_, by rw [GL.out.1, hg.out.1]; rfl, ?_, hnx⟩
      rw [GL.out.2, numsL_yes hg.out.1, ← hg.out.2]
      exact OW.out
end Go.Proofs.YtpiookjdeopmgaaDoor
namespace Go.Proofs.YtpiookjdeopmgaaDoor
open Go.RowKit

def lkE (l : Lk) : List Value := [.int .i64 l.a, .int .i64 l.b, .int .i64 l.c, .int .i64 l.r]

def thE (t : Th) : List Value := [.int .i64 t.o, .int .i64 t.k, .int .i64 t.c, .bool t.f]

theorem lkE_len (l : Lk) : (lkE l).length = 4 := rfl

theorem thE_len (t : Th) : (thE t).length = 4 := rfl

def LinksAt (W : World) (v : Value) (ls : List Lk) (B : Nat) : Prop := StructsAt lkE 4 W v ls B

def ThingsAt (W : World) (v : Value) (ts : List Th) (B : Nat) : Prop := StructsAt thE 4 W v ts B

theorem LinksAt.then {W W' : World} {v : Value} {ls : List Lk} (h : LinksAt W v ls W.heap.size) (hb : Below W.heap.size W W') : LinksAt W' v ls W'.heap.size := RowAt.then h hb

theorem ThingsAt.then {W W' : World} {v : Value} {ls : List Th} (h : ThingsAt W v ls W.heap.size) (hb : Below W.heap.size W W') : ThingsAt W' v ls W'.heap.size := RowAt.then h hb

theorem LinksAt.shape {W : World} {v : Value} {ls : List Lk} {B : Nat} (h : LinksAt W v ls B) : ∃ a cap, v = .slice a ls.length cap := by obtain ⟨a, cap, h, _⟩ := h; exact ⟨a, cap, h⟩

theorem ThingsAt.shape {W : World} {v : Value} {ls : List Th} {B : Nat} (h : ThingsAt W v ls B) : ∃ a cap, v = .slice a ls.length cap := by obtain ⟨a, cap, h, _⟩ := h; exact ⟨a, cap, h⟩

/-- the four cells of link i -/
theorem LinksAt.cells {W : World} {v : Value} {ls : List Lk} {B : Nat} (h : LinksAt W v ls B) (i : Nat) (l : Lk) (hl : ls[i]? = some l) :
    ∃ b off cap, v = .slice (some ⟨b, off, none⟩) ls.length cap ∧ b < B ∧ W.cell? ⟨b, off + i * 4, none⟩ = some (.int .i64 l.a) ∧ W.cell? ⟨b, off + i * 4 + 1, none⟩ = some (.int .i64 l.b) ∧
      W.cell? ⟨b, off + i * 4 + 2, none⟩ = some (.int .i64 l.c) ∧ W.cell? ⟨b, off + i * 4 + 3, none⟩ = some (.int .i64 l.r) := by
  obtain ⟨b, off, cap, hv, hb, hc⟩ := StructsAt.cell h lkE_len i l hl
  exact ⟨b, off, cap, hv, hb, hc 0 _ rfl, hc 1 _ rfl, hc 2 _ rfl, hc 3 _ rfl⟩

/-- the four cells of thing i -/
theorem ThingsAt.cells {W : World} {v : Value} {ls : List Th} {B : Nat} (h : ThingsAt W v ls B) (i : Nat) (l : Th) (hl : ls[i]? = some l) :
    ∃ b off cap, v = .slice (some ⟨b, off, none⟩) ls.length cap ∧ b < B ∧ W.cell? ⟨b, off + i * 4, none⟩ = some (.int .i64 l.o) ∧ W.cell? ⟨b, off + i * 4 + 1, none⟩ = some (.int .i64 l.k) ∧
      W.cell? ⟨b, off + i * 4 + 2, none⟩ = some (.int .i64 l.c) ∧ W.cell? ⟨b, off + i * 4 + 3, none⟩ = some (.bool l.f) := by
  obtain ⟨b, off, cap, hv, hb, hc⟩ := StructsAt.cell h thE_len i l hl
  exact ⟨b, off, cap, hv, hb, hc 0 _ rfl, hc 1 _ rfl, hc 2 _ rfl, hc 3 _ rfl⟩
end Go.Proofs.YtpiookjdeopmgaaDoor
namespace Go.Proofs.YtpiookjdeopmgaaDoor
open Go.RowKit

theorem wp_append_oneR {α : Type} {enc : α → List Value} {sz bytes : Nat} (hlen : ∀ a, (enc a).length = sz) (hpos : 0 < sz) (hbb : bytes ≤ 100) {P : Program} (w : World) {o : Oper} {a : Act} {K : Act → World → Prop} {Q : Exit → Act → World → Prop} (s x : Operand) (t : TypeId)
    (ho : o.op = .call { callee := .builtin .append, args := #[s, x], argTypes := #[t, t] }) (base : Nat) (e : TypeId) (ht : P.underlying t = some (.slice e)) (zv : Value) (hzv : zv.cells.size = sz)
    (hinfo : (P.info? e).map (fun i => (i.zero, i.size, i.bytes)) = some (some zv, sz, bytes))
    (v : Value) (l : List α) (y : α) (hone : ∀ u ∈ enc y, u.oneCell' = true) (hs : a.eval s = v) (hown : w.ownsRow base e sz v l.length (flat enc l))
    (ad : Addr) (c : Nat) (hx : a.eval x = .slice (some ad) 1 c) (hnews : ∀ j u, (enc y)[j]? = some u → w.cell? (ad.add j) = some u)
    (hl : l.length + 1 ≤ 1000000000) (hbase : base ≤ w.heap.size)
    (h : ∀ v' w', w'.ownsRow base e sz v' (l ++ [y]).length (flat enc (l ++ [y])) → w.grownBy w' v.ownBlock → K (a.put o.dst v') w') : o.wp P a w K Q := by
  obtain ⟨i0, hi, hz0, hz1, hz2⟩ := info_parts hinfo
  refine wp_append_own w s x t ho base e i0 zv sz bytes ht hi hz0 hz1 hz2 hzv hpos v l.length (flat enc l) hs hown ad 1 c (enc y) hx (by rw [hlen]; omega) hnews hone (by unfold maxLen; omega) ?_ hbase ?_
  · have : (l.length + 1) * bytes ≤ 1000000000 * 100 := Nat.mul_le_mul hl hbb
    omega
  · intro v' w' h1 h2 _
    have e1 : flat enc l ++ enc y = flat enc (l ++ [y]) := by rw [flat_append]; simp [flat]
    rw [e1] at h1
    exact h v' w' (by simpa using h1) h2

end Go.Proofs.YtpiookjdeopmgaaDoor
namespace Go.Proofs.YtpiookjdeopmgaaDoor
open Go.RowKit

end Go.Proofs.YtpiookjdeopmgaaDoor
