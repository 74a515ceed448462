/-
  Rows of ints that a call made.
  laws.eqIntS, markIntS, heldIntS, toIntS, szIntS: their contracts (IntRow2 without nets).
  Ways as values; laws.szWay, toWay, eqWay.
  laws.markIntS, markWay, heldWay: only the row's own memory turns; what was marked is held.
  spec.l06Copy: a way with a row of its own.
  spec.l03In, l06Add: their contracts.
-/
import Derived.Test.YtbmphbeocbgalaaGrA
import Derived.Deep.QuietTactic
import Derived.BigQuiet
import Derived.WalkSmall
import Derived.Handy
import Derived.Test.YtbmphbeocbgalaaGrF
namespace Go.Proofs.Ytbmphbeocbgalaa
open Go.RowKit

def intsOf (l : List Int) : List Value := l.map fun z => Value.int .i64 z

theorem intsOf_length (l : List Int) : (intsOf l).length = l.length := by simp [intsOf]

theorem intsOf_append (a b : List Int) : intsOf (a ++ b) = intsOf a ++ intsOf b := by simp [intsOf]

theorem Try.info3 : (Try.prog.info? 3).map (fun i => (i.zero, i.size, i.bytes)) = some (some (.int .i64 0), 1, 8) := by kernel_rfl

/-- 'append(out, z)' of an int, out a row that the call itself made. -/
theorem wpList_append_int {P : Program} (w : World) {ops : Array Oper} {rest : List Oper} {o : Oper} {a : Act} {Q : Exit → Act → World → Prop} (hgd : o.guard = none) (s x : Operand) (t : TypeId)
    (ho : o.op = .call { callee := .builtin .append, args := #[s, x], argTypes := #[t, t] }) (base : Nat) (e : TypeId) (ht : P.underlying t = some (.slice e))
    (hinfo : (P.info? e).map (fun i => (i.zero, i.size, i.bytes)) = some (some (.int .i64 0), 1, 8))
    (v : Value) (l : List Int) (z : Int) (hs : a.eval s = v) (hown : w.ownsRow base e 1 v l.length (intsOf l))
    (ad : Addr) (c : Nat) (hx : a.eval x = .slice (some ad) 1 c) (hnews : w.cell? (ad.add 0) = some (.int .i64 z))
    (hlen : l.length + 1 ≤ 1000000000) (hbase : base ≤ w.heap.size)
    (h : ∀ v' w' l', Hid (l' = l ++ [z]) → w'.ownsRow base e 1 v' l'.length (intsOf l') → w.grownBy w' v.ownBlock → wpList P ops Q rest (a.put o.dst v') w') : wpList P ops Q (o :: rest) a w := by
  obtain ⟨i0, hi, hz0, hz1, hz2⟩ := info_parts hinfo
  refine wpList_append_own w hgd s x t ho base e i0 (.int .i64 0) 1 8 ht hi hz0 hz1 hz2 rfl (by decide) v l.length (intsOf l) hs hown ad 1 c (intsOf [z]) hx (by simp [intsOf]) ?_ ?_ (by unfold maxLen; omega) (by omega) hbase ?_
  · intro j u hj
    have hj' : j = 0 := by have := (List.getElem?_eq_some_iff.1 hj).1; simp [intsOf] at this; omega
    subst hj'
    rw [hnews]
    simpa [intsOf] using hj
  · intro u hu
    simp only [intsOf, List.mem_map] at hu
    obtain ⟨b, _, rfl⟩ := hu
    rfl
  · intro v' w' h1 h2 _
    rw [← intsOf_append] at h1
    exact h v' w' (l ++ [z]) rfl (by simpa using h1) h2
end Go.Proofs.Ytbmphbeocbgalaa
namespace Go.Proofs.Ytbmphbeocbgalaa
open Go.RowKit

def intC (zs : List Int) (j : Nat) : Value := .int .i64 (zs.getD j 0)

def IntsAt (W : World) (v : Value) (zs : List Int) (B : Nat) : Prop := RowAt W v zs.length 1 (intC zs) B

theorem ints_of_owns {W : World} {base : Nat} {v : Value} {zs : List Int} (h : W.ownsRow base 3 1 v zs.length (intsOf zs)) : IntsAt W v zs W.heap.size := by
  by_cases h0 : zs.length = 0
  · obtain ⟨a, cap, rfl⟩ := owns_len h
    exact ⟨a, cap, rfl, .inl h0⟩
  · obtain ⟨g, cap, rfl, hg, hl⟩ := owns_shape h (by omega)
    refine ⟨_, cap, rfl, .inr ⟨g, 0, rfl, hl, fun j hj => ?_⟩⟩
    rw [Nat.zero_add, h.cellAt j (by omega)]
    have hj' : j < zs.length := by omega
    simp [intsOf, intC, List.getElem?_eq_getElem hj']

theorem below_drewN {B : Nat} {w wr : World} (h : Below B w wr) (n : Nat) : Below B w (wr.drewN n) := ⟨h.os, h.tape, h.output, h.size, h.block⟩

theorem list_ne_at {xs ys : List Int} {k : Nat} (h : xs.getD k 0 ≠ ys.getD k 0) : ¬ xs = ys := by
  rintro rfl
  exact h rfl

theorem list_eq_all {xs ys : List Int} (hl : xs.length = ys.length) (h : ∀ j, j < xs.length → xs.getD j 0 = ys.getD j 0) : xs = ys := by
  apply List.ext_getElem hl
  intro i h1 h2
  have := h i h1
  simpa [List.getD, List.getElem?_eq_getElem h1, List.getElem?_eq_getElem h2] using this

set_option maxRecDepth 100000 in
set_option maxHeartbeats 1000000 in
theorem eqI_any (v1 v2 : Value) (xs ys : List Int) (w : World) (h1 : IntsAt w v1 xs w.heap.size) (h2 : IntsAt w v2 ys w.heap.size) (hn : xs.length ≤ 1048576) :
    Calls Try.prog 49 #[v1, v2] w fun e w' => e = .returned (.bool (decide (xs = ys))) ∧ Below w.heap.size w w' := by
  obtain ⟨a1, c1, rfl, k1⟩ := h1
  obtain ⟨a2, c2, rfl, k2⟩ := h2
  by_cases hl : xs.length = ys.length
  · have K1 := hide k1
    have K2 := hide k2
    clear k1 k2
    go_enter Try.func49, Try.ntmps49
    go_wp2
    go_loopw [5] (fun i wr => ∃ k : Nat, k ≤ xs.length ∧ i = .int .i64 k ∧ (∀ j, j < k → xs.getD j 0 = ys.getD j 0) ∧ Below w.heap.size w wr) (fun i _ => xs.length - (intOf i).toNat)
    case atStart => exact ⟨0, by omega, rfl, by omega, Below.refl _ _⟩
    case round =>
      obtain ⟨k, hk, rfl, hall, hnx⟩ := hrel
      have HALL := hide hall
      clear hall
      by_cases hlt : k < xs.length
      · obtain ⟨b1, o1, ha1, hb1, d1⟩ : ∃ b1 o1, a1 = some ⟨b1, o1, none⟩ ∧ b1 < w.heap.size ∧ wr.cell? ⟨b1, o1 + k, none⟩ = some (.int .i64 (xs.getD k 0)) := by
          rcases K1.out with h0 | ⟨b, off, ha, hb, hx⟩
          · omega
          · exact ⟨b, off, ha, hb, by rw [hnx.cell (p := ⟨b, off + k, none⟩) hb, hx k (by omega)]; rfl⟩
        obtain ⟨b2, o2, ha2, hb2, d2⟩ : ∃ b2 o2, a2 = some ⟨b2, o2, none⟩ ∧ b2 < w.heap.size ∧ wr.cell? ⟨b2, o2 + k, none⟩ = some (.int .i64 (ys.getD k 0)) := by
          rcases K2.out with h0 | ⟨b, off, ha, hb, hx⟩
          · omega
          · exact ⟨b, off, ha, hb, by rw [hnx.cell (p := ⟨b, off + k, none⟩) hb, hx k (by omega)]; rfl⟩
        subst ha1 ha2
        have hki : (0 : Int) ≤ (k : Int) := by omega
        have hkj : (k : Int) < (xs.length : Int) := by omega
        have hkl : (k : Int) < (ys.length : Int) := by omega
        obtain ⟨x, hx⟩ : ∃ x, x = xs.getD k 0 := ⟨_, rfl⟩
        obtain ⟨y, hy⟩ : ∃ y, y = ys.getD k 0 := ⟨_, rfl⟩
        rw [← hx] at d1
        rw [← hy] at d2
        have HX := hide hx
        have HY := hide hy
        clear hx hy
        by_cases hxy : x = y
        · subst hxy
          go_wp2
          go_quiet (fail)
          go_wp2
          go_roundw
          case rel => exact ⟨k + 1, by omega, by go_num, (fun j hj => by
            by_cases e : j = k
            · subst e; rw [← HX.out, ← HY.out]
            · exact HALL.out j (by omega)), below_drewN hnx _⟩
          case measure => simp [intOf]; omega
        · have hd : (x != y) = true := by simpa using hxy
          go_wp2
          go_quiet (fail)
          go_wp2
          go_ret
          exact ⟨ret_bool_no (list_ne_at (k := k) (by rw [← HX.out, ← HY.out]; exact hxy)), below_drewN hnx _⟩
      · have hkn : k = xs.length := by omega
        have KN := hide hkn
        clear hkn
        go_wp2
        go_ret
        exact ⟨ret_bool_yes (list_eq_all hl (by rw [← KN.out]; exact HALL.out)), hnx⟩
  · clear k1 k2
    have hd : ((xs.length : Int) != (ys.length : Int)) = true := by simp; omega
    go_enter Try.func49, Try.ntmps49
    go_wp2
    go_ret
    exact ⟨ret_bool_no (fun h => hl (by rw [h])), Below.refl _ _⟩

def marksI (q : Int) : Nat → List Int
  | 0 => []
  | n + 1 => marksI q n ++ [q + (n : Int)]

theorem marksI_length (q : Int) : ∀ n, (marksI q n).length = n
  | 0 => rfl
  | n + 1 => by simp [marksI, marksI_length q n]

def markedI (q : Int) (i : Nat) (xs : List Int) : List Int := marksI q i ++ xs.drop i

theorem markedI_length (q : Int) (i : Nat) (xs : List Int) (h : i ≤ xs.length) : (markedI q i xs).length = xs.length := by simp [markedI, marksI_length]; omega

theorem markedI_step (q : Int) (i : Nat) (xs : List Int) (h : i < xs.length) : (markedI q i xs).set i (q + (i : Int)) = markedI q (i + 1) xs := by
  unfold markedI
  rw [marksI, List.set_append_right _ _ (by rw [marksI_length]; omega), marksI_length, Nat.sub_self, List.drop_eq_getElem_cons h]
  simp only [List.set_cons_zero, List.append_assoc, List.cons_append, List.nil_append]

theorem intsOf_set (xs : List Int) (i : Nat) (t : Int) : (intsOf xs).set i (.int .i64 t) = intsOf (xs.set i t) := by simp [intsOf]

set_option maxRecDepth 100000 in
set_option maxHeartbeats 1000000 in
theorem markI_any (v : Value) (base : Nat) (xs : List Int) (q : Int) (w : World) (h1 : w.ownsRow base 3 1 v xs.length (intsOf xs)) (hn : xs.length ≤ 1000000) (hq : -1000000 ≤ q) (hq2 : q ≤ 1000000000) :
    Calls Try.prog 52 #[v, .int .i64 q] w fun e w' => e = .returned (.int .i64 (q + (xs.length : Int))) ∧ w'.ownsRow base 3 1 v xs.length (intsOf (marksI q xs.length)) ∧ Below base w w' := by
  by_cases h0 : xs.length = 0
  · have hx : xs = [] := List.length_eq_zero_iff.1 h0
    subst hx
    obtain ⟨a1, c1, rfl⟩ := owns_len h1
    have H1 := hide h1
    clear h1 h0
    go_enter Try.func52, Try.ntmps52
    go_wp2
    refine wp_loop_rounds 1 ?_
    rw [rounds_succ]
    go_wp2
    go_ret
    exact ⟨by simp, H1.out, Below.refl _ _⟩
  · obtain ⟨g1, c1, rfl, hg1, hl1⟩ := owns_shape h1 (by omega)
    obtain ⟨n, hnn⟩ : ∃ n, n = xs.length := ⟨_, rfl⟩
    have NN := hide hnn
    rw [← hnn] at hn h1 ⊢
    clear hnn h0
    go_enter Try.func52, Try.ntmps52
    go_wp2
    go_loopw [5, 1] (fun i r wr => ∃ k : Nat, k ≤ n ∧ i = .int .i64 k ∧ r = .int .i64 (q + (k : Int)) ∧ wr.ownsRow base 3 1 (.slice (some ⟨g1, 0, none⟩) n c1) n (intsOf (markedI q k xs)) ∧ Below base w wr) (fun i _ _ => n - (intOf i).toNat)
    case atStart => exact ⟨0, by omega, rfl, by simp, h1, Below.refl _ _⟩
    case round =>
      clear h1
      obtain ⟨k, hk, rfl, rfl, hown, hnx⟩ := hrel
      have hsz := hnx.size
      by_cases hlt : k < n
      · have hki : (0 : Int) ≤ (k : Int) := by omega
        have hkj : (k : Int) < (n : Int) := by omega
        have hfr1 := hown.frozenAt k
        have hcl1 : ∃ t, wr.cell? ⟨g1, k, none⟩ = some (.int .i64 t) := by
          rw [hown.cellAt k (by omega)]
          have hl : k < (markedI q k xs).length := by rw [markedI_length]; have := NN.out; omega; have := NN.out; omega
          exact ⟨(markedI q k xs)[k], by simp [intsOf, List.getElem?_eq_getElem hl]⟩
        obtain ⟨t, hcl⟩ := hcl1
        have hst := hown.stored k (.int .i64 (q + (k : Int)))
        rw [intsOf_set, markedI_step q k xs (by have := NN.out; omega)] at hst
        have ST := hide hst.1
        clear hst hown
        go_wp2
        go_roundw
        case rel => exact ⟨k + 1, by omega, by go_num, by go_num, ST.out, hnx.setCell hg1 _⟩
        case measure => simp [intOf]; omega
      · have hkn : k = n := by omega
        have KN := hide hkn
        have OW := hide hown
        clear hkn hown
        go_wp2
        go_ret
        refine ⟨ret_int (by rw [KN.out]), ?_, hnx⟩
        have h := OW.out
        rw [KN.out] at h
        unfold markedI at h
        rw [List.drop_eq_nil_of_le (by have := NN.out; omega), List.append_nil] at h
        exact h

theorem marksI_get (q : Int) : ∀ (n k : Nat), k < n → (marksI q n).getD k 0 = q + (k : Int)
  | 0, k, h => by omega
  | n + 1, k, h => by
    by_cases e : k = n
    · subst e
      simp [marksI, List.getD, marksI_length]
    · have := marksI_get q n k (by omega)
      have hk : k < (marksI q n).length := by rw [marksI_length]; omega
      simp only [marksI, List.getD, List.getElem?_append_left hk] at this ⊢
      exact this

set_option maxRecDepth 100000 in
set_option maxHeartbeats 1000000 in
theorem heldI_any (v : Value) (n : Nat) (q : Int) (w : World) (h1 : IntsAt w v (marksI q n) w.heap.size) (hn : n ≤ 1000000) (hq : -1000000 ≤ q) (hq2 : q ≤ 1000000000) :
    Calls Try.prog 53 #[v, .int .i64 q] w fun e w' => e = .returned (.int .i64 (q + (n : Int))) ∧ Below w.heap.size w w' := by
  obtain ⟨a1, c1, rfl, k1⟩ := h1
  rw [marksI_length] at k1 ⊢
  have K1 := hide k1
  clear k1
  go_enter Try.func53, Try.ntmps53
  go_wp2
  go_loopw [5, 1] (fun i r wr => ∃ k : Nat, k ≤ n ∧ i = .int .i64 k ∧ r = .int .i64 (q + (k : Int)) ∧ Below w.heap.size w wr) (fun i _ _ => n - (intOf i).toNat)
  case atStart => exact ⟨0, by omega, rfl, by simp, Below.refl _ _⟩
  case round =>
    obtain ⟨k, hk, rfl, rfl, hnx⟩ := hrel
    by_cases hlt : k < n
    · obtain ⟨b1, o1, ha1, hb1, d1⟩ : ∃ b1 o1, a1 = some ⟨b1, o1, none⟩ ∧ b1 < w.heap.size ∧ wr.cell? ⟨b1, o1 + k, none⟩ = some (.int .i64 (q + (k : Int))) := by
        rcases K1.out with h0 | ⟨b, off, ha, hb, hx⟩
        · omega
        · exact ⟨b, off, ha, hb, by rw [hnx.cell (p := ⟨b, off + k, none⟩) hb, hx k (by omega)]; simp only [intC, marksI_get q n k hlt]⟩
      subst ha1
      have hki : (0 : Int) ≤ (k : Int) := by omega
      have hkj : (k : Int) < (n : Int) := by omega
      go_wp2
      go_roundw
      case rel => exact ⟨k + 1, by omega, by go_num, by go_num, hnx⟩
      case measure => simp [intOf]; omega
    · have hkn : k = n := by omega
      have KN := hide hkn
      clear hkn
      go_wp2
      go_ret
      exact ⟨ret_int (by rw [KN.out]), hnx⟩

/-- cells of numbers, as rows of structs of one cell -/
def intE (z : Int) : List Value := [.int .i64 z]

theorem intE_len (z : Int) : (intE z).length = 1 := rfl

theorem flat_int (l : List Int) : flat intE l = intsOf l := by
  induction l with
  | nil => rfl
  | cons x l ih => rw [flat_cons, ih]; rfl

def HopsAt (W : World) (v : Value) (l : List Int) (B : Nat) : Prop := StructsAt intE 1 W v l B

theorem HopsAt.then {W W' : World} {v : Value} {l : List Int} (h : HopsAt W v l W.heap.size) (hb : Below W.heap.size W W') : HopsAt W' v l W'.heap.size := RowAt.then h hb

theorem HopsAt.shape {W : World} {v : Value} {l : List Int} {B : Nat} (h : HopsAt W v l B) : ∃ a cap, v = .slice a l.length cap := by obtain ⟨a, cap, h, _⟩ := h; exact ⟨a, cap, h⟩

theorem HopsAt.ints {W : World} {v : Value} {l : List Int} {B : Nat} (h : HopsAt W v l B) : IntsAt W v l B := by
  obtain ⟨a, cap, hv, h2⟩ := h
  refine ⟨a, cap, hv, ?_⟩
  rcases h2 with h0 | ⟨b, off, ha, hb, hx⟩
  · exact .inl h0
  · refine .inr ⟨b, off, ha, hb, fun j hj => ?_⟩
    rw [hx j hj, flat_int]
    have hj' : j < l.length := by omega
    simp [intsOf, intC, List.getD, List.getElem?_eq_getElem hj']

theorem HopsAt.cell {W : World} {v : Value} {l : List Int} {B : Nat} (h : HopsAt W v l B) (i : Nat) (z : Int) (hz : l[i]? = some z) : ∃ b off cap, v = .slice (some ⟨b, off, none⟩) l.length cap ∧ b < B ∧ W.cell? ⟨b, off + i, none⟩ = some (.int .i64 z) := by
  obtain ⟨b, off, cap, hv, hb, hc⟩ := StructsAt.cell h intE_len i z hz
  exact ⟨b, off, cap, hv, hb, by have := hc 0 _ rfl; simpa using this⟩

theorem hops_of {W : World} {base : Nat} {v : Value} {l : List Int} (h : W.ownsRow base 3 1 v l.length (flat intE l)) : HopsAt W v l W.heap.size := owns_rowAt h

set_option maxRecDepth 100000 in
set_option maxHeartbeats 1000000 in
theorem toIntS_any (v : Value) (ls : List Int) (w : World) (hls : ls.length ≤ 1048576) (hv : HopsAt w v ls w.heap.size) :
    Calls Try.prog 48 #[v] w fun e w' => ∃ x, e = .returned x ∧ w'.ownsRow w.heap.size 3 1 x ls.length (flat intE ls) ∧ Below w.heap.size w w' := by
  obtain ⟨a, cap, rfl⟩ := hv.shape
  have HV := hide hv
  clear hv
  obtain ⟨i0, hi, hz0, hz1, hz2⟩ := info_parts Try.info3
  have HI := hide hi
  have HZ := hide hz0
  clear hi hz0
  go_enter Try.func48, Try.ntmps48
  go_wp2_with (first
    | (refine wpList_make_structs intE_len (by omega) _ rfl _ _ 22 rfl w.heap.size 3 i0 (.int .i64 0) 0 rfl Try.underlying22 HI.out HZ.out hz1 ls.length rfl rfl (by rw [hz2]; omega) (by unfold maxLen; omega) (Nat.le_refl _) ?_))
  intro w1 hown hg
  have b1 : Below w.heap.size w w1 := (Below.refl _ _).grown hg (Nat.le_refl _) (fun k hk => by simp at hk)
  have OW := hide hown
  clear hown hg
  go_wp2
  go_loopw [4] (fun i wr => ∃ k : Nat, k ≤ ls.length ∧ i = .int .i64 k ∧ wr.ownsRow w.heap.size 3 1 (.slice (some ⟨w.heap.size, 0, none⟩) ls.length ls.length) ls.length (flat intE (part ls 0 k)) ∧ Below w.heap.size w wr) (fun i _ => ls.length - (intOf i).toNat)
  case atStart => exact ⟨0, by omega, rfl, (by simpa [part] using OW.out), b1⟩
  case round =>
    obtain ⟨k, hk, rfl, hown, hnx⟩ := hrel
    by_cases hlt : k < ls.length
    · obtain ⟨l, hl⟩ : ∃ l, ls[k]? = some l := ⟨ls[k], List.getElem?_eq_getElem hlt⟩
      obtain ⟨b, off, cap', hve, hbb, c0⟩ := HV.out.cell k l hl
      cases hve
      rw [← hnx.cell (p := ⟨b, off + k, none⟩) hbb] at c0
      have HL := hide hl
      have hki : (0 : Int) ≤ (k : Int) := by omega
      have hkj : (k : Int) < (ls.length : Int) := by omega
      have hex : ∃ u, wr.cell? ⟨w.heap.size, k, none⟩ = some u := by
        rw [hown.cellAt _ (by omega)]
        have hln : k < (flat intE (part ls 0 k)).length := by rw [hown.1]; omega
        exact ⟨_, List.getElem?_eq_getElem hln⟩
      obtain ⟨u0, d0⟩ := hex
      have f0 := hown.frozenAt k
      have OW3 := hide hown
      clear hown hl
      go_wp2
      refine ⟨⟨k + 1, by omega, by go_num, ?_, hnx.setCell (Nat.le_refl _) _⟩, by simp [intOf]; omega⟩
      have h4 := (OW3.out.stored k (.int .i64 l)).1
      have e4 : (flat intE (part ls 0 k)).set k (.int .i64 l) = flat intE (part ls 0 (k + 1)) := by
        rw [← part_step ls 0 l k HL.out]
        have e5 := flat_set intE_len (part ls 0 k) k l (by rw [part_len _ _ _ hk]; exact hlt)
        rw [Nat.mul_one] at e5
        rw [← e5]
        rfl
      rw [e4] at h4
      exact h4
    · have hkn : k = ls.length := by omega
      have KN := hide hkn
      have OW2 := hide hown
      clear hkn hown
      go_wp2
      go_ret
      refine ⟨_, rfl, ?_, hnx⟩
      have h := OW2.out
      rw [KN.out, part_all] at h
      exact h

set_option maxRecDepth 100000 in
set_option maxHeartbeats 1000000 in
theorem szIntS_any (a : Option Addr) (n c : Nat) (q : Int) (w : World) (hn : (n : Int) ≤ 9223372036854775807) (hq0 : 0 ≤ q) (hq : q ≤ 1048576) :
    Calls Try.prog 47 #[.slice a n c, .int .i64 q] w fun e w' => e = .returned (.int .i64 (if q - (n : Int) < 0 then -1 else q - (n : Int))) ∧ w = w' := by
  by_cases h : q - (n : Int) < 0
  · rw [if_pos h]
    go_enter Try.func47, Try.ntmps47
    go_wp2
    go_ret
    exact ⟨rfl, rfl⟩
  · rw [if_neg h]
    go_enter Try.func47, Try.ntmps47
    go_wp2
    go_ret
    exact ⟨rfl, rfl⟩
end Go.Proofs.Ytbmphbeocbgalaa
namespace Go.Proofs.Ytbmphbeocbgalaa
open Go.RowKit

structure WayD where
  to : Int
  cost : Int
  hops : List Int
  deriving DecidableEq

def wayC (x : WayD) (v : Value) : Array Value := #[.int .i64 x.to, .int .i64 x.cost, v]

/-- the value v is the way x, whose row lies below B -/
def WayAt (W : World) (v : Value) (x : WayD) (B : Nat) : Prop := ∃ v1, v = .agg (wayC x v1) ∧ HopsAt W v1 x.hops B

theorem WayAt.then {W W' : World} {v : Value} {x : WayD} (h : WayAt W v x W.heap.size) (hb : Below W.heap.size W W') : WayAt W' v x W'.heap.size := by
  obtain ⟨v1, hv, h1⟩ := h
  exact ⟨v1, hv, h1.then hb⟩

theorem wayAt_of {W : World} {lo : Nat} {x : WayD} {u : Value} (h : W.ownsRow lo 3 1 u x.hops.length (flat intE x.hops)) : WayAt W (.agg (wayC x u)) x W.heap.size := ⟨u, rfl, hops_of h⟩

def szW (q : Int) (n : Nat) : Int := if q - (n : Int) < 0 then -1 else q - (n : Int)

theorem szW_neg {q : Int} {n : Nat} : szW q n < 0 ∨ (0 ≤ szW q n ∧ szW q n = q - (n : Int)) := by
  unfold szW
  split <;> omega

set_option maxRecDepth 100000 in
set_option maxHeartbeats 1000000 in
theorem szWay_any (x : WayD) (a : Option Addr) (n c : Nat) (q : Int) (w : World) (hn : (n : Int) ≤ 9223372036854775807) (hq0 : 0 ≤ q) (hq : q ≤ 1048576) :
    Calls Try.prog 11 #[.agg (wayC x (.slice a n c)), .int .i64 q] w fun e w' => e = .returned (.int .i64 (szW q n)) ∧ Below w.heap.size w w' := by
  unfold szW wayC
  have HS := hide (szIntS_any a n c q)
  by_cases h : q - (n : Int) < 0
  · rw [if_pos h] at HS ⊢
    go_enter Try.func11, Try.ntmps11
    go_wp2_with fail
    refine (HS.out _ hn hq0 hq).mono ?_
    rintro e w1 ⟨rfl, rfl⟩
    go_wp2
    go_ret
    exact ⟨rfl, (Below.refl _ _).alloc (Nat.le_refl _) _⟩
  · rw [if_neg h] at HS ⊢
    go_enter Try.func11, Try.ntmps11
    go_wp2_with fail
    refine (HS.out _ hn hq0 hq).mono ?_
    rintro e w1 ⟨rfl, rfl⟩
    go_wp2
    go_ret
    exact ⟨rfl, (Below.refl _ _).alloc (Nat.le_refl _) _⟩

set_option maxRecDepth 100000 in
set_option maxHeartbeats 4000000 in
theorem toWay_any (v : Value) (x : WayD) (w : World) (hl : x.hops.length ≤ 1048576) (hv : WayAt w v x w.heap.size) :
    Calls Try.prog 13 #[v] w fun e w' => ∃ v1, e = .returned (.agg (wayC x v1)) ∧ w'.ownsRow w.heap.size 3 1 v1 x.hops.length (flat intE x.hops) ∧ Below w.heap.size w w' := by
  obtain ⟨u1, rfl, h1⟩ := hv
  obtain ⟨a1, c1, rfl⟩ := h1.shape
  have H1 := hide h1
  clear h1
  unfold wayC
  go_enter Try.func13, Try.ntmps13
  go_wp2_with fail
  have hw0 := heap3_0 w (.cells #[.int .i64 x.to, .int .i64 x.cost, .slice a1 x.hops.length c1] 24) (.cells #[.int .i64 0, .int .i64 0, .slice none 0 0] 27) (.cells #[.int .i64 x.to, .int .i64 x.cost, .slice none 0 0] 27)
  have hw1 := heap3_1 w (.cells #[.int .i64 x.to, .int .i64 x.cost, .slice a1 x.hops.length c1] 24) (.cells #[.int .i64 0, .int .i64 0, .slice none 0 0] 27) (.cells #[.int .i64 x.to, .int .i64 x.cost, .slice none 0 0] 27)
  have hw2 := heap3_2 w (.cells #[.int .i64 x.to, .int .i64 x.cost, .slice a1 x.hops.length c1] 24) (.cells #[.int .i64 0, .int .i64 0, .slice none 0 0] 27) (.cells #[.int .i64 x.to, .int .i64 x.cost, .slice none 0 0] 27)
  have bw := below_three (w := w) (.cells #[.int .i64 x.to, .int .i64 x.cost, .slice a1 x.hops.length c1] 24) (.cells #[.int .i64 0, .int .i64 0, .slice none 0 0] 27) (.cells #[.int .i64 x.to, .int .i64 x.cost, .slice none 0 0] 27)
  generalize (((w.alloc (.cells #[.int .i64 x.to, .int .i64 x.cost, .slice a1 x.hops.length c1] 24)).alloc (.cells #[.int .i64 0, .int .i64 0, .slice none 0 0] 27)).alloc (.cells #[.int .i64 x.to, .int .i64 x.cost, .slice none 0 0] 27)) = w1 at *
  refine (toIntS_any _ x.hops w1 hl (H1.out.then bw)).mono ?_
  rintro e w2 ⟨v1, rfl, ho1, b2⟩
  obtain ⟨p1, q1, rfl⟩ := owns_lenS ho1
  have l2 := lt_of_heap hw2
  rw [← b2.block _ (lt_of_heap hw1)] at hw1
  rw [← b2.block _ l2] at hw2
  have hb12 : w.heap.size ≤ w1.heap.size := bw.size
  have bw2 : Below w.heap.size w w2 := bw.trans (b2.mono hb12)
  have t0 := cells_at hw2 0
  have t1 := cells_at hw2 1
  have t2 := cells_at hw2 2
  have r0 := cells_at hw1 0
  have r1 := cells_at hw1 1
  have r2 := cells_at hw1 2
  simp at t0 t1 t2 r0 r1 r2
  have f2 := frozen_at hw2
  have f1 := frozen_at hw1
  have O1 := hide ho1
  have HW1 := hide hw1
  clear ho1 hw0 hw1 hw2 H1
  go_wp2
  have k0 : (w2.setCell ⟨w.heap.size + 1 + 1, 2, none⟩ (.slice p1 x.hops.length q1)).heap[w.heap.size + 1]? = some (.cells #[.int .i64 0, .int .i64 0, .slice none 0 0] 27) := by
    rw [heap_setCell_other _ ⟨w.heap.size + 1 + 1, 2, none⟩ _ _ (by show w.heap.size + 1 ≠ w.heap.size + 1 + 1; omega)]
    exact HW1.out
  have k1 := heap_setCell_same _ _ 0 _ _ (.int .i64 x.to) k0
  have k2 := heap_setCell_same _ _ 1 _ _ (.int .i64 x.cost) k1
  have k3 := heap_setCell_same _ _ 2 _ _ (.slice p1 x.hops.length q1) k2
  have hfin := k3
  clear k0 k1 k2 k3
  (try simp only [Exit.inBlock, Exit.then])
  refine bodyPost_ret (results_cell_row rfl _ _ (w.heap.size + 1) 27 #[.int .i64 x.to, .int .i64 x.cost, .slice p1 x.hops.length q1] (0, 0) _ rfl hfin Try.underlying27 rfl (by kernel_rfl)) rfl ?_
  refine ⟨_, rfl, ?_, ?_⟩
  · refine owns_baseS (b1 := w1.heap.size) ?_ (by omega)
    have hlt : w.heap.size + 1 < w1.heap.size := by omega
    have hlt2 : w.heap.size + 1 + 1 < w1.heap.size := by omega
    exact owns_set (j := 2) (owns_set (j := 1) (owns_set (j := 0) (owns_set (j := 2) O1.out hlt2) hlt) hlt) hlt
  · exact (((bw2.setCell (p := ⟨w.heap.size + 1 + 1, 2, none⟩) (by show w.heap.size ≤ w.heap.size + 1 + 1; omega) _).setCell (p := ⟨w.heap.size + 1, 0, none⟩) (by show w.heap.size ≤ w.heap.size + 1; omega) _).setCell (p := ⟨w.heap.size + 1, 1, none⟩) (by show w.heap.size ≤ w.heap.size + 1; omega) _).setCell (p := ⟨w.heap.size + 1, 2, none⟩) (by show w.heap.size ≤ w.heap.size + 1; omega) _

set_option maxRecDepth 100000 in
set_option maxHeartbeats 1000000 in
theorem eqWay_any (v1 v2 : Value) (x y : WayD) (w : World) (h1 : WayAt w v1 x w.heap.size) (h2 : WayAt w v2 y w.heap.size) (hl : x.hops.length ≤ 1048576) :
    Calls Try.prog 15 #[v1, v2] w fun e w' => e = .returned (.bool (decide (x = y))) ∧ Below w.heap.size w w' := by
  obtain ⟨a0, a1, ns⟩ := x
  obtain ⟨b0, b1, ms⟩ := y
  obtain ⟨u1, rfl, k1⟩ := h1
  obtain ⟨u2, rfl, k2⟩ := h2
  simp only [] at k1 k2 hl
  have K1 := hide k1
  have K2 := hide k2
  clear k1 k2
  unfold wayC
  simp only []
  by_cases h0 : a0 = b0
  case neg =>
    have hd : (a0 != b0) = true := by simpa using h0
    have hne : decide ((⟨a0, a1, ns⟩ : WayD) = ⟨b0, b1, ms⟩) = false := decide_eq_false (fun h => by cases h; exact h0 rfl)
    rw [hne]
    clear hne
    go_enter Try.func15, Try.ntmps15
    go_wp2
    go_ret
    exact ⟨rfl, below_two _ _⟩
  subst h0
  by_cases h1 : a1 = b1
  case neg =>
    have hd : (a1 != b1) = true := by simpa using h1
    have hne : decide ((⟨a0, a1, ns⟩ : WayD) = ⟨a0, b1, ms⟩) = false := decide_eq_false (fun h => by cases h; exact h1 rfl)
    rw [hne]
    clear hne
    go_enter Try.func15, Try.ntmps15
    go_wp2
    go_ret
    exact ⟨rfl, below_two _ _⟩
  subst h1
  obtain ⟨R, hR⟩ : ∃ R, R = decide (ns = ms) := ⟨_, rfl⟩
  have hRR : decide ((⟨a0, a1, ns⟩ : WayD) = ⟨a0, a1, ms⟩) = R := by rw [hR]; simp
  rw [hRR]
  have HE := fun W h1 h2 => eqI_any u1 u2 ns ms W h1 h2 hl
  rw [← hR] at HE
  have HEQ := hide HE
  clear HE hR hRR
  cases R
  · go_enter Try.func15, Try.ntmps15
    go_wp2_with fail
    refine (HEQ.out _ (K1.out.then (below_two _ _)).ints (K2.out.then (below_two _ _)).ints).mono ?_
    rintro e w1 ⟨rfl, bb1⟩
    go_wp2
    go_ret
    exact ⟨rfl, (below_two _ _).trans (bb1.mono (by simp; omega))⟩
  · go_enter Try.func15, Try.ntmps15
    go_wp2_with fail
    refine (HEQ.out _ (K1.out.then (below_two _ _)).ints (K2.out.then (below_two _ _)).ints).mono ?_
    rintro e w1 ⟨rfl, bb1⟩
    go_wp2
    go_ret
    exact ⟨rfl, (below_two _ _).trans (bb1.mono (by simp; omega))⟩
end Go.Proofs.Ytbmphbeocbgalaa
namespace Go.Proofs.Ytbmphbeocbgalaa
open Go.RowKit

theorem grown_reflW (w : World) (r : Option Nat) : w.grownBy w r := ⟨rfl, rfl, rfl, Nat.le_refl _, fun _ _ _ => rfl⟩

set_option maxRecDepth 100000 in
set_option maxHeartbeats 1000000 in
theorem markG_any (v : Value) (base : Nat) (xs : List Int) (q : Int) (w : World) (h1 : w.ownsRow base 3 1 v xs.length (flat intE xs)) (hn : xs.length ≤ 1048576) (hq : 0 ≤ q) (hq2 : q ≤ 1000000000) :
    Calls Try.prog 52 #[v, .int .i64 q] w fun e w' => e = .returned (.int .i64 (q + (xs.length : Int))) ∧ w'.ownsRow base 3 1 v xs.length (flat intE (marksI q xs.length)) ∧ w.grownBy w' v.ownBlock := by
  rw [flat_int] at h1
  rw [flat_int]
  by_cases h0 : xs.length = 0
  · have hx : xs = [] := List.length_eq_zero_iff.1 h0
    subst hx
    obtain ⟨a1, c1, rfl⟩ := owns_len h1
    have H1 := hide h1
    clear h1 h0
    go_enter Try.func52, Try.ntmps52
    go_wp2
    refine wp_loop_rounds 1 ?_
    rw [rounds_succ]
    go_wp2
    go_ret
    exact ⟨by simp, H1.out, grown_reflW _ _⟩
  · obtain ⟨g1, c1, rfl, hg1, hl1⟩ := owns_shape h1 (by omega)
    obtain ⟨n, hnn⟩ : ∃ n, n = xs.length := ⟨_, rfl⟩
    have NN := hide hnn
    rw [← hnn] at hn h1 ⊢
    clear hnn h0
    go_enter Try.func52, Try.ntmps52
    go_wp2
    go_loopw [5, 1] (fun i r wr => ∃ k : Nat, k ≤ n ∧ i = .int .i64 k ∧ r = .int .i64 (q + (k : Int)) ∧ wr.ownsRow base 3 1 (.slice (some ⟨g1, 0, none⟩) n c1) n (intsOf (markedI q k xs)) ∧ w.grownBy wr (some g1)) (fun i _ _ => n - (intOf i).toNat)
    case atStart => exact ⟨0, by omega, rfl, by simp, h1, grown_reflW _ _⟩
    case round =>
      clear h1
      obtain ⟨k, hk, rfl, rfl, hown, hnx⟩ := hrel
      by_cases hlt : k < n
      · have hki : (0 : Int) ≤ (k : Int) := by omega
        have hkj : (k : Int) < (n : Int) := by omega
        have hfr1 := hown.frozenAt k
        have hcl1 : ∃ t, wr.cell? ⟨g1, k, none⟩ = some (.int .i64 t) := by
          rw [hown.cellAt k (by omega)]
          have hl : k < (markedI q k xs).length := by rw [markedI_length]; have := NN.out; omega; have := NN.out; omega
          exact ⟨(markedI q k xs)[k], by simp [intsOf, List.getElem?_eq_getElem hl]⟩
        obtain ⟨t, hcl⟩ := hcl1
        have hst := hown.stored k (.int .i64 (q + (k : Int)))
        rw [intsOf_set, markedI_step q k xs (by have := NN.out; omega)] at hst
        have ST := hide hst.1
        clear hst hown
        go_wp2
        go_roundw
        case rel => exact ⟨k + 1, by omega, by go_num, by go_num, ST.out, grown_trans hnx (grown_set _ _ _ _)⟩
        case measure => simp [intOf]; omega
      · have hkn : k = n := by omega
        have KN := hide hkn
        have OW := hide hown
        clear hkn hown
        go_wp2
        go_ret
        refine ⟨ret_int (by rw [KN.out]), ?_, hnx⟩
        have h := OW.out
        rw [KN.out] at h
        unfold markedI at h
        rw [List.drop_eq_nil_of_le (by have := NN.out; omega), List.append_nil] at h
        exact h

set_option maxRecDepth 100000 in
set_option maxHeartbeats 1000000 in
theorem heldG_any (v : Value) (n : Nat) (q : Int) (w : World) (h1 : HopsAt w v (marksI q n) w.heap.size) (hn : n ≤ 1048576) (hq : 0 ≤ q) (hq2 : q ≤ 1000000000) :
    Calls Try.prog 53 #[v, .int .i64 q] w fun e w' => e = .returned (.int .i64 (q + (n : Int))) ∧ w = w' := by
  obtain ⟨a1, c1, rfl, k1⟩ := h1.ints
  rw [marksI_length] at k1 ⊢
  have K1 := hide k1
  clear k1 h1
  go_enter Try.func53, Try.ntmps53
  go_wp2
  go_loop [5, 1] (fun i r => ∃ k : Nat, k ≤ n ∧ i = .int .i64 k ∧ r = .int .i64 (q + (k : Int))) (fun i _ => n - (intOf i).toNat)
  case atStart => exact ⟨0, by omega, rfl, by simp⟩
  case round =>
    obtain ⟨k, hk, rfl, rfl⟩ := hrel
    by_cases hlt : k < n
    · obtain ⟨b1, o1, ha1, hb1, d1⟩ : ∃ b1 o1, a1 = some ⟨b1, o1, none⟩ ∧ b1 < w.heap.size ∧ w.cell? ⟨b1, o1 + k, none⟩ = some (.int .i64 (q + (k : Int))) := by
        rcases K1.out with h0 | ⟨b, off, ha, hb, hx⟩
        · omega
        · exact ⟨b, off, ha, hb, by rw [hx k (by omega)]; simp only [intC, marksI_get q n k hlt]⟩
      subst ha1
      have hki : (0 : Int) ≤ (k : Int) := by omega
      have hkj : (k : Int) < (n : Int) := by omega
      go_wp2
      go_round
      case rel => exact ⟨k + 1, by omega, by go_num, by go_num⟩
      case measure => simp [intOf]; omega
    · have hkn : k = n := by omega
      have KN := hide hkn
      clear hkn
      go_wp2
      go_ret
      exact ⟨ret_int (by rw [KN.out]), rfl⟩

set_option maxRecDepth 100000 in
set_option maxHeartbeats 1000000 in
theorem markWay_any (v : Value) (x : WayD) (base : Nat) (q : Int) (w : World) (h1 : w.ownsRow base 3 1 v x.hops.length (flat intE x.hops)) (hn : x.hops.length ≤ 1048576) (hq : 0 ≤ q) (hq2 : q ≤ 1000000000) :
    Calls Try.prog 22 #[.agg (wayC x v), .int .i64 q] w fun e w' => e = .returned (.int .i64 (q + (x.hops.length : Int))) ∧ w'.ownsRow base 3 1 v x.hops.length (flat intE (marksI q x.hops.length)) ∧ w.grownBy w' v.ownBlock := by
  have H := hide (fun o => markG_any v base x.hops q (w.alloc o) (h1.alloc _) hn hq hq2)
  unfold wayC
  clear h1
  go_enter Try.func22, Try.ntmps22
  go_wp2_with fail
  refine (H.out _).mono ?_
  rintro e w1 ⟨rfl, o1, g1⟩
  have O1 := hide o1
  clear o1
  go_wp2
  go_ret
  exact ⟨rfl, O1.out, ⟨g1.os, g1.tape, g1.output, by have := g1.size; simp at this; omega, fun k hk hr => (g1.block k (by simp; omega) hr).trans (Below.heap_alloc _ _ _ hk)⟩⟩

set_option maxRecDepth 100000 in
set_option maxHeartbeats 1000000 in
theorem heldWay_any (v : Value) (x : WayD) (n : Nat) (q : Int) (w : World) (h1 : HopsAt w v (marksI q n) w.heap.size) (hn : n ≤ 1048576) (hq : 0 ≤ q) (hq2 : q ≤ 1000000000) :
    Calls Try.prog 23 #[.agg (wayC x v), .int .i64 q] w fun e w' => e = .returned (.int .i64 (q + (n : Int))) ∧ Below w.heap.size w w' := by
  have H := hide (fun o => heldG_any v n q (w.alloc o) (h1.then ((Below.refl _ _).alloc (Nat.le_refl _) o)) hn hq hq2)
  unfold wayC
  clear h1
  have hq3 : ¬ q + (n : Int) < 0 := by omega
  go_enter Try.func23, Try.ntmps23
  go_wp2_with fail
  refine (H.out _).mono ?_
  rintro e w1 ⟨rfl, rfl⟩
  go_wp2
  go_ret
  exact ⟨rfl, (Below.refl _ _).alloc (Nat.le_refl _) _⟩
end Go.Proofs.Ytbmphbeocbgalaa
namespace Go.Proofs.Ytbmphbeocbgalaa
open Go.RowKit

set_option linter.unusedSimpArgs false

theorem intE_one (z : Int) : ∀ u ∈ intE z, u.oneCell' = true := by
  intro u hu
  simp [intE] at hu
  subst hu
  rfl

abbrev putW3 (W : World) (g : Nat) (x : WayD) (v : Value) : World := ((W.setCell ⟨g, 0, none⟩ (.int .i64 x.to)).setCell ⟨g, 1, none⟩ (.int .i64 x.cost)).setCell ⟨g, 2, none⟩ v

theorem finW3 {W : World} {B0 : Nat} {c0 c1 c2 : Value} (x : WayD) (v : Value) (hr : W.heap[B0]? = some (.cells #[c0, c1, c2] 27)) :
    (putW3 W B0 x v).heap[B0]? = some (.cells (wayC x v) 27) := by
  have k1 := heap_setCell_same _ _ 0 _ _ (.int .i64 x.to) hr
  have k2 := heap_setCell_same _ _ 1 _ _ (.int .i64 x.cost) k1
  have k3 := heap_setCell_same _ _ 2 _ _ v k2
  simp only [List.setIfInBounds_toArray, List.set_cons_zero, List.set_cons_succ] at k3
  unfold putW3 wayC
  exact k3

theorem grownW3 (W : World) (g : Nat) (x : WayD) (v : Value) : W.grownBy (putW3 W g x v) (some g) :=
  grown_trans (grown_trans (grown_set W g _ _) (grown_set _ g _ _)) (grown_set _ g _ _)

theorem int_flat1 (l : List Int) : (flat intE l).length = l.length * 1 := flat_len intE_len l

theorem own_litI (W : World) (g base : Nat) (hg : g = W.heap.size) (hb : base ≤ W.heap.size) : (W.alloc (.cells #[] 3)).ownsRow base 3 1 (.slice (some ⟨g, 0, none⟩) 0 0) 0 (flat intE []) := by
  subst hg
  exact World.ownsRow_lit W #[] 0 hb (by unfold maxLen; omega) (by simp)

set_option maxRecDepth 100000 in
set_option maxHeartbeats 1000000 in
theorem copyW_any (x : WayD) (v : Value) (base : Nat) (w : World) (ho : w.ownsRow base 3 1 v x.hops.length (flat intE x.hops)) (hn : x.hops.length ≤ 1048576) :
    Calls Try.prog 50 #[.agg (wayC x v)] w fun e w' => ∃ v', e = .returned (.agg (wayC x v')) ∧ w'.ownsRow w.heap.size 3 1 v' x.hops.length (flat intE x.hops) ∧ Below w.heap.size w w' := by
  obtain ⟨va, vc, rfl⟩ := owns_lenS ho
  have OW := hide ho
  clear ho
  go_enter Try.func50, Try.ntmps50
  unfold wayC
  go_wp2_with (first
    | (at_builtin; refine append_row5 int_flat1 (by omega) intE_one (by omega) _ rfl _ _ 22 rfl (w.heap.size + 2) 3 Try.underlying22 (.int .i64 0) rfl Try.info3 _ [] rfl ?own0 base _ x.hops rfl (((OW.out.alloc _).alloc _).alloc _) (by simp; omega) (by simp) ?_))
  case own0 =>
    exact own_litI _ _ _ (by simp) (by simp)
  intro v' w4 hown' hgrow
  obtain ⟨na, nc, rfl⟩ := owns_lenS hown'
  simp only [Value.ownBlock] at hgrow
  have hb4 : Below w.heap.size w w4 := ((((Below.refl w.heap.size w).alloc (by simp) _).alloc (by simp) _).alloc (by simp; omega) _).grown hgrow (by simp; omega) (fun k hk => by simp at hk; omega)
  have q0 : w4.heap[w.heap.size]? = some (.cells #[.int .i64 x.to, .int .i64 x.cost, .slice va x.hops.length vc] 27) := by
    rw [hgrow.block w.heap.size (by simp; omega) (by simp; omega), Below.heap_alloc _ _ _ (by simp; omega), Below.heap_alloc _ _ _ (by simp), heap_alloc_new]
  have q1 : w4.heap[w.heap.size + 1]? = some (.cells #[.int .i64 0, .int .i64 0, .slice none 0 0] 27) := by
    rw [hgrow.block (w.heap.size + 1) (by simp) (by simp), Below.heap_alloc _ _ _ (by simp)]
    have e := heap_alloc_new (w.alloc (.cells #[.int .i64 x.to, .int .i64 x.cost, .slice va x.hops.length vc] 27)) (.cells #[.int .i64 0, .int .i64 0, .slice none 0 0] 27)
    rw [show (w.alloc (.cells #[.int .i64 x.to, .int .i64 x.cost, .slice va x.hops.length vc] 27)).heap.size = w.heap.size + 1 by simp] at e
    exact e
  have r2 := cells_at q0 2
  have f0 := frozen_at q0
  simp at r2
  have q2 := heap_setCell_same w4 w.heap.size 2 _ _ (.slice na x.hops.length nc) q0
  simp only [List.setIfInBounds_toArray, List.set_cons_zero, List.set_cons_succ] at q2
  have q3 : (w4.setCell ⟨w.heap.size, 2, none⟩ (.slice na x.hops.length nc)).heap[w.heap.size + 1]? = some (.cells #[.int .i64 0, .int .i64 0, .slice none 0 0] 27) := by
    rw [heap_setCell_other w4 ⟨w.heap.size, 2, none⟩ _ _ (by show w.heap.size + 1 ≠ w.heap.size; omega)]; exact q1
  have y0 := cells_at q2 0
  have y1 := cells_at q2 1
  have y2 := cells_at q2 2
  simp at y0 y1 y2
  have u0 := cells_at q3 0
  have u1 := cells_at q3 1
  have u2 := cells_at q3 2
  simp at u0 u1 u2
  have fu := frozen_at q3
  have F := finW3 x (.slice na x.hops.length nc) q3
  have hown2 := owns_set (j := 2) (u := .slice na x.hops.length nc) hown' (show w.heap.size < w.heap.size + 2 by omega)
  have G8 := grownW3 (w4.setCell ⟨w.heap.size, 2, none⟩ (.slice na x.hops.length nc)) (w.heap.size + 1) x (.slice na x.hops.length nc)
  have hown3 := owns_baseS (b0 := w.heap.size) (hown2.kept G8 (by
    cases hv : (Value.slice na x.hops.length nc).ownBlock with
    | none => exact .inl rfl
    | some g => exact .inr (fun e => by have := (hown2.lt g hv).1; simp at e; omega))) (by omega)
  have hb5 : Below w.heap.size w (putW3 (w4.setCell ⟨w.heap.size, 2, none⟩ (.slice na x.hops.length nc)) (w.heap.size + 1) x (.slice na x.hops.length nc)) := (hb4.setCell (p := ⟨w.heap.size, 2, none⟩) (Nat.le_refl _) _).grown G8 (by have := lt_of_heap q3; omega) (fun k hk => by simp at hk; omega)
  have FF := hide F
  have H3 := hide hown3
  have H5 := hide hb5
  clear F hown3 hb5 hown2 G8 hb4 hown' hgrow q0 q1 q2 q3 OW
  go_wp2_with fail
  (try simp only [Exit.inBlock, Exit.then])
  refine bodyPost_ret (results_cell_row rfl _ _ (w.heap.size + 1) 27 (wayC _ _) (0, 0) _ rfl FF.out Try.underlying27 rfl (by kernel_rfl)) rfl ?_
  exact ⟨_, rfl, H3.out, H5.out⟩
end Go.Proofs.Ytbmphbeocbgalaa
namespace Go.Proofs.Ytbmphbeocbgalaa
open Go.RowKit

set_option linter.unusedSimpArgs false

theorem take_mem {l : List Int} {k : Nat} {z y : Int} (h : l[k]? = some y) (hn : z ∉ l.take k) (hz : z ≠ y) : z ∉ l.take (k + 1) := by
  obtain ⟨hk, e⟩ := List.getElem?_eq_some_iff.1 h
  rw [List.take_succ_eq_append_getElem hk, e]
  simp [hn, hz]

set_option maxRecDepth 100000 in
set_option maxHeartbeats 1000000 in
theorem sin_any (v : Value) (l : List Int) (z : Int) (w : World) (hn : l.length ≤ 1048576) (hv : HopsAt w v l w.heap.size) :
    Calls Try.prog 87 #[v, .int .i64 z] w fun e w' => e = .returned (.bool (decide (z ∈ l))) ∧ Below w.heap.size w w' := by
  obtain ⟨R, hR⟩ : ∃ R, R = decide (z ∈ l) := ⟨_, rfl⟩
  rw [← hR]
  have HR := hide hR
  clear hR
  obtain ⟨a, cap, rfl⟩ := hv.shape
  have HV := hide hv
  clear hv
  go_enter Try.func87, Try.ntmps87
  go_wp2
  go_loopw [5] (fun i wr => ∃ k : Nat, k ≤ l.length ∧ i = .int .i64 k ∧ Hid (z ∉ l.take k) ∧ Below w.heap.size w wr) (fun i _ => l.length - (intOf i).toNat)
  case atStart => exact ⟨0, by omega, rfl, hide (by simp), Below.refl _ _⟩
  case round =>
    obtain ⟨k, hk, rfl, HNO, hnx⟩ := hrel
    by_cases hlt : k < l.length
    · obtain ⟨y, hy⟩ : ∃ y, l[k]? = some y := ⟨l[k], List.getElem?_eq_getElem hlt⟩
      obtain ⟨b, off, cap', hve, hbb, c0⟩ := HV.out.cell k y hy
      cases hve
      rw [← hnx.cell (p := ⟨b, off + k, none⟩) hbb] at c0
      have hki : (0 : Int) ≤ (k : Int) := by omega
      have hkj : (k : Int) < (l.length : Int) := by omega
      by_cases hzy : z = y
      · subst hzy
        have HF := hide (show R = true by rw [HR.out]; exact decide_eq_true (List.mem_of_getElem? hy))
        clear hy
        go_wp2
        (try go_quiet (fail))
        (try go_wp2)
        go_ret
        exact ⟨ret_bool HF.out, by first | exact hnx | exact hnx.trans ⟨rfl, rfl, rfl, Nat.le_refl _, fun _ _ => rfl⟩⟩
      · have HN := hide (take_mem hy HNO.out hzy)
        have hyz : ¬ y = z := fun e => hzy e.symm
        have hd : (y == z) = false := by simpa using hyz
        clear hy
        go_wp2
        (try go_quiet (fail))
        (try go_wp2)
        go_roundw
        case rel => exact ⟨k + 1, by omega, by go_num, HN, by first | exact hnx | exact hnx.trans ⟨rfl, rfl, rfl, Nat.le_refl _, fun _ _ => rfl⟩⟩
        case measure => simp [intOf]; omega
    · have HF := hide (show R = false by
        rw [HR.out]
        have h := HNO.out
        rw [List.take_of_length_le (by omega)] at h
        exact decide_eq_false h)
      go_wp2
      go_ret
      exact ⟨ret_bool HF.out, hnx⟩

/-- the numbers of 1 .. k that stand in one of the two -/
def addT (a b : List Int) : Nat → List Int
  | 0 => []
  | k + 1 => addT a b k ++ (if (k : Int) + 1 ∈ a ∨ (k : Int) + 1 ∈ b then [(k : Int) + 1] else [])

def addL (a b : List Int) : List Int := addT a b 6

theorem addT_len (a b : List Int) (k : Nat) : (addT a b k).length ≤ k := by
  induction k with
  | zero => simp [addT]
  | succ k ih =>
    unfold addT
    rw [List.length_append]
    split <;> simp <;> omega

set_option maxRecDepth 100000 in
set_option maxHeartbeats 2000000 in
theorem sadd_any (v1 v2 : Value) (xs ys : List Int) (w : World) (hx : xs.length ≤ 1048576) (hy : ys.length ≤ 1048576) (h1 : HopsAt w v1 xs w.heap.size) (h2 : HopsAt w v2 ys w.heap.size) :
    Calls Try.prog 58 #[v1, v2] w fun e w' => ∃ x, e = .returned x ∧ w'.ownsRow w.heap.size 3 1 x (addL xs ys).length (flat intE (addL xs ys)) ∧ Below w.heap.size w w' := by
  obtain ⟨a1, c1, rfl⟩ := h1.shape
  obtain ⟨a2, c2, rfl⟩ := h2.shape
  have HI1 := hide (fun z W (hb : Below w.heap.size w W) => sin_any (.slice a1 xs.length c1) xs z W hx ((RowAt.later h1 hb (Nat.le_refl _)).more hb.size))
  have HI2 := hide (fun z W (hb : Below w.heap.size w W) => sin_any (.slice a2 ys.length c2) ys z W hy ((RowAt.later h2 hb (Nat.le_refl _)).more hb.size))
  have O0 := hide (own_litI w w.heap.size w.heap.size rfl (Nat.le_refl _))
  have B0 : Below w.heap.size w (w.alloc (.cells #[] 3)) := (Below.refl _ _).alloc (Nat.le_refl _) _
  clear h1 h2
  go_enter Try.func58, Try.ntmps58
  go_wp2
  generalize w.alloc (.cells #[] 3) = w0 at *
  go_loopw [6, 5] (fun i o wr => ∃ (k : Nat) (l : List Int) (u : Value), k ≤ 6 ∧ i = .int .i64 ((k : Int) + 1) ∧ o = u ∧ Hid (l = addT xs ys k) ∧ wr.ownsRow w.heap.size 3 1 u l.length (flat intE l) ∧ Below w.heap.size w wr) (fun i _ _ => 8 - (intOf i).toNat)
  case atStart => exact ⟨0, [], _, by omega, rfl, rfl, hide rfl, O0.out, B0⟩
  case round =>
    obtain ⟨k, l, u, hk, rfl, rfl, HL, hown, hnx⟩ := hrel
    obtain ⟨ua, uc, rfl⟩ := owns_lenS hown
    have hsz := hnx.size
    have hll : l.length ≤ 6 := by rw [HL.out]; have := addT_len xs ys k; omega
    have OW := hide hown
    clear hown
    by_cases hlt : k < 6
    · have hk6 : (k : Int) + 1 ≤ 6 := by omega
      have hw1 : IntKind.i64.wrap ((k : Int) + 1 + 1) = ((k + 1 : Nat) : Int) + 1 := by rw [wrap_fit _ (by omega) (by omega)]; omega
      obtain ⟨P, hP⟩ : ∃ P, P = decide ((k : Int) + 1 ∈ xs) := ⟨_, rfl⟩
      obtain ⟨Q, hQ⟩ : ∃ Q, Q = decide ((k : Int) + 1 ∈ ys) := ⟨_, rfl⟩
      have H1 := HI1.out ((k : Int) + 1)
      have H2 := HI2.out ((k : Int) + 1)
      rw [← hP] at H1
      rw [← hQ] at H2
      have J1 := hide H1
      have J2 := hide H2
      have HST := hide (show addT xs ys (k + 1) = l ++ (if P = true ∨ Q = true then [(k : Int) + 1] else []) by
        rw [HL.out, hP, hQ]
        simp [addT])
      clear H1 H2 hP hQ HI1 HI2
      cases P
      · go_wp2_with fail
        refine (J1.out _ hnx).mono ?_
        rintro e w2 ⟨rfl, b2⟩
        have b2s := b2.size
        go_wp2_with fail
        refine (J2.out _ (hnx.trans (b2.mono hsz))).mono ?_
        rintro e w3 ⟨rfl, b3⟩
        have b3s := b3.size
        have B3 : Below wr.heap.size wr w3 := b2.trans (b3.mono b2s)
        clear b2 b3
        cases Q
        · have HN := hide (show l = addT xs ys (k + 1) by rw [HST.out]; simp)
          have OW3 := hide (owns_below OW.out B3 (Nat.le_refl _))
          go_wp2
          go_roundw
          case rel => exact ⟨k + 1, l, _, by omega, rfl, rfl, HN, OW3.out, hnx.trans (B3.mono hsz)⟩
          case measure => simp [intOf]; omega
        · have HN := hide (show l ++ [(k : Int) + 1] = addT xs ys (k + 1) by rw [HST.out]; simp)
          go_wp2_with (first
            | (at_builtin; refine append_struct5 intE_len (by omega) (by omega) _ rfl _ _ 22 rfl w.heap.size 3 Try.underlying22 (.int .i64 0) rfl Try.info3 _ l ((k : Int) + 1) (intE_one _) rfl ((owns_below OW.out B3 (Nat.le_refl _)).alloc _) ⟨w3.heap.size, 0, none⟩ 1 rfl (news_struct (cs := intE ((k : Int) + 1))) (by omega) (by simp; omega) ?_))
          intro v' w4 hown' hgrow
          obtain ⟨va, vc, rfl⟩ := owns_lenS hown'
          have B4 : Below w.heap.size w w4 := ((hnx.trans (B3.mono hsz)).alloc (by omega) _).grown hgrow (by simp; omega) (fun j hj => (OW.out.lt j hj).1)
          have OW4 := hide hown'
          clear hown' hgrow
          go_wp2
          go_roundw
          case rel => exact ⟨k + 1, l ++ [(k : Int) + 1], _, by omega, rfl, rfl, HN, (by simpa using OW4.out), B4⟩
          case measure => simp [intOf]; omega
      · have HN := hide (show l ++ [(k : Int) + 1] = addT xs ys (k + 1) by rw [HST.out]; simp)
        go_wp2_with fail
        refine (J1.out _ hnx).mono ?_
        rintro e w3 ⟨rfl, B3⟩
        have b3s := B3.size
        go_wp2_with (first
          | (at_builtin; refine append_struct5 intE_len (by omega) (by omega) _ rfl _ _ 22 rfl w.heap.size 3 Try.underlying22 (.int .i64 0) rfl Try.info3 _ l ((k : Int) + 1) (intE_one _) rfl ((owns_below OW.out B3 (Nat.le_refl _)).alloc _) ⟨w3.heap.size, 0, none⟩ 1 rfl (news_struct (cs := intE ((k : Int) + 1))) (by omega) (by simp; omega) ?_))
        intro v' w4 hown' hgrow
        obtain ⟨va, vc, rfl⟩ := owns_lenS hown'
        have B4 : Below w.heap.size w w4 := ((hnx.trans (B3.mono hsz)).alloc (by omega) _).grown hgrow (by simp; omega) (fun j hj => (OW.out.lt j hj).1)
        have OW4 := hide hown'
        clear hown' hgrow
        go_wp2
        go_roundw
        case rel => exact ⟨k + 1, l ++ [(k : Int) + 1], _, by omega, rfl, rfl, HN, (by simpa using OW4.out), B4⟩
        case measure => simp [intOf]; omega
    · have hk6 : ¬ (k : Int) + 1 ≤ 6 := by omega
      have KN := hide (show l = addL xs ys by rw [HL.out, show k = 6 by omega]; rfl)
      go_wp2
      go_ret
      have h := OW.out
      rw [KN.out] at h
      exact ⟨_, by rw [KN.out]; rfl, h, hnx⟩
end Go.Proofs.Ytbmphbeocbgalaa
