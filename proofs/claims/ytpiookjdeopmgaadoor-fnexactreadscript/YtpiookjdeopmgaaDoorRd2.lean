/-
  Rows that a call made, and what stays of them.
  spec.l01Figure: its contract.
  impl.ReadDecimal: its contract.
  spec.l01In: its contract.
  impl.Unhex: its contract.
  Lists that ascend, lists all of whose elements are right.
  Regions that draw their order, by hand: one operation at a time, in the text's order.
  One put into a list where it belongs: the mathematics.
-/
import Derived.Test.YtpiookjdeopmgaaDoorRd1
import Derived.Deep.RegionHeld3
namespace Go.Proofs.YtpiookjdeopmgaaDoor
open Go.RowKit

theorem owns_below {w w' : World} {base B : Nat} {e : TypeId} {size : Nat} {v : Value} {n : Nat} {xs : List Value} (h : w.ownsRow base e size v n xs) (hb : Below B w w') (hB : w.heap.size ≤ B) : w'.ownsRow base e size v n xs := by
  refine ⟨h.1, ?_⟩
  rcases h.2 with h2 | ⟨g, cap, cur, hv, hg, hh, r⟩
  · exact .inl h2
  · have hlt : g < w.heap.size := by
      rcases Nat.lt_or_ge g w.heap.size with hl | hl
      · exact hl
      · rw [Array.getElem?_eq_none hl] at hh; cases hh
    exact .inr ⟨g, cap, cur, hv, hg, by rw [hb.block g (by omega)]; exact hh, r⟩

theorem owns_shape {w : World} {base : Nat} {e : TypeId} {v : Value} {n : Nat} {xs : List Value} (h : w.ownsRow base e 1 v n xs) (hn : 0 < n) :
    ∃ g cap, v = .slice (some ⟨g, 0, none⟩) n cap ∧ base ≤ g ∧ g < w.heap.size := by
  rcases h.2 with ⟨_, h0⟩ | ⟨g, cap, cur, hv, hb, hg, _⟩
  · omega
  · refine ⟨g, cap, hv, hb, ?_⟩
    rcases Nat.lt_or_ge g w.heap.size with hlt | hge
    · exact hlt
    · rw [Array.getElem?_eq_none hge] at hg; cases hg

theorem owns_len {w : World} {base : Nat} {e : TypeId} {v : Value} {n : Nat} {xs : List Value} (h : w.ownsRow base e 1 v n xs) : ∃ a cap, v = .slice a n cap := by
  rcases h.2 with ⟨h1, h0⟩ | ⟨g, cap, cur, hv, _⟩
  · exact ⟨none, 0, by rw [h1, h0]⟩
  · exact ⟨_, cap, hv⟩

theorem owns_lenS {w : World} {base size : Nat} {e : TypeId} {v : Value} {n : Nat} {xs : List Value} (h : w.ownsRow base e size v n xs) : ∃ a cap, v = .slice a n cap := by
  rcases h.2 with ⟨h1, h0⟩ | ⟨g, cap, cur, hv, _⟩
  · exact ⟨none, 0, by rw [h1, h0]⟩
  · exact ⟨_, cap, hv⟩

theorem owns_baseS {w : World} {b0 b1 size : Nat} {e : TypeId} {v : Value} {n : Nat} {xs : List Value} (h : w.ownsRow b1 e size v n xs) (hb : b0 ≤ b1) : w.ownsRow b0 e size v n xs := by
  refine ⟨h.1, ?_⟩
  rcases h.2 with h2 | ⟨g, cap, cur, hv, hg, r⟩
  · exact .inl h2
  · exact .inr ⟨g, cap, cur, hv, Nat.le_trans hb hg, r⟩

/-- a row stays where another block is written -/
theorem owns_set {w : World} {base size p j : Nat} {e : TypeId} {v u : Value} {n : Nat} {xs : List Value} (h : w.ownsRow base e size v n xs) (hp : p < base) : (w.setCell ⟨p, j, none⟩ u).ownsRow base e size v n xs := by
  refine ⟨h.1, ?_⟩
  rcases h.2 with h2 | ⟨g, cap, cur, hv, hg, hh, r⟩
  · exact .inl h2
  · exact .inr ⟨g, cap, cur, hv, hg, by rw [heap_setCell_other w ⟨p, j, none⟩ g _ (by show g ≠ p; omega)]; exact hh, r⟩

theorem cells_at {w : World} {p : Nat} {C : Array Value} {t : TypeId} (h : w.heap[p]? = some (.cells C t (0, 0))) (j : Nat) : w.cell? ⟨p, j, none⟩ = C[j]? := by
  simp [World.cell?, h]

theorem frozen_at {w : World} {p : Nat} {C : Array Value} {t : TypeId} (h : w.heap[p]? = some (.cells C t (0, 0))) (j : Nat) : w.frozen? ⟨p, j, none⟩ = false := by
  simp [World.frozen?, h]

theorem grown_set (w : World) (p j : Nat) (v : Value) : w.grownBy (w.setCell ⟨p, j, none⟩ v) (some p) := ⟨rfl, rfl, rfl, by simp, fun k _ hk => heap_setCell_other w ⟨p, j, none⟩ k _ (fun e => hk (by simp [e]))⟩

theorem grown_trans {a b c : World} {row : Option Nat} (h : a.grownBy b row) (k : b.grownBy c row) : a.grownBy c row :=
  ⟨k.os.trans h.os, k.tape.trans h.tape, k.output.trans h.output, Nat.le_trans h.size k.size, fun i hi hr => (k.block i (Nat.lt_of_lt_of_le hi h.size) hr).trans (h.block i hi hr)⟩

theorem lt_of_heap {w : World} {p : Nat} {o : Obj} (h : w.heap[p]? = some o) : p < w.heap.size := by
  rcases Nat.lt_or_ge p w.heap.size with hl | hl
  · exact hl
  · rw [Array.getElem?_eq_none hl] at h; cases h
end Go.Proofs.YtpiookjdeopmgaaDoor
namespace Go.Proofs.YtpiookjdeopmgaaDoor
open Go.RowKit

set_option maxHeartbeats 400000 in
theorem fig_any (x : Int) (w : World) (h0 : 0 ≤ x) (h1 : x < 16) : Calls Tryd.prog 62 #[.int .i64 x] w fun e w' => e = .returned (.int .u8 ((fig x).toNat : Int)) ∧ w = w' := by
  by_cases h : x < 10
  · have e := fig_lo x h0 h
    have E := hide e
    clear e
    go_enter Tryd.func62, Tryd.ntmps62
    go_wp2
    go_ret
    exact ⟨ret_int (by have := E.out; omega), rfl⟩
  · have e := fig_hi x (by omega) h1
    have E := hide e
    clear e
    go_enter Tryd.func62, Tryd.ntmps62
    go_wp2
    go_ret
    exact ⟨ret_int (by have := E.out; omega), rfl⟩
end Go.Proofs.YtpiookjdeopmgaaDoor
namespace Go.Proofs.YtpiookjdeopmgaaDoor
open Go.RowKit

theorem retD_no {s : ByteArray} (h : ¬ (canon s.data.toList = true ∧ valD s.data.toList ≤ 1000000000)) : Ending.returned (.tuple #[.int .i64 0, .bool false]) = .returned (rdDV s) := by rw [rdDV_no h]

theorem retD_yes {s : ByteArray} {a : Int} (h : canon s.data.toList = true) (h2 : valD s.data.toList ≤ 1000000000) (ha : a = (valD s.data.toList : Int)) : Ending.returned (.tuple #[.int .i64 a, .bool true]) = .returned (rdDV s) := by rw [rdDV_yes h h2, ha]

theorem canon_pos {c : UInt8} {t : List UInt8} (h : canon (c :: t) = true) (h48 : c.toNat ≠ 48) : 0 < valD (c :: t) := by
  have hd := canon_allD h
  have hc : 48 ≤ c.toNat ∧ c.toNat ≤ 57 := by simp [allD, isD] at hd; exact hd.1
  have ht : allD t = true := by simp [allD] at hd ⊢; exact hd.2
  have := dec_val c (by omega) hc.2 t.reverse (by simpa using ht)
  rw [List.reverse_reverse] at this
  exact this.1

theorem canon_snoc {l : List UInt8} {c : UInt8} (h : canon l = true) (hv : 0 < valD l) (hc : isD c = true) : canon (l ++ [c]) = true := by
  cases l with
  | nil => simp [canon] at h
  | cons b t =>
    have hd := canon_allD h
    have hb : b.toNat ≠ 48 := by
      intro e
      simp only [canon, Bool.and_eq_true, Bool.or_eq_true] at h
      rcases h.2 with h2 | h2
      · have : t = [] := List.isEmpty_iff.1 h2
        subst this
        simp [valD, val10] at hv
        omega
      · simp [e] at h2
    have hd2 : allD (b :: t ++ [c]) = true := by rw [allD_snoc, hd, hc]; rfl
    show (allD (b :: (t ++ [c])) && _) = true
    rw [List.cons_append] at hd2
    rw [hd2]
    simp [hb]

theorem canon_stop {l r : List UInt8} (h : canon l = true) (hv : valD l = 0) (hr : r ≠ []) : canon (l ++ r) = false := by
  cases l with
  | nil => simp [canon] at h
  | cons b t =>
    have hb : b.toNat = 48 := Classical.byContradiction fun e => by have := canon_pos h e; omega
    have ht : t ++ r ≠ [] := by simp [hr]
    show (_ && ((t ++ r).isEmpty || decide (b.toNat ≠ 48))) = false
    cases hh : t ++ r with
    | nil => exact absurd hh ht
    | cons x y => simp [hb]

theorem split_at (s : ByteArray) (k : Nat) (h : k < s.size) : s.data.toList = s.data.toList.take k ++ (s[k] :: s.data.toList.drop (k + 1)) := by
  have : s.data.toList.drop k = s[k] :: s.data.toList.drop (k + 1) := by
    rw [List.drop_eq_getElem_cons (by simpa using h)]; rfl
  rw [← this, List.take_append_drop]

set_option maxRecDepth 100000 in
set_option maxHeartbeats 1000000 in
theorem ird_any (s : ByteArray) (w : World) (hs : s.size ≤ 1048576) : Calls Tryd.prog 71 #[.string s] w fun e w' => e = .returned (rdDV s) ∧ Below w.heap.size w w' := by
  go_enter Tryd.func71, Tryd.ntmps71
  go_wp2
  go_step3
  go_wp2
  go_step3
  go_wp2
  go_loop [4, 5, 10] (fun n r i => ∃ (k m : Nat), k ≤ s.size ∧ m ≤ 1000000000 ∧ i = .int .i64 k ∧ r = .int .i64 k ∧ n = .int .i64 m ∧ Hid (m = valD (s.data.toList.take k) ∧ (0 < k → canon (s.data.toList.take k) = true))) (fun _ _ i => s.size - (intOf i).toNat)
  case atStart => exact ⟨0, 0, by omega, by omega, rfl, rfl, rfl, ⟨rfl, fun h => absurd h (by omega)⟩⟩
  case round =>
    obtain ⟨k, m, hk, hm, rfl, rfl, rfl, hl⟩ := hrel
    by_cases hlt : k < s.size
    · obtain ⟨c, hc⟩ : ∃ c : Nat, c = s[k].toNat := ⟨_, rfl⟩
      have hcb : c < 256 := by have := s[k].toNat_lt; omega
      have hix := idx_str Tryd.underlying9 s k c hlt hc
      have C : Hid (c = s[k].toNat) := hc
      clear hc
      have h3 : (48 ≤ c ∧ c ≤ 57) ∨ c < 48 ∨ 57 < c := by omega
      rcases h3 with ⟨ha, hb⟩ | h | h
      · have hdig : isD s[k] = true := by have := C.out; simp [isD]; omega
        by_cases hk0 : 0 < k
        · by_cases hm0 : 0 < m
          · have hme : ((m : Int) == 0) = false := by simp; omega
            by_cases hbig : (1000000000 : Int) < 10 * (m : Int) + ((c : Int) - 48)
            · have hno : ¬ (canon s.data.toList = true ∧ valD s.data.toList ≤ 1000000000) := by
                rintro ⟨h1, h2⟩
                have e5 : valD (s.data.toList.take (k + 1)) = 10 * m + (c - 48) := by rw [takeD_one s k hlt, valD_snoc, ← hl.out.1, ← C.out]
                have e6 := valD_ge (s.data.toList.take (k + 1)) (s.data.toList.drop (k + 1))
                rw [List.take_append_drop] at e6
                omega
              have NO := hide hno
              clear hno
              go_wp2
              all_goals first | go_ret2 | (rw [Exit.noGoto_ret]; go_ret2)
              all_goals exact ⟨retD_no NO.out, Below.refl _ _⟩
            · go_wp2
              go_round
              case rel =>
                obtain ⟨e1, e2⟩ := hl.out
                have e3 := C.out
                have e5 : valD (s.data.toList.take (k + 1)) = 10 * m + (c - 48) := by rw [takeD_one s k hlt, valD_snoc, ← e1, ← e3]
                exact ⟨k + 1, 10 * m + (c - 48), by omega, by omega, by go_num, by go_num, by go_num, ⟨e5.symm, fun _ => by rw [takeD_one s k hlt]; exact canon_snoc (e2 hk0) (by omega) hdig⟩⟩
              case measure => simp [intOf]; omega
          · have hme : ((m : Int) == 0) = true := by simp; omega
            have hno : ¬ (canon s.data.toList = true ∧ valD s.data.toList ≤ 1000000000) := by
              rintro ⟨h1, h2⟩
              rw [split_at s k hlt, canon_stop (hl.out.2 hk0) (by have := hl.out.1; omega) (by simp)] at h1
              cases h1
            have NO := hide hno
            clear hno
            go_wp2
            all_goals first | go_ret2 | (rw [Exit.noGoto_ret]; go_ret2)
            all_goals exact ⟨retD_no NO.out, Below.refl _ _⟩
        · have hm0 : m = 0 := by
            have := hl.out.1
            rw [show k = 0 by omega] at this
            simpa [valD, val10] using this
          have hm1 : m ≤ 0 := by omega
          have MZ := hide hm0
          clear hm0
          go_wp2
          go_round
          case rel =>
            have e3 := C.out
            have e5 : valD (s.data.toList.take (k + 1)) = 10 * m + (c - 48) := by rw [takeD_one s k hlt, valD_snoc, ← hl.out.1, ← e3]
            refine ⟨k + 1, 10 * m + (c - 48), by omega, by omega, by go_num, by go_num, by go_num, ⟨e5.symm, fun _ => ?_⟩⟩
            rw [takeD_one s k hlt, show s.data.toList.take k = [] from by rw [show k = 0 by omega]; rfl]
            simp [canon, allD, hdig]
          case measure => simp [intOf]; omega
      all_goals
        have hno : ¬ (canon s.data.toList = true ∧ valD s.data.toList ≤ 1000000000) := by
          rintro ⟨h1, h2⟩
          have h5 := canon_allD h1
          have h6 := allD_bad s k hlt (by have := C.out; omega)
          rw [h6] at h5
          cases h5
        have NO := hide hno
        clear hno
        go_wp2
        all_goals first | go_ret2 | (rw [Exit.noGoto_ret]; go_ret2)
        all_goals exact ⟨retD_no NO.out, Below.refl _ _⟩
    · have hall : s.data.toList.take k = s.data.toList := List.take_of_length_le (by simp; omega)
      have hl2 := hl.out
      rw [hall] at hl2
      have L := hide hl2
      clear hall hl hl2
      by_cases hk0 : 0 < k
      · have hke : ((k : Int) == 0) = false := by simp; omega
        go_wp2
        first | go_ret2 | (rw [Exit.noGoto_ret]; go_ret2)
        have e1 := L.out.1
        exact ⟨retD_yes (L.out.2 hk0) (by rw [← e1]; exact hm) (by rw [← e1]), Below.refl _ _⟩
      · have hke : ((k : Int) == 0) = true := by simp; omega
        have hno : ¬ (canon s.data.toList = true ∧ valD s.data.toList ≤ 1000000000) := by
          rintro ⟨h1, _⟩
          have e0 : s.data.toList.length = s.size := by simp
          have : s.data.toList = [] := List.length_eq_zero_iff.1 (by omega)
          rw [this] at h1
          simp [canon] at h1
        have NO := hide hno
        clear hno
        go_wp2
        first | go_ret2 | (rw [Exit.noGoto_ret]; go_ret2)
        exact ⟨retD_no NO.out, Below.refl _ _⟩
end Go.Proofs.YtpiookjdeopmgaaDoor
namespace Go.Proofs.YtpiookjdeopmgaaDoor
open Go.RowKit

def inB (x a b : Int) : Bool := decide (a ≤ x) && decide (x ≤ b)

set_option maxHeartbeats 400000 in
theorem in_any (x a b : Int) (w : World) : Calls Tryd.prog 21 #[.int .i64 x, .int .i64 a, .int .i64 b] w fun e w' => e = .returned (.bool (inB x a b)) ∧ w = w' := by
  by_cases h1 : a ≤ x <;> by_cases h2 : x ≤ b
  all_goals
    go_enter Tryd.func21, Tryd.ntmps21
    go_wp2
    go_ret
    exact ⟨by simp [inB, h1, h2], rfl⟩

end Go.Proofs.YtpiookjdeopmgaaDoor
namespace Go.Proofs.YtpiookjdeopmgaaDoor
open Go.RowKit

set_option maxRecDepth 100000 in
set_option maxHeartbeats 1000000 in
theorem iuh_in (s : ByteArray) (w : World) (hs : s.size ≤ 40000) (he : (s.size : Int) % 2 = 0) :
    Calls Tryd.prog 81 #[.string s] w fun e w' => e = .returned (unV s) ∧ Below w.heap.size w w' := by
  obtain ⟨m, hm⟩ : ∃ m : Nat, m = s.size / 2 := ⟨_, rfl⟩
  obtain ⟨i0, hi, hz0, hz1, hz2⟩ := info_parts Tryd.info5
  have hmI : (s.size : Int) / 2 = (m : Int) := by omega
  have hm2 : m ≤ 20000 := by omega
  have hm3 : s.size = 2 * m := by omega
  have M := hide hm
  have M3 := hide hm3
  clear hm hm3
  go_enter Tryd.func81, Tryd.ntmps81
  go_wp2
  go_step3
  go_wp2_with (first | (at_make; refine wpList_make_full _ rfl _ _ 95 rfl w.heap.size 5 i0 (.int .u8 0) 1 Tryd.underlying95 hi hz0 hz1 .i64 .i64 _ _ m rfl rfl ?_ ?_ ?_ ?_ ?_ ?_; omega; omega; (rw [hz2]; omega); (unfold maxLen; omega); exact Nat.le_refl _; intro w1 hown hgrow))
  go_step3
  go_wp2
  rw [cells_rep] at hown
  have hb1 : Below w.heap.size w w1 := (Below.refl _ _).grown hgrow (Nat.le_refl _) (fun k hk => by cases hk)
  clear hgrow
  go_loopw [5, 23] (fun n i wr => ∃ (k : Nat) (l : List UInt8), k ≤ s.size ∧ i = .int .i64 k ∧ n = .int .i64 k ∧ Hid (l = s.data.toList.take k ∧ l.length = k ∧ okF l = true) ∧ wr.ownsRow w.heap.size 5 1 (.slice (some ⟨w.heap.size, 0, none⟩) m m) m (cellsOf (rowU m l)) ∧ Below w.heap.size w wr)
    (fun _ i _ => s.size - (intOf i).toNat)
  case atStart => exact ⟨0, [], by omega, rfl, rfl, ⟨rfl, rfl, rfl⟩, hown, hb1⟩
  case round =>
    clear hown hb1
    obtain ⟨k, l, hk, rfl, rfl, hl, hown, hnx⟩ := hrel
    have hsz := hnx.size
    by_cases hlt : k < s.size
    · obtain ⟨c, hc⟩ : ∃ c : Nat, c = s[k].toNat := ⟨_, rfl⟩
      have hcb : c < 256 := by have := s[k].toNat_lt; omega
      have hix := idx_str Tryd.underlying9 s k c hlt hc
      obtain ⟨x, hx, hx15, hst⟩ := rowU_step m l s[k] (by have := M3.out; have := hl.out.2.1; omega) hl.out.2.2
      have hlen := hl.out.2.1
      rw [hlen] at hx hst
      have hcell : wr.cell? ⟨w.heap.size, k / 2, none⟩ = some (.int .u8 (x.toNat : Int)) := by
        rw [hown.cellAt (k / 2) (by have := M3.out; omega)]; exact cellsOf_get _ _ _ hx
      have hfr := hown.frozenAt (k / 2)
      obtain ⟨y, hy⟩ : ∃ y : Nat, y = x.toNat := ⟨_, rfl⟩
      rw [← hy] at hcell hst hx15
      have hk2 : (k : Int) / 2 < (m : Int) := by have := M3.out; omega
      have C : Hid (c = s[k].toNat ∧ rowU m (l ++ [s[k]]) = (rowU m l).set (k / 2) (UInt8.ofNat (y * 16 + (fv s[k].toNat).toNat))) := ⟨hc, hst⟩
      clear hc hst hx hy hlen
      have h3 : (48 ≤ c ∧ c ≤ 57) ∨ (97 ≤ c ∧ c ≤ 102) ∨ c < 48 ∨ (57 < c ∧ c < 97) ∨ 102 < c := by omega
      rcases h3 with ⟨ha, hb⟩ | ⟨ha, hb⟩ | h | ⟨h, h'⟩ | h
      · have hf := fv_dig ⟨ha, hb⟩
        have F := hide hf
        clear hf
        go_wp2
        go_roundw
        case rel =>
          obtain ⟨e1, e2, e3⟩ := hl.out
          obtain ⟨e4, e5⟩ := C.out
          have e6 := F.out
          rw [← e4] at e5
          exact ⟨k + 1, l ++ [s[k]], by omega, by go_num, by go_num, ⟨by rw [take_one s k hlt, ← e1], by simp [e2], by rw [okF_snoc, e3, ← e4, e6]; simp; omega⟩, un_stored hown e5 (by omega) (by omega), hnx.setCell (Nat.le_refl _) _⟩
        case measure => simp [intOf]; omega
      · have hf := fv_let ⟨ha, hb⟩
        have F := hide hf
        have h57 : 57 < c := by omega
        clear hf
        go_wp2
        go_roundw
        case rel =>
          obtain ⟨e1, e2, e3⟩ := hl.out
          obtain ⟨e4, e5⟩ := C.out
          have e6 := F.out
          rw [← e4] at e5
          exact ⟨k + 1, l ++ [s[k]], by omega, by go_num, by go_num, ⟨by rw [take_one s k hlt, ← e1], by simp [e2], by rw [okF_snoc, e3, ← e4, e6]; simp; omega⟩, un_stored hown e5 (by omega) (by omega), hnx.setCell (Nat.le_refl _) _⟩
        case measure => simp [intOf]; omega
      all_goals
        have hf : okF s.data.toList = false := okF_bad s k hlt (by rw [← C.out.1, fv_no (by omega) (by omega)]; omega)
        have F := hide hf
        clear hf
        go_wp2
        first | go_ret2 | (rw [Exit.noGoto_ret]; go_ret2)
        exact ⟨by rw [unV_no F.out]; rfl, hnx⟩
    · have hstr := run_str_own (P := Tryd.prog) 95 9 5 Tryd.underlying95 Tryd.underlying5 Tryd.underlying9 hown
      have hkk : k = s.size := by omega
      have K := hide hkk
      clear hkk
      go_wp2
      first | go_ret2 | (rw [Exit.noGoto_ret]; go_ret2)
      refine ⟨?_, hnx⟩
      obtain ⟨e1, e2, e3⟩ := hl.out
      have e4 : l = s.data.toList := by rw [e1, List.take_of_length_le (by have := K.out; simp; omega)]
      have e5 := rowU_full m l (by have := M3.out; have := K.out; omega)
      rw [e4] at e3 e5
      rw [unV_yes e3, ← e5, e4]
      rfl

def unW (s : ByteArray) : Value := if s.size ≤ 40000 ∧ (s.size : Int) % 2 = 0 then unV s else .tuple #[.string (bs []), .bool false]

theorem unW_in {s : ByteArray} (h : s.size ≤ 40000) (h2 : (s.size : Int) % 2 = 0) : unW s = unV s := by unfold unW; rw [if_pos ⟨h, h2⟩]

theorem unW_out {s : ByteArray} (h : ¬ (s.size ≤ 40000 ∧ (s.size : Int) % 2 = 0)) : unW s = .tuple #[.string (bs []), .bool false] := by unfold unW; rw [if_neg h]

set_option maxRecDepth 100000 in
set_option maxHeartbeats 400000 in
theorem iuh_any (s : ByteArray) (w : World) (hs : s.size ≤ 1048576) : Calls Tryd.prog 81 #[.string s] w fun e w' => e = .returned (unW s) ∧ Below w.heap.size w w' := by
  by_cases h2 : (s.size : Int) % 2 = 0
  · by_cases h1 : (40000 : Int) < (s.size : Int)
    · rw [unW_out (by omega)]
      go_enter Tryd.func81, Tryd.ntmps81
      go_wp2
      go_step3
      go_wp2
      first | go_ret2 | (rw [Exit.noGoto_ret]; go_ret2)
      exact ⟨rfl, Below.refl _ _⟩
    rw [unW_in (by omega) h2]
    exact iuh_in s w (by omega) h2
  · rw [unW_out (by omega)]
    have h3 : (s.size : Int) % 2 = 1 := by omega
    clear h2
    go_enter Tryd.func81, Tryd.ntmps81
    go_wp2
    go_step3
    go_wp2
    first | go_ret2 | (rw [Exit.noGoto_ret]; go_ret2)
    exact ⟨rfl, Below.refl _ _⟩

theorem unW_two (s : ByteArray) : ∃ (t : ByteArray) (b : Bool), unW s = .tuple #[.string t, .bool b] := by
  unfold unW unV
  split
  · split <;> exact ⟨_, _, rfl⟩
  · exact ⟨_, _, rfl⟩
end Go.Proofs.YtpiookjdeopmgaaDoor
namespace Go.Proofs.YtpiookjdeopmgaaDoor
open Go.RowKit

def ascAt {α : Type} (ord : α → α → Int) (ls : List α) : Nat → Bool
  | 0 => true
  | k + 1 => match ls[k]?, ls[k + 1]? with
    | some p, some l => decide (ord p l < 0)
    | _, _ => true

theorem ascAt_eq {α : Type} {ord : α → α → Int} {ls : List α} {j : Nat} {p l : α} (hp : ls[j]? = some p) (hl : ls[j + 1]? = some l) : ascAt ord ls (j + 1) = decide (ord p l < 0) := by
  simp only [ascAt, hp, hl]

def ascB {α : Type} (ord : α → α → Int) (ls : List α) : Bool := (List.range ls.length).all (ascAt ord ls)

theorem all_false {n k : Nat} {p : Nat → Bool} (hk : k < n) (h : p k = false) : (List.range n).all p = false := by
  cases e : (List.range n).all p with
  | false => rfl
  | true => rw [List.all_eq_true.1 e k (List.mem_range.2 hk)] at h; cases h

theorem all_true {n : Nat} {p : Nat → Bool} (h : ∀ j, j < n → p j = true) : (List.range n).all p = true := List.all_eq_true.2 fun j hj => h j (List.mem_range.1 hj)

theorem next_true {k : Nat} {p : Nat → Bool} (h : ∀ j, j < k → p j = true) (hk : p k = true) : ∀ j, j < k + 1 → p j = true := fun j hj => by
  by_cases e : j = k
  · subst e; exact hk
  · exact h j (by omega)

def okAt {α : Type} (ok : α → Bool) (ls : List α) (k : Nat) : Bool := match ls[k]? with
  | some l => ok l
  | none => true

theorem okAt_eq {α : Type} {ok : α → Bool} {ls : List α} {k : Nat} {l : α} (h : ls[k]? = some l) : okAt ok ls k = ok l := by simp only [okAt, h]

def allOk {α : Type} (ok : α → Bool) (ls : List α) : Bool := (List.range ls.length).all (okAt ok ls)

end Go.Proofs.YtpiookjdeopmgaaDoor
namespace Go.Proofs.YtpiookjdeopmgaaDoor
open Go.RowKit

def mayTake (ops : Array Oper) (listed : Array Bool) (i : Nat) : Bool := Region.noSelect ops && Region.free .any ops listed i && (Region.ready .any ops listed).contains i

theorem mayTake_parts {ops : Array Oper} {listed : Array Bool} {i : Nat} (h : mayTake ops listed i = true) : Region.noSelect ops = true ∧ Region.free .any ops listed i = true ∧ (Region.ready .any ops listed).contains i = true := by
  unfold mayTake at h
  simp only [Bool.and_eq_true] at h
  exact ⟨h.1.1, h.1.2, h.2⟩

section
variable {P : Program} {ops : Array Oper} {Q : Exit → Act → World → Prop} {S : World → Prop} {fuel : Nat} {listed : Array Bool} {a : Act} {w : World}

/-- the beginning: the region's operations behind a letter -/
theorem wp_region_start {id : Nat} (hm : P.follows .mixedOrders = true) (n : Nat) (hn : ops.size = n) (hS : S w.drew) (h : ∀ ops', Hid (ops' = ops) → S w.drew → wpAnyH P .any ops' Q S n (Array.replicate n false) a w.drew) : (Code.region id ops true).wp P Q a w := by
  refine wp_region_held_drew hm hS (fun hs => ?_)
  rw [hn]
  exact h ops rfl hs

/-- an operation that isn't wanted -/
theorem take_skip (i : Nat) (d : Tmp) (hi : (ops[i]?).map Oper.dst = some (some d)) (ht : mayTake ops listed i = true) (hw : (ops[i]?).map (fun o => Region.wanted o (yielded ops a.tmps)) = some false)
    (hQ : ∀ c a w, Q (.panic c) (a.put (some d) undef) w → Q (.panic c) a w) (hS : S w) (h : wpAnyH P .any ops Q S fuel (listed.setIfInBounds i true) (a.put (some d) undef) w) : wpAnyH P .any ops Q S (fuel + 1) listed a w := by
  obtain ⟨h1, h2, h3⟩ := mayTake_parts ht
  cases ho : ops[i]? with
  | none => rw [ho] at hi; cases hi
  | some oi =>
    rw [ho] at hi hw
    simp only [Option.map_some, Option.some.injEq] at hi hw
    refine wpAnyH_take ho h1 h2 h3 (v := undef) ?_ (Or.inr ⟨hw, rfl⟩) hS ?_
    · rw [hi]; exact hQ
    · rw [hi]; exact h

/-- an operation that yields v in every world that meets S -/
theorem take_do (i : Nat) {oi : Oper} {v : Value} (hi : ops[i]? = some oi) (ht : mayTake ops listed i = true) (hw : Region.wanted oi (yielded ops a.tmps) = true) (hy : ∀ w, S w → (execOp a.eval oi).run P w = .ok (.value v) w)
    (hQ : ∀ c a w, Q (.panic c) (a.put oi.dst v) w → Q (.panic c) a w) (hS : S w) (h : wpAnyH P .any ops Q S fuel (listed.setIfInBounds i true) (a.put oi.dst v) w) : wpAnyH P .any ops Q S (fuel + 1) listed a w := by
  obtain ⟨h1, h2, h3⟩ := mayTake_parts ht
  exact wpAnyH_take hi h1 h2 h3 hQ (Or.inl ⟨hw, hy⟩) hS h

/-- a call that alone may come up -/
theorem take_call (i : Nat) {oi : Oper} (hi : ops[i]? = some oi) (hr : Region.ready .any ops listed = [i]) (hw : Region.wanted oi (yielded ops a.tmps) = true)
    (h : ∀ K' : Act → World → Prop, Shut (∀ a w, S w → (S w → wpAnyH P .any ops Q S fuel (listed.setIfInBounds i true) a w) → K' a w) → Oper.wp P oi a w K' Q) : wpAnyH P .any ops Q S (fuel + 1) listed a w := by
  refine wpAnyH_ready (rs := [i]) hr (by simp) ?_
  refine AllReadyH.cons hi (fun K hK => ?_) AllReadyH.nil
  rw [if_pos hw]
  exact h K hK
end
end Go.Proofs.YtpiookjdeopmgaaDoor
namespace Go.Proofs.YtpiookjdeopmgaaDoor

def insB {α : Type} (p : α → Bool) (ls : List α) (l : α) : List α := ls.filter p ++ [l] ++ ls.filter (fun x => !p x)

theorem take_filt {α : Type} {p : α → Bool} : ∀ {ls : List α} {i : Nat}, (∀ t x, t < i → ls[t]? = some x → p x = true) → (∀ t x, i ≤ t → ls[t]? = some x → p x = false) → ls.take i = ls.filter p ∧ ls.drop i = ls.filter (fun x => !p x)
  | [], i, _, _ => by simp
  | y :: ys, 0, _, h2 => by
    have e : ∀ x ∈ (y :: ys), p x = false := fun x hx => by
      obtain ⟨t, ht⟩ := List.mem_iff_getElem?.1 hx
      exact h2 t x (Nat.zero_le _) ht
    constructor
    · rw [List.take_zero, eq_comm, List.filter_eq_nil_iff]
      exact fun x hx => by rw [e x hx]; simp
    · rw [List.drop_zero, eq_comm, List.filter_eq_self]
      exact fun x hx => by rw [e x hx]; rfl
  | y :: ys, i + 1, h1, h2 => by
    have hy : p y = true := h1 0 y (Nat.succ_pos _) rfl
    have ih := take_filt (ls := ys) (i := i) (fun t x ht hx => h1 (t + 1) x (by omega) hx) (fun t x ht hx => h2 (t + 1) x (by omega) hx)
    simp only [List.take_succ_cons, List.drop_succ_cons, List.filter_cons, hy, ih.1, ih.2]
    simp

theorem ins_len2 {α : Type} {o : α → Int} {ls : List α} {l : α} {i : Nat} (hi : i ≤ ls.length) (h1 : ∀ t, t < i → ∃ x, ls[t]? = some x ∧ o x < 0) (h2 : ∀ t, i ≤ t → t < ls.length → ¬ ∃ x, ls[t]? = some x ∧ o x < 0) :
    ls.take i ++ [l] ++ ls.drop i = insB (fun x => decide (o x < 0)) ls l ∧ (insB (fun x => decide (o x < 0)) ls l).length = ls.length + 1 := by
  have e := take_filt (p := fun x => decide (o x < 0)) (ls := ls) (i := i) (fun t x ht hx => by
    obtain ⟨y, hy, hl⟩ := h1 t ht
    rw [hx] at hy
    cases hy
    simpa using hl) (fun t x ht hx => by
    have hl : t < ls.length := by
      rcases Nat.lt_or_ge t ls.length with h | h
      · exact h
      · rw [List.getElem?_eq_none h] at hx; cases hx
    simpa using fun hc => h2 t ht hl ⟨x, hx, hc⟩)
  have e2 : ls.take i ++ [l] ++ ls.drop i = insB (fun x => decide (o x < 0)) ls l := by rw [e.1, e.2]; rfl
  refine ⟨e2, ?_⟩
  rw [← e2]
  simp
  omega
end Go.Proofs.YtpiookjdeopmgaaDoor
