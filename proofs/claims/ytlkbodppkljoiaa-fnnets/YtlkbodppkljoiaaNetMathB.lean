/-
  Links of right nets, seen from both ends.
-/
import Derived.Test.YtlkbodppkljoiaaIAreaB
import Derived.Test.YtlkbodppkljoiaaDrawRight
namespace Go.Proofs.Ytlkbodppkljoiaa
open Go.RowKit

theorem upTo_mem (d : Array Int) : ∀ (m j : Nat), j < m → d[j]! ∈ Lib.compactUpTo d m
  | 0, j, h => by omega
  | m + 1, j, h => by
    rw [Lib.compactUpTo_succ]
    by_cases hj : j < m
    · exact List.mem_append_left _ (upTo_mem d m j hj)
    · obtain rfl : j = m := by omega
      by_cases hk : Lib.keeps d j = true
      · rw [if_pos hk]; simp
      · have hk2 : ¬ (j = 0 ∨ d[j]! ≠ d[j - 1]!) := by simpa [Lib.keeps] using hk
        have h0 : 0 < j := by omega
        have he : d[j]! = d[j - 1]! := by
          by_cases e : d[j]! = d[j - 1]!
          · exact e
          · exact absurd (Or.inr e) hk2
        rw [he]
        exact List.mem_append_left _ (upTo_mem d j (j - 1) (by omega))

theorem mem_compact {zs : List Int} {x : Int} : x ∈ Lib.compact zs ↔ x ∈ zs := by
  constructor
  · intro h
    simp only [Lib.compact, Lib.compactUpTo, List.mem_map, List.mem_filter, List.mem_range] at h
    obtain ⟨j, ⟨hj, _⟩, rfl⟩ := h
    have : zs.toArray[j]! = zs[j] := by simp [hj]
    rw [this]
    exact List.getElem_mem hj
  · intro h
    obtain ⟨j, hj, rfl⟩ := List.mem_iff_getElem.1 h
    have e : zs[j] = zs.toArray[j]! := by simp [hj]
    rw [e]
    exact upTo_mem _ _ j hj

theorem mem_hits {f r u : Int} {l : Lk} : u ∈ hits f r l ↔ lkHit f u r l = true := by
  simp only [hits, hit1, hit2, lkHit, List.mem_append]
  by_cases h1 : l.a = f ∧ l.r = r <;> by_cases h2 : l.b = f ∧ l.r = r <;> simp [h1, h2] <;> grind

theorem mem_next {ls : List Lk} {f r u : Int} : u ∈ nextI ls f r ↔ ∃ l ∈ ls, lkHit f u r l = true := by
  unfold nextI gath
  rw [mem_compact, List.mem_mergeSort, List.take_length, List.mem_flatMap]
  simp only [mem_hits]

theorem cost_sym (ls : List Lk) (f t r : Int) : costN ls f t r = costN ls t f r := by
  have e : lkHit f t r = lkHit t f r := by
    funext l
    simp only [lkHit]
    rw [Bool.or_comm]
  unfold costN
  rw [e]

theorem right_of {x : NetD} (h : netOkI x = true) : RightL x.n x.ls := by
  simp only [netOkI, linksB, Bool.and_eq_true] at h
  obtain ⟨⟨_, ⟨_, hok⟩, hasc⟩, _⟩ := h
  refine ⟨fun l hl => ?_, ?_⟩
  · obtain ⟨j, hj, rfl⟩ := List.mem_iff_getElem.1 hl
    have := List.all_eq_true.1 hok j (List.mem_range.2 hj)
    rwa [okAt_eq (List.getElem?_eq_getElem hj)] at this
  · have step : ∀ j (hj : j + 1 < x.ls.length), aheadB x.ls[j] x.ls[j + 1] = true := fun j hj => by
      have := List.all_eq_true.1 hasc (j + 1) (List.mem_range.2 hj)
      rw [ascAt_eq (List.getElem?_eq_getElem (by omega)) (List.getElem?_eq_getElem hj)] at this
      rw [aheadB_eq]; exact this
    rw [List.pairwise_iff_getElem]
    intro i j hi hj hij
    obtain ⟨d, rfl⟩ : ∃ d, j = i + 1 + d := ⟨j - i - 1, by omega⟩
    induction d with
    | zero => exact step i hj
    | succ d ih =>
      have h1 := ih (by omega) (by omega)
      have h2 := step (i + 1 + d) hj
      simp only [aheadB_iff] at h1 h2 ⊢
      have e : i + 1 + d + 1 = i + 1 + (d + 1) := by omega
      simp only [e] at h2
      omega

theorem link_facts {n : Int} {l : Lk} (h : linkOkB n l = true) : l.a < l.b ∧ 1 ≤ l.c := by
  simp [linkOkB, inB] at h
  omega

theorem cost_pos {n : Int} {ls : List Lk} (h : RightL n ls) (f t r : Int) : 0 < costN ls f t r ↔ ∃ l ∈ ls, lkHit f t r l = true := by
  unfold costN
  constructor
  · intro hp
    cases e : ls.find? (lkHit f t r) with
    | none => rw [e] at hp; simp at hp
    | some l => exact ⟨l, List.mem_of_find?_eq_some e, List.find?_some e⟩
  · rintro ⟨l, hl, hh⟩
    cases e : ls.find? (lkHit f t r) with
    | none => exact absurd hh (by simpa using List.find?_eq_none.1 e l hl)
    | some m =>
      have := (link_facts (h.1 m (List.mem_of_find?_eq_some e))).2
      simp
      omega

theorem cost_in {n : Int} {ls : List Lk} (h : RightL n ls) (f t r : Int) : decide (0 < costN ls f t r) = decide (t ∈ nextI ls f r) := by
  rw [decide_eq_decide, cost_pos h, mem_next]

theorem cost_own {n : Int} {ls : List Lk} (h : RightL n ls) {l : Lk} (hl : l ∈ ls) : costN ls l.a l.b l.r = l.c := by
  have hs : lkHit l.a l.b l.r l = true := by simp [lkHit]
  unfold costN
  cases e : ls.find? (lkHit l.a l.b l.r) with
  | none => exact absurd hs (by simpa using List.find?_eq_none.1 e l hl)
  | some m =>
    have hm := List.mem_of_find?_eq_some e
    have hh := List.find?_some e
    have f1 := (link_facts (h.1 m hm)).1
    have f2 := (link_facts (h.1 l hl)).1
    have key : m.a = l.a ∧ m.b = l.b ∧ m.r = l.r := by
      simp [lkHit] at hh
      omega
    have same : m = l := by
      obtain ⟨i, hi, rfl⟩ := List.mem_iff_getElem.1 hm
      obtain ⟨j, hj, rfl⟩ := List.mem_iff_getElem.1 hl
      have hp := List.pairwise_iff_getElem.1 h.2
      by_cases hij : i < j
      · have := hp i j hi hj hij
        simp only [aheadB_iff] at this
        omega
      · by_cases hji : j < i
        · have := hp j i hj hi hji
          simp only [aheadB_iff] at this
          omega
        · have : i = j := by omega
          subst this; rfl
    rw [same]; rfl

theorem areas_in (ls : List Lk) (f r : Int) (hr : 0 ≤ r) (hr2 : r ≤ 2) : decide (r ∈ areasI ls f) = decide ((0 : Int) < ((nextI ls f r).length : Int)) := by
  rw [decide_eq_decide]
  unfold areasI
  simp only [List.mem_filter, List.mem_cons, List.not_mem_nil, or_false, decide_eq_true_eq]
  constructor
  · intro h; omega
  · intro h; exact ⟨by omega, by omega⟩

theorem bord_in (ls : List Lk) (f : Int) : bordI ls f = (decide ((0 : Int) ∈ areasI ls f) && decide ((1 : Int) < ((areasI ls f).length : Int))) := by
  unfold bordI areasI
  simp only [List.filter_cons, List.filter_nil]
  by_cases h0 : 0 < (nextI ls f 0).length <;> by_cases h1 : 0 < (nextI ls f 1).length <;> by_cases h2 : 0 < (nextI ls f 2).length <;> simp [h0, h1, h2]

theorem no_link (n : Int) : linkOkB n ⟨2, 1, 1, 0⟩ = false := by
  simp [linkOkB, inB]

set_option maxRecDepth 100000 in
set_option maxHeartbeats 1000000 in
theorem lin_any (base : Nat) (u : Value) (l : List Int) (x : Int) (w : World) (hown : w.ownsRow base 3 1 u l.length (intsOf l)) (hl : l.length ≤ 1000000000) :
    Calls Try.prog 12 #[u, .int .i64 x] w fun e w' => e = .returned (.bool (decide (x ∈ l))) ∧ w = w' := by
  obtain ⟨a, cap, rfl⟩ := owns_len hown
  have HC : ∀ k, k < l.length → ∃ g, a = some ⟨g, 0, none⟩ ∧ w.cell? ⟨g, k, none⟩ = some (.int .i64 (l.getD k 0)) := fun k hk => by
    obtain ⟨g, cp, e, _, _⟩ := owns_shape hown (by omega)
    cases e
    refine ⟨g, rfl, ?_⟩
    rw [hown.cellAt k (by omega)]
    simp [intsOf, List.getElem?_eq_getElem hk]
  have HH := hide HC
  clear HC hown
  go_enter Try.func12, Try.ntmps12
  go_wp2
  go_loopw [5] (fun i wr => ∃ k : Nat, k ≤ l.length ∧ i = .int .i64 k ∧ (∀ j, j < k → l.getD j 0 ≠ x) ∧ w = wr) (fun i _ => l.length - (intOf i).toNat)
  case atStart => exact ⟨0, by omega, rfl, by omega, rfl⟩
  case round =>
    obtain ⟨k, hk, rfl, hno, rfl⟩ := hrel
    have HNO := hide hno
    clear hno
    by_cases hlt : k < l.length
    · obtain ⟨g, rfl, hc⟩ := HH.out k hlt
      have hmem : l.getD k 0 ∈ l := by simp [List.getElem?_eq_getElem hlt]
      obtain ⟨y, hy⟩ : ∃ y, y = l.getD k 0 := ⟨_, rfl⟩
      rw [← hy] at hc hmem
      have hkj : (k : Int) < (l.length : Int) := by omega
      by_cases he : y = x
      · have e1 : (y == x) = true := by simp [he]
        have hd : decide (x ∈ l) = true := by rw [← he]; simpa using hmem
        have HD := hide hd
        clear hd he hy hmem
        go_wp2
        go_ret
        exact ⟨ret_bool HD.out, rfl⟩
      · have e1 : (y == x) = false := by simpa using he
        have hnx : ∀ j, j < k + 1 → l.getD j 0 ≠ x := fun j hj => by
          by_cases e : j = k
          · subst e; rw [← hy]; exact he
          · exact HNO.out j (by omega)
        have HN := hide hnx
        clear hnx he hy hmem
        go_wp2
        go_roundw
        case rel => exact ⟨k + 1, by omega, by go_num, HN.out, trivial⟩
        case measure => simp [intOf]; omega
    · have hd : decide (x ∈ l) = false := by
        apply decide_eq_false
        intro h
        obtain ⟨j, hj, e⟩ := List.mem_iff_getElem.1 h
        exact HNO.out j (by omega) (by simp [List.getElem?_eq_getElem hj, e])
      have HD := hide hd
      have hkj : ¬ (k : Int) < (l.length : Int) := by omega
      clear hd
      go_wp2
      go_ret
      exact ⟨ret_bool HD.out, rfl⟩

theorem ends_of {n : Int} {ls : List Lk} (h : RightL n ls) : ∀ l ∈ ls, (1 ≤ l.a ∧ l.a ≤ n) ∧ (1 ≤ l.b ∧ l.b ≤ n) := by
  intro l hl
  have := h.1 l hl
  unfold linkOkB at this
  simp [inB] at this
  omega
end Go.Proofs.Ytlkbodppkljoiaa
