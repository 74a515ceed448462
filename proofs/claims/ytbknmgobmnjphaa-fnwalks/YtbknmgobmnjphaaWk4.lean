/-
  spec.l03In, l06Add: their contracts.
  Rows of a known number of cells, told by a function.
  spec.l06Links: its contract.
  impl.ofItsKind, the three keyOk methods: their contracts.
  Lists that ascend, lists all of whose elements are right.
-/
import Derived.Test.YtbknmgobmnjphaaWk3
import Derived.Test.YtbknmgobmnjphaaWk2
import Derived.Test.YtbknmgobmnjphaaWk1
import Derived.Deep.OwnRows
namespace Go.Proofs.Ytbknmgobmnjphaa
open Go.RowKit

set_option linter.unusedSimpArgs false

theorem take_mem {l : List Int} {k : Nat} {z y : Int} (h : l[k]? = some y) (hn : z ∉ l.take k) (hz : z ≠ y) : z ∉ l.take (k + 1) := by
  obtain ⟨hk, e⟩ := List.getElem?_eq_some_iff.1 h
  rw [List.take_succ_eq_append_getElem hk, e]
  simp [hn, hz]

set_option maxRecDepth 100000 in
set_option maxHeartbeats 1000000 in
theorem sin_any (v : Value) (l : List Int) (z : Int) (w : World) (hn : l.length ≤ 1048576) (hv : HopsAt w v l w.heap.size) :
    Calls Try.prog 68 #[v, .int .i64 z] w fun e w' => e = .returned (.bool (decide (z ∈ l))) ∧ Below w.heap.size w w' := by
  obtain ⟨R, hR⟩ : ∃ R, R = decide (z ∈ l) := ⟨_, rfl⟩
  rw [← hR]
  have HR := hide hR
  clear hR
  obtain ⟨a, cap, rfl⟩ := hv.shape
  have HV := hide hv
  clear hv
  go_enter Try.func68, Try.ntmps68
  go_wp2
  go_loopw [5] (fun i wr => ∃ k : Nat, k ≤ l.length ∧ i = .int .i64 k ∧ Hid (z ∉ l.take k) ∧ Below w.heap.size w wr) (fun i _ => l.length - (intOf i).toNat)
  case atStart => exact ⟨0, by omega, rfl, hide (by simp), Below.refl _ _⟩
  case round =>
    obtain ⟨k, hk, rfl, HNO, hnx⟩ := hrel
    by_cases hlt : k < l.length
    · obtain ⟨y, hy⟩ : ∃ y, l[k]? = some y := ⟨l[k], List.getElem?_eq_getElem hlt⟩
      obtain ⟨b, off, cap', hve, hbb, c0⟩ := HV.out.cell k y hy
      cases hve
      rw [← hnx.cell (p := ⟨b, off + k, none⟩) hbb] at c0
      have hki : (0 : Int) ≤ (k : Int) := by omega
      have hkj : (k : Int) < (l.length : Int) := by omega
      by_cases hzy : z = y
      · subst hzy
        have HF := hide (show R = true by rw [HR.out]; exact decide_eq_true (List.mem_of_getElem? hy))
        clear hy
        go_wp2
        (try go_quiet (fail))
        (try go_wp2)
        go_ret
        exact ⟨ret_bool HF.out, by first | exact hnx | exact hnx.trans ⟨rfl, rfl, rfl, Nat.le_refl _, fun _ _ => rfl⟩⟩
      · have HN := hide (take_mem hy HNO.out hzy)
        have hyz : ¬ y = z := fun e => hzy e.symm
        have hd : (y == z) = false := by simpa using hyz
        clear hy
        go_wp2
        (try go_quiet (fail))
        (try go_wp2)
        go_roundw
        case rel => exact ⟨k + 1, by omega, by go_num, HN, by first | exact hnx | exact hnx.trans ⟨rfl, rfl, rfl, Nat.le_refl _, fun _ _ => rfl⟩⟩
        case measure => simp [intOf]; omega
    · have HF := hide (show R = false by
        rw [HR.out]
        have h := HNO.out
        rw [List.take_of_length_le (by omega)] at h
        exact decide_eq_false h)
      go_wp2
      go_ret
      exact ⟨ret_bool HF.out, hnx⟩

/-- the numbers of 1 .. k that stand in one of the two -/
def addT (a b : List Int) : Nat → List Int
  | 0 => []
  | k + 1 => addT a b k ++ (if (k : Int) + 1 ∈ a ∨ (k : Int) + 1 ∈ b then [(k : Int) + 1] else [])

def addL (a b : List Int) : List Int := addT a b 6

theorem addT_len (a b : List Int) (k : Nat) : (addT a b k).length ≤ k := by
  induction k with
  | zero => simp [addT]
  | succ k ih =>
    unfold addT
    rw [List.length_append]
    split <;> simp <;> omega

set_option maxRecDepth 100000 in
set_option maxHeartbeats 2000000 in
theorem sadd_any (v1 v2 : Value) (xs ys : List Int) (w : World) (hx : xs.length ≤ 1048576) (hy : ys.length ≤ 1048576) (h1 : HopsAt w v1 xs w.heap.size) (h2 : HopsAt w v2 ys w.heap.size) :
    Calls Try.prog 56 #[v1, v2] w fun e w' => ∃ x, e = .returned x ∧ w'.ownsRow w.heap.size 3 1 x (addL xs ys).length (flat intE (addL xs ys)) ∧ Below w.heap.size w w' := by
  obtain ⟨a1, c1, rfl⟩ := h1.shape
  obtain ⟨a2, c2, rfl⟩ := h2.shape
  have HI1 := hide (fun z W (hb : Below w.heap.size w W) => sin_any (.slice a1 xs.length c1) xs z W hx ((RowAt.later h1 hb (Nat.le_refl _)).more hb.size))
  have HI2 := hide (fun z W (hb : Below w.heap.size w W) => sin_any (.slice a2 ys.length c2) ys z W hy ((RowAt.later h2 hb (Nat.le_refl _)).more hb.size))
  have O0 := hide (own_litI w w.heap.size w.heap.size rfl (Nat.le_refl _))
  have B0 : Below w.heap.size w (w.alloc (.cells #[] 3)) := (Below.refl _ _).alloc (Nat.le_refl _) _
  clear h1 h2
  go_enter Try.func56, Try.ntmps56
  go_wp2
  generalize w.alloc (.cells #[] 3) = w0 at *
  go_loopw [6, 5] (fun i o wr => ∃ (k : Nat) (l : List Int) (u : Value), k ≤ 6 ∧ i = .int .i64 ((k : Int) + 1) ∧ o = u ∧ Hid (l = addT xs ys k) ∧ wr.ownsRow w.heap.size 3 1 u l.length (flat intE l) ∧ Below w.heap.size w wr) (fun i _ _ => 8 - (intOf i).toNat)
  case atStart => exact ⟨0, [], _, by omega, rfl, rfl, hide rfl, O0.out, B0⟩
  case round =>
    obtain ⟨k, l, u, hk, rfl, rfl, HL, hown, hnx⟩ := hrel
    obtain ⟨ua, uc, rfl⟩ := owns_lenS hown
    have hsz := hnx.size
    have hll : l.length ≤ 6 := by rw [HL.out]; have := addT_len xs ys k; omega
    have OW := hide hown
    clear hown
    by_cases hlt : k < 6
    · have hk6 : (k : Int) + 1 ≤ 6 := by omega
      have hw1 : IntKind.i64.wrap ((k : Int) + 1 + 1) = ((k + 1 : Nat) : Int) + 1 := by rw [wrap_fit _ (by omega) (by omega)]; omega
      obtain ⟨P, hP⟩ : ∃ P, P = decide ((k : Int) + 1 ∈ xs) := ⟨_, rfl⟩
      obtain ⟨Q, hQ⟩ : ∃ Q, Q = decide ((k : Int) + 1 ∈ ys) := ⟨_, rfl⟩
      have H1 := HI1.out ((k : Int) + 1)
      have H2 := HI2.out ((k : Int) + 1)
      rw [← hP] at H1
      rw [← hQ] at H2
      have J1 := hide H1
      have J2 := hide H2
      have HST := hide (show addT xs ys (k + 1) = l ++ (if P = true ∨ Q = true then [(k : Int) + 1] else []) by
        rw [HL.out, hP, hQ]
        simp [addT])
      clear H1 H2 hP hQ HI1 HI2
      cases P
      · go_wp2_with fail
        refine (J1.out _ hnx).mono ?_
        rintro e w2 ⟨rfl, b2⟩
        have b2s := b2.size
        go_wp2_with fail
        refine (J2.out _ (hnx.trans (b2.mono hsz))).mono ?_
        rintro e w3 ⟨rfl, b3⟩
        have b3s := b3.size
        have B3 : Below wr.heap.size wr w3 := b2.trans (b3.mono b2s)
        clear b2 b3
        cases Q
        · have HN := hide (show l = addT xs ys (k + 1) by rw [HST.out]; simp)
          have OW3 := hide (owns_below OW.out B3 (Nat.le_refl _))
          go_wp2
          go_roundw
          case rel => exact ⟨k + 1, l, _, by omega, rfl, rfl, HN, OW3.out, hnx.trans (B3.mono hsz)⟩
          case measure => simp [intOf]; omega
        · have HN := hide (show l ++ [(k : Int) + 1] = addT xs ys (k + 1) by rw [HST.out]; simp)
          go_wp2_with (first
            | (at_builtin; refine append_struct5 intE_len (by omega) (by omega) _ rfl _ _ 39 rfl w.heap.size 3 Try.underlying39 (.int .i64 0) rfl Try.info3 _ l ((k : Int) + 1) (intE_one _) rfl ((owns_below OW.out B3 (Nat.le_refl _)).alloc _) ⟨w3.heap.size, 0, none⟩ 1 rfl (news_struct (cs := intE ((k : Int) + 1))) (by omega) (by simp; omega) ?_))
          intro v' w4 hown' hgrow
          obtain ⟨va, vc, rfl⟩ := owns_lenS hown'
          have B4 : Below w.heap.size w w4 := ((hnx.trans (B3.mono hsz)).alloc (by omega) _).grown hgrow (by simp; omega) (fun j hj => (OW.out.lt j hj).1)
          have OW4 := hide hown'
          clear hown' hgrow
          go_wp2
          go_roundw
          case rel => exact ⟨k + 1, l ++ [(k : Int) + 1], _, by omega, rfl, rfl, HN, (by simpa using OW4.out), B4⟩
          case measure => simp [intOf]; omega
      · have HN := hide (show l ++ [(k : Int) + 1] = addT xs ys (k + 1) by rw [HST.out]; simp)
        go_wp2_with fail
        refine (J1.out _ hnx).mono ?_
        rintro e w3 ⟨rfl, B3⟩
        have b3s := B3.size
        go_wp2_with (first
          | (at_builtin; refine append_struct5 intE_len (by omega) (by omega) _ rfl _ _ 39 rfl w.heap.size 3 Try.underlying39 (.int .i64 0) rfl Try.info3 _ l ((k : Int) + 1) (intE_one _) rfl ((owns_below OW.out B3 (Nat.le_refl _)).alloc _) ⟨w3.heap.size, 0, none⟩ 1 rfl (news_struct (cs := intE ((k : Int) + 1))) (by omega) (by simp; omega) ?_))
        intro v' w4 hown' hgrow
        obtain ⟨va, vc, rfl⟩ := owns_lenS hown'
        have B4 : Below w.heap.size w w4 := ((hnx.trans (B3.mono hsz)).alloc (by omega) _).grown hgrow (by simp; omega) (fun j hj => (OW.out.lt j hj).1)
        have OW4 := hide hown'
        clear hown' hgrow
        go_wp2
        go_roundw
        case rel => exact ⟨k + 1, l ++ [(k : Int) + 1], _, by omega, rfl, rfl, HN, (by simpa using OW4.out), B4⟩
        case measure => simp [intOf]; omega
    · have hk6 : ¬ (k : Int) + 1 ≤ 6 := by omega
      have KN := hide (show l = addL xs ys by rw [HL.out, show k = 6 by omega]; rfl)
      go_wp2
      go_ret
      have h := OW.out
      rw [KN.out] at h
      exact ⟨_, by rw [KN.out]; rfl, h, hnx⟩
end Go.Proofs.Ytbknmgobmnjphaa
namespace Go.Proofs.Ytbknmgobmnjphaa
open Go.RowKit

def rowA (f : Nat → Value) (n : Nat) : Array Value := ((List.range n).map f).toArray

theorem rowA_at {f : Nat → Value} {n i : Nat} (h : i < n) : (rowA f n)[i]? = some (f i) := by
  simp [rowA, h]

theorem rowA_set (f : Nat → Value) (n i : Nat) (x : Value) : (rowA f n).setIfInBounds i x = rowA (fun j => if j = i then x else f j) n := by
  apply Array.ext
  · simp [rowA]
  · intro j h1 h2
    have hj : j < n := by simpa [rowA] using h2
    simp [rowA]
    by_cases e : i = j
    · subst e; simp
    · have e' : ¬ j = i := fun h => e h.symm
      simp [e, e']

theorem rowA_congr {f g : Nat → Value} {n : Nat} (h : ∀ i, i < n → f i = g i) : rowA f n = rowA g n := by
  unfold rowA
  congr 1
  apply List.map_congr_left
  intro i hi
  exact h i (List.mem_range.1 hi)

theorem rowA_cell {W : World} {b n i : Nat} {f : Nat → Value} {t : TypeId} (h : W.heap[b]? = some (.cells (rowA f n) t)) (hi : i < n) : W.cell? ⟨b, i, none⟩ = some (f i) := by
  have e := cells_at h i
  rw [rowA_at hi] at e
  exact e

theorem rowA_put {W : World} {b n i : Nat} {f : Nat → Value} {t : TypeId} (h : W.heap[b]? = some (.cells (rowA f n) t)) (x : Value) : (W.setCell ⟨b, i, none⟩ x).heap[b]? = some (.cells (rowA (fun j => if j = i then x else f j) n) t) := by
  have e := heap_setCell_same W b i _ _ x h
  rw [rowA_set] at e
  exact e
theorem rowA_made (z : Value) (n : Nat) : madeCells #[z] n = rowA (fun _ => z) n := by
  apply Array.ext
  · simp [rowA, madeCells]
  · intro j h1 h2
    simp [rowA, madeCells, Nat.mod_one]

theorem wpList_make_rowA {P : Program} (w : World) {ops : Array Oper} {rest : List Oper} {o : Oper} {a : Act} {Q : Exit → Act → World → Prop}
    (hg : o.guard = none) (l c : Operand) (t : TypeId) (hop : o.op = Op.makeSlice t l c)
    (e : TypeId) (z : Value) (bytes : Nat) (ht : P.underlying t = some (.slice e)) (hinfo : (P.info? e).map (fun i => (i.zero, i.size, i.bytes)) = some (some z, 1, bytes)) (hz1 : z.cells = #[z])
    (n : Nat) (hl : a.eval l = .int .i64 (n : Int)) (hc : a.eval c = .int .i64 (n : Int)) (hbytes : bytes * n ≤ 281474976710656) (h63 : n ≤ 9223372036854775807)
    (hK : wpList P ops Q rest (a.put o.dst (.slice (some ⟨w.heap.size, 0, none⟩) n n)) (w.alloc (.cells (rowA (fun _ => z) n) e))) :
    wpList P ops Q (o :: rest) a w := by
  obtain ⟨i, hi, hzz⟩ := Option.map_eq_some_iff.1 hinfo
  simp only [Prod.mk.injEq] at hzz
  obtain ⟨hz, hs, hb⟩ := hzz
  refine wpList_make_row w hg l c t hop e i z ht hi hz hs hz1 .i64 .i64 n hl hc (by rw [hb]; exact hbytes) h63 ?_
  rw [rowA_made]
  exact hK
end Go.Proofs.Ytbknmgobmnjphaa
namespace Go.Proofs.Ytbknmgobmnjphaa
open Go.RowKit

set_option linter.unusedSimpArgs false

/-- what the first k of a node's neighbours leave in the table, of v -/
def linkT (ns : List Nr) (bk : Int → Int) (v : Nat) : Nat → Int
  | 0 => 0
  | k + 1 => match ns[k]? with
    | some n => if n.to = (v : Int) ∧ inB n.to 1 6 = true ∧ 0 < bk n.to then n.c else linkT ns bk v k
    | none => linkT ns bk v k

/-- the table of links -/
def linkF (xs : List RecD) (area : Int) (u v : Nat) : Int := linkT (nodeD xs area u).near (fun b => tellsD xs area b u) v (nodeD xs area u).near.length

def linkV (o : Nat → Nat → Int) (i : Nat) : Value := .int .i64 (o (i / 7) (i % 7))

theorem linkV_at {W : World} {g : Nat} {o : Nat → Nat → Int} (h : W.heap[g]? = some (.cells (rowA (linkV o) 49) 3)) {a b : Nat} (ha : a ≤ 6) (hb : b ≤ 6) : W.cell? ⟨g, a * 7 + b, none⟩ = some (.int .i64 (o a b)) := by
  rw [rowA_cell h (by omega)]
  unfold linkV
  rw [show (a * 7 + b) / 7 = a by omega, show (a * 7 + b) % 7 = b by omega]

theorem linkV_put {W : World} {g : Nat} {o : Nat → Nat → Int} (h : W.heap[g]? = some (.cells (rowA (linkV o) 49) 3)) {a b : Nat} (hb : b ≤ 6) (x : Int) :
    (W.setCell ⟨g, a * 7 + b, none⟩ (.int .i64 x)).heap[g]? = some (.cells (rowA (linkV (fun u v => if u = a ∧ v = b then x else o u v)) 49) 3) := by
  rw [rowA_put h, rowA_congr (fun i _ => ?_)]
  unfold linkV
  show (if i = a * 7 + b then Value.int .i64 x else .int .i64 (o (i / 7) (i % 7))) = .int .i64 (if i / 7 = a ∧ i % 7 = b then x else o (i / 7) (i % 7))
  by_cases e : i = a * 7 + b
  · rw [if_pos e, if_pos (by omega)]
  · rw [if_neg e, if_neg (by omega)]

theorem linkT_step {ns : List Nr} {k : Nat} {n : Nr} (bk : Int → Int) (v : Nat) (h : ns[k]? = some n) : linkT ns bk v (k + 1) = if n.to = (v : Int) ∧ inB n.to 1 6 = true ∧ 0 < bk n.to then n.c else linkT ns bk v k := by
  show (match ns[k]? with
    | some n => if n.to = (v : Int) ∧ inB n.to 1 6 = true ∧ 0 < bk n.to then n.c else linkT ns bk v k
    | none => linkT ns bk v k) = _
  rw [h]

theorem inB_iff {x a b : Int} : inB x a b = true ↔ a ≤ x ∧ x ≤ b := by simp [inB]

/-- the table behind k nodes and j neighbours of the next one -/
def linksMid (xs : List RecD) (area : Int) (k j u v : Nat) : Int := if u ≤ k then linkF xs area u v else if u = k + 1 then linkT (nodeD xs area u).near (fun b => tellsD xs area b u) v j else 0

def IsMid (xs : List RecD) (area : Int) (k j : Nat) (o : Nat → Nat → Int) : Prop := ∀ u v, 1 ≤ u → u ≤ 6 → 1 ≤ v → v ≤ 6 → o u v = linksMid xs area k j u v

theorem mid_next {xs : List RecD} {area : Int} {k : Nat} {o : Nat → Nat → Int} (h : IsMid xs area k (nodeD xs area ((k + 1 : Nat) : Int)).near.length o) : IsMid xs area (k + 1) 0 o := by
  intro u v h1 h2 h3 h4
  rw [h u v h1 h2 h3 h4]
  unfold linksMid
  by_cases e : u ≤ k
  · rw [if_pos e, if_pos (by omega)]
  · rw [if_neg e]
    by_cases e2 : u = k + 1
    · rw [if_pos e2, if_pos (by omega)]
      subst e2
      rfl
    · rw [if_neg e2, if_neg (by omega)]
      split
      · rfl
      · rfl

theorem mid_skip {xs : List RecD} {area : Int} {k j : Nat} {o : Nat → Nat → Int} {n : Nr} (h : IsMid xs area k j o) (hn : (nodeD xs area ((k + 1 : Nat) : Int)).near[j]? = some n) (hno : ¬ (inB n.to 1 6 = true ∧ 0 < tellsD xs area n.to ((k + 1 : Nat) : Int))) : IsMid xs area k (j + 1) o := by
  intro u v h1 h2 h3 h4
  rw [h u v h1 h2 h3 h4]
  unfold linksMid
  by_cases e : u ≤ k
  · rw [if_pos e, if_pos e]
  · rw [if_neg e, if_neg e]
    by_cases e2 : u = k + 1
    · rw [if_pos e2, if_pos e2]
      subst e2
      rw [linkT_step _ v hn, if_neg (fun hc => hno hc.2)]
    · rw [if_neg e2, if_neg e2]

theorem mid_put {xs : List RecD} {area : Int} {k j t : Nat} {o : Nat → Nat → Int} {n : Nr} (h : IsMid xs area k j o) (hn : (nodeD xs area ((k + 1 : Nat) : Int)).near[j]? = some n) (hyes : inB n.to 1 6 = true ∧ 0 < tellsD xs area n.to ((k + 1 : Nat) : Int)) (ht : n.to = (t : Int)) : IsMid xs area k (j + 1) (fun u v => if u = k + 1 ∧ v = t then n.c else o u v) := by
  intro u v h1 h2 h3 h4
  have hh := h u v h1 h2 h3 h4
  unfold linksMid at hh ⊢
  by_cases e : u ≤ k
  · rw [if_pos e] at hh ⊢
    show (if u = k + 1 ∧ v = t then n.c else o u v) = _
    rw [if_neg (by omega)]
    exact hh
  · rw [if_neg e] at hh ⊢
    by_cases e2 : u = k + 1
    · rw [if_pos e2] at hh ⊢
      subst e2
      rw [linkT_step _ v hn]
      show (if k + 1 = k + 1 ∧ v = t then n.c else o (k + 1) v) = _
      by_cases e3 : v = t
      · rw [if_pos ⟨rfl, e3⟩, if_pos ⟨by omega, hyes⟩]
      · rw [if_neg (fun hc => e3 hc.2), if_neg (fun hc => by have := hc.1; omega)]
        exact hh
    · rw [if_neg e2] at hh ⊢
      show (if u = k + 1 ∧ v = t then n.c else o u v) = _
      rw [if_neg (fun hc => e2 hc.1)]
      exact hh

set_option maxRecDepth 100000 in
set_option maxHeartbeats 2000000 in
theorem slinks_any (v : Value) (ps : List RP) (hi : Nat) (area : Int) (w : World) (hv : RecsIn w hi v ps) (hhi : hi ≤ w.heap.size) (hn : tot ps ≤ 1048576) :
    Calls Try.prog 64 #[v, .int .i64 area] w fun e w' => ∃ o, e = .returned (.slice (some ⟨w.heap.size, 0, none⟩) 49 49) ∧ w'.heap[w.heap.size]? = some (.cells (rowA (linkV o) 49) 3) ∧ (∀ u v, 1 ≤ u → u ≤ 6 → 1 ≤ v → v ≤ 6 → o u v = linkF (fsts ps) area u v) ∧ Below w.heap.size w w' := by
  obtain ⟨a1, c1, rfl⟩ := owns_lenS hv.row
  have HN := hide (fun node W (hb : Below w.heap.size w W) => snode_any (.slice a1 ps.length c1) ps hi area node W (hv.below hb hhi) (Nat.le_trans hhi hb.size) hn)
  have HT := hide (fun a b W (hb : Below w.heap.size w W) => stells_any (.slice a1 ps.length c1) ps hi area a b W (hv.below hb hhi) (Nat.le_trans hhi hb.size) hn)
  clear hv
  have g0 := heap_alloc_new w (.cells (rowA (fun _ => .int .i64 0) 49) 3)
  have B0 : Below w.heap.size w (w.alloc (.cells (rowA (fun _ => .int .i64 0) 49) 3)) := (Below.refl _ _).alloc (Nat.le_refl _) _
  go_enter Try.func64, Try.ntmps64
  go_wp2_with (first | (at_make; refine wpList_make_rowA _ rfl _ _ 39 rfl 3 (.int .i64 0) 8 Try.underlying39 Try.info3 rfl 49 rfl rfl (by omega) (by omega) ?_))
  generalize w.alloc (.cells (rowA (fun _ => .int .i64 0) 49) 3) = w0 at *
  go_wp2
  go_loopw [6] (fun i wr => ∃ (k : Nat) (o : Nat → Nat → Int), k ≤ 6 ∧ i = .int .i64 ((k : Int) + 1) ∧ Hid (IsMid (fsts ps) area k 0 o) ∧ wr.heap[w.heap.size]? = some (.cells (rowA (linkV o) 49) 3) ∧ Below w.heap.size w wr) (fun i _ => 8 - (intOf i).toNat)
  case atStart => exact ⟨0, fun _ _ => 0, by omega, rfl, hide (fun u v h1 h2 h3 h4 => by unfold linksMid; rw [if_neg (by omega)]; split <;> rfl), g0, B0⟩
  case round =>
    rename World => wo
    obtain ⟨k, o, hk, rfl, HO, hg, hnx⟩ := hrel
    have hsz := hnx.size
    by_cases hlt : k < 6
    · have hk6 : (k : Int) + 1 ≤ 6 := by omega
      have hw1 : IntKind.i64.wrap ((k : Int) + 1 + 1) = ((k + 1 : Nat) : Int) + 1 := by rw [wrap_fit _ (by omega) (by omega)]; omega
      have J := hide (HN.out ((k : Int) + 1) wo hnx)
      obtain ⟨D, hD⟩ : ∃ D, D = nodeD (fsts ps) area ((k : Int) + 1) := ⟨_, rfl⟩
      obtain ⟨NB, hNB⟩ : ∃ b, b = nodeB (fsts ps) area ((k : Int) + 1) := ⟨_, rfl⟩
      rw [← hD, ← hNB] at J
      have HD := hide hD
      clear hD hNB
      unfold recC at J
      go_wp2_with fail
      refine J.out.mono ?_
      rintro e w1 ⟨u, rfl, hu, hul, b1⟩
      obtain ⟨ua, uc, rfl⟩ := NearsAt.shape hu
      have hx := heap_alloc_new w1 (.cells #[.int .i64 D.area, .int .i64 D.kind, .int .i64 D.owner, .int .i64 D.key, .int .i64 D.seq, .slice ua D.near.length uc, .int .i64 D.cost, .bool D.far] 55)
      have BX : Below w1.heap.size w1 (w1.alloc (.cells #[.int .i64 D.area, .int .i64 D.kind, .int .i64 D.owner, .int .i64 D.key, .int .i64 D.seq, .slice ua D.near.length uc, .int .i64 D.cost, .bool D.far] 55)) := (Below.refl _ _).alloc (Nat.le_refl _) _
      obtain ⟨w2, hw2⟩ : ∃ W, W = w1.alloc (.cells #[.int .i64 D.area, .int .i64 D.kind, .int .i64 D.owner, .int .i64 D.key, .int .i64 D.seq, .slice ua D.near.length uc, .int .i64 D.cost, .bool D.far] 55) := ⟨_, rfl⟩
      rw [← hw2] at hx BX
      have B12 : Below wo.heap.size wo w2 := b1.trans (BX.mono b1.size)
      have B2 : Below w.heap.size w w2 := hnx.trans (B12.mono hsz)
      have HU : Hid (NearsAt w2 (.slice ua D.near.length uc) D.near hi) := hide (RowAt.later hu BX (by have := b1.size; omega))
      have hs2 := lt_of_heap hx
      have hg2 := (B12.block _ (lt_of_heap hg)).trans hg
      obtain ⟨z, hz⟩ : ∃ z, z = w1.heap.size := ⟨_, rfl⟩
      have HZ := hide hz
      have hzg : w.heap.size < z := by have := lt_of_heap hg; have := b1.size; omega
      have HXX := hide hx
      have HG2 := hide hg2
      clear hu hx hg hg2 BX b1 J
      go_wp2
      rw [← hw2]
      rw [← hz]
      rw [← hz] at HXX hs2
      clear hw2 hz
      go_loopw [9] (fun i wr => ∃ (j : Nat) (o : Nat → Nat → Int), j ≤ D.near.length ∧ i = .int .i64 (j : Int) ∧ Hid (IsMid (fsts ps) area k j o) ∧ Hid (wr.heap[w.heap.size]? = some (.cells (rowA (linkV o) 49) 3)) ∧ wr.heap[z]? = some (.cells #[.int .i64 D.area, .int .i64 D.kind, .int .i64 D.owner, .int .i64 D.key, .int .i64 D.seq, .slice ua D.near.length uc, .int .i64 D.cost, .bool D.far] 55) ∧ Below w.heap.size w2 wr) (fun i _ => D.near.length - (intOf i).toNat)
      case atStart => exact ⟨0, o, by omega, rfl, HO, HG2, HXX.out, Below.refl _ _⟩
      case round =>
        obtain ⟨j, o, hj, rfl, HO, HG, hz, hnq⟩ := hrel
        have BQ : Below w.heap.size w wr := B2.trans hnq
        have d5 := cells_at hz 5
        simp at d5
        have HZZ := hide hz
        clear hz
        by_cases hjl : j < D.near.length
        · obtain ⟨n, hn⟩ : ∃ n, D.near[j]? = some n := ⟨D.near[j], List.getElem?_eq_getElem hjl⟩
          have hNq := (RowAt.later HU.out hnq hhi)
          obtain ⟨b, off, cp, hve, hbb, c0, c1⟩ := NearsAt.cells hNq j n hn
          cases hve
          have hji : (0 : Int) ≤ (j : Int) := by omega
          have hjj : (j : Int) < (D.near.length : Int) := by omega
          have HNJ := hide hn
          clear hn hNq
          by_cases hin : inB n.to 1 6 = true
          · obtain ⟨t, ht⟩ : ∃ t : Nat, n.to = (t : Int) := ⟨n.to.toNat, by have := inB_iff.1 hin; omega⟩
            have ht6 := inB_iff.1 hin
            rw [ht] at ht6 c0
            have hin' : inB (t : Int) 1 6 = true := by rw [← ht]; exact hin
            by_cases hbk : 0 < tellsD (fsts ps) area (t : Int) ((k : Int) + 1)
            · have hTL := hide (HT.out (t : Int) ((k : Int) + 1) wr BQ)
              go_wp2_with fail
              refine (in_any _ _ _ _).mono ?_
              rintro e w3 ⟨rfl, rfl⟩
              rw [hin']
              go_wp2_with fail
              refine hTL.out.mono ?_
              rintro e w3 ⟨rfl, b3⟩
              have hs3 := b3.size
              have HMS := hide (mid_put HO.out (by rw [← show (k : Int) + 1 = ((k + 1 : Nat) : Int) by omega, ← HD.out]; exact HNJ.out) (by rw [← show (k : Int) + 1 = ((k + 1 : Nat) : Int) by omega, ht]; exact ⟨hin', hbk⟩) ht)
              have hg3 := (b3.block _ (lt_of_heap HG.out)).trans HG.out
              have hz3 := (b3.block _ (lt_of_heap HZZ.out)).trans HZZ.out
              have B3 : Below w.heap.size w2 w3 := hnq.trans (b3.mono BQ.size)
              have hbq : b < wr.heap.size := by have := BQ.size; omega
              rw [← b3.cell (p := ⟨b, off + j * 2, none⟩) hbq] at c0
              rw [← b3.cell (p := ⟨b, off + j * 2 + 1, none⟩) hbq] at c1
              rw [← b3.cell (p := ⟨z, 5, none⟩) (lt_of_heap HZZ.out)] at d5
              have dg := linkV_at hg3 (a := k + 1) (b := t) (by omega) (by omega)
              have fg := frozen_at hg3
              have HP := hide (linkV_put hg3 (a := k + 1) (b := t) (by omega) n.c)
              have HZP := hide ((heap_setCell_other w3 ⟨w.heap.size, (k + 1) * 7 + t, none⟩ z (.int .i64 n.c) (by show z ≠ w.heap.size; omega)).trans hz3)
              have BP := hide (show Below w.heap.size w2 (w3.setCell ⟨w.heap.size, (k + 1) * 7 + t, none⟩ (.int .i64 n.c)) from B3.setCell (p := ⟨w.heap.size, (k + 1) * 7 + t, none⟩) (Nat.le_refl _) _)
              have hm1 : IntKind.i64.wrap (((k : Int) + 1) * 7) = (((k + 1) * 7 : Nat) : Int) := by rw [wrap_fit _ (by omega) (by omega)]; omega
              have hm2 : IntKind.i64.wrap ((((k + 1) * 7 : Nat) : Int) + (t : Int)) = (((k + 1) * 7 + t : Nat) : Int) := by rw [wrap_fit _ (by omega) (by omega)]; omega
              have hm3 : (0 : Int) ≤ (((k + 1) * 7 + t : Nat) : Int) := by omega
              have hm4 : (((k + 1) * 7 + t : Nat) : Int) < 49 := by omega
              clear hg3 hz3 hTL HO HG HZZ HU HXX HG2 HN HT
              go_wp2
              go_region
              go_wp2
              go_roundw
              case rel => exact ⟨j + 1, _, by omega, by go_num, HMS, HP, HZP.out, BP.out.trans ⟨rfl, rfl, rfl, Nat.le_refl _, fun _ _ => rfl⟩⟩
              case measure => simp [intOf]; omega
            · have hTL := hide (HT.out (t : Int) ((k : Int) + 1) wr BQ)
              go_wp2_with fail
              refine (in_any _ _ _ _).mono ?_
              rintro e w3 ⟨rfl, rfl⟩
              rw [hin']
              go_wp2_with fail
              refine hTL.out.mono ?_
              rintro e w3 ⟨rfl, b3⟩
              have hs3 := b3.size
              have HMS := hide (mid_skip HO.out (by rw [← show (k : Int) + 1 = ((k + 1 : Nat) : Int) by omega, ← HD.out]; exact HNJ.out) (fun hc => by have h2 := hc.2; rw [show ((k + 1 : Nat) : Int) = (k : Int) + 1 by omega, ht] at h2; omega))
              have HG3 := hide ((b3.block _ (lt_of_heap HG.out)).trans HG.out)
              have HZ3 := hide ((b3.block _ (lt_of_heap HZZ.out)).trans HZZ.out)
              have B3 : Below w.heap.size w2 w3 := hnq.trans (b3.mono BQ.size)
              go_wp2
              go_roundw
              case rel => exact ⟨j + 1, o, by omega, by go_num, HMS, HG3, HZ3.out, B3⟩
              case measure => simp [intOf]; omega
          · have hin' : inB n.to 1 6 = false := by simpa using hin
            have HMS := hide (mid_skip HO.out (by rw [← show (k : Int) + 1 = ((k + 1 : Nat) : Int) by omega, ← HD.out]; exact HNJ.out) (fun hc => hin hc.1))
            go_wp2_with fail
            refine (in_any _ _ _ _).mono ?_
            rintro e w3 ⟨rfl, rfl⟩
            rw [hin']
            go_wp2
            go_roundw
            case rel => exact ⟨j + 1, o, by omega, by go_num, HMS, HG, HZZ.out, hnq⟩
            case measure => simp [intOf]; omega
        · have hjn : j = D.near.length := by omega
          have HMN := hide (mid_next (k := k) (o := o) (by rw [← show (k : Int) + 1 = ((k + 1 : Nat) : Int) by omega, ← HD.out, ← hjn]; exact HO.out))
          clear hjn
          go_wp2
          go_roundw
          case rel => exact ⟨k + 1, o, by omega, rfl, HMN, HG.out, BQ⟩
          case measure => simp [intOf]; omega
    · have hk6 : ¬ (k : Int) + 1 ≤ 6 := by omega
      have KN := hide (show ∀ u v, 1 ≤ u → u ≤ 6 → 1 ≤ v → v ≤ 6 → o u v = linkF (fsts ps) area u v by
        intro u v h1 h2 h3 h4
        rw [HO.out u v h1 h2 h3 h4]
        unfold linksMid
        rw [if_pos (by omega)])
      go_wp2
      go_ret
      first
        | exact ⟨rfl, o, hg, KN.out, hnx⟩
        | exact ⟨o, rfl, hg, KN.out, hnx⟩
end Go.Proofs.Ytbknmgobmnjphaa
namespace Go.Proofs.Ytbknmgobmnjphaa
open Go.RowKit

end Go.Proofs.Ytbknmgobmnjphaa
namespace Go.Proofs.Ytbknmgobmnjphaa
open Go.RowKit

def ascAt {α : Type} (ord : α → α → Int) (ls : List α) : Nat → Bool
  | 0 => true
  | k + 1 => match ls[k]?, ls[k + 1]? with
    | some p, some l => decide (ord p l < 0)
    | _, _ => true

theorem ascAt_eq {α : Type} {ord : α → α → Int} {ls : List α} {j : Nat} {p l : α} (hp : ls[j]? = some p) (hl : ls[j + 1]? = some l) : ascAt ord ls (j + 1) = decide (ord p l < 0) := by
  simp only [ascAt, hp, hl]

def ascB {α : Type} (ord : α → α → Int) (ls : List α) : Bool := (List.range ls.length).all (ascAt ord ls)

theorem all_false {n k : Nat} {p : Nat → Bool} (hk : k < n) (h : p k = false) : (List.range n).all p = false := by
  cases e : (List.range n).all p with
  | false => rfl
  | true => rw [List.all_eq_true.1 e k (List.mem_range.2 hk)] at h; cases h

theorem all_true {n : Nat} {p : Nat → Bool} (h : ∀ j, j < n → p j = true) : (List.range n).all p = true := List.all_eq_true.2 fun j hj => h j (List.mem_range.1 hj)

theorem next_true {k : Nat} {p : Nat → Bool} (h : ∀ j, j < k → p j = true) (hk : p k = true) : ∀ j, j < k + 1 → p j = true := fun j hj => by
  by_cases e : j = k
  · subst e; exact hk
  · exact h j (by omega)

def okAt {α : Type} (ok : α → Bool) (ls : List α) (k : Nat) : Bool := match ls[k]? with
  | some l => ok l
  | none => true

theorem okAt_eq {α : Type} {ok : α → Bool} {ls : List α} {k : Nat} {l : α} (h : ls[k]? = some l) : okAt ok ls k = ok l := by simp only [okAt, h]

def allOk {α : Type} (ok : α → Bool) (ls : List α) : Bool := (List.range ls.length).all (okAt ok ls)

end Go.Proofs.Ytbknmgobmnjphaa
