/-
  Rows of a known number of cells, told by a function.
  spec.l06Links: its contract.
  The search of spec.WaysIn: its tables in the heap, and one round of it.
  Lists of ways, each with a row of its own.
  laws.szWayS, toWayS, eqWayS: their contracts.
  laws.markWayS, heldWayS: only the list's own memory turns; what was marked is held.
  How many nodes are done; what the end of a search tells, as a list of ways.
  Ways of several areas, Together: as values.
-/
import Derived.Test.YtdaigojpeofmpaaGreatQb1
import Derived.Deep.OwnRows
import Derived.Test.YtdaigojpeofmpaaGreatQb7
import Derived.Test.YtdaigojpeofmpaaGreatQb2
import Derived.Test.YtdaigojpeofmpaaGreatQb5
namespace Go.Proofs.YtdaigojpeofmpaaGreat
open Go.RowKit

def rowA (f : Nat → Value) (n : Nat) : Array Value := ((List.range n).map f).toArray

theorem rowA_at {f : Nat → Value} {n i : Nat} (h : i < n) : (rowA f n)[i]? = some (f i) := by
  simp [rowA, h]

theorem rowA_set (f : Nat → Value) (n i : Nat) (x : Value) : (rowA f n).setIfInBounds i x = rowA (fun j => if j = i then x else f j) n := by
  apply Array.ext
  · simp [rowA]
  · intro j h1 h2
    have hj : j < n := by simpa [rowA] using h2
    simp [rowA]
    by_cases e : i = j
    · subst e; simp
    · have e' : ¬ j = i := fun h => e h.symm
      simp [e, e']

theorem rowA_congr {f g : Nat → Value} {n : Nat} (h : ∀ i, i < n → f i = g i) : rowA f n = rowA g n := by
  unfold rowA
  congr 1
  apply List.map_congr_left
  intro i hi
  exact h i (List.mem_range.1 hi)

theorem rowA_cell {W : World} {b n i : Nat} {f : Nat → Value} {t : TypeId} (h : W.heap[b]? = some (.cells (rowA f n) t)) (hi : i < n) : W.cell? ⟨b, i, none⟩ = some (f i) := by
  have e := cells_at h i
  rw [rowA_at hi] at e
  exact e

theorem rowA_put {W : World} {b n i : Nat} {f : Nat → Value} {t : TypeId} (h : W.heap[b]? = some (.cells (rowA f n) t)) (x : Value) : (W.setCell ⟨b, i, none⟩ x).heap[b]? = some (.cells (rowA (fun j => if j = i then x else f j) n) t) := by
  have e := heap_setCell_same W b i _ _ x h
  rw [rowA_set] at e
  exact e
theorem rowA_made (z : Value) (n : Nat) : madeCells #[z] n = rowA (fun _ => z) n := by
  apply Array.ext
  · simp [rowA, madeCells]
  · intro j h1 h2
    simp [rowA, madeCells, Nat.mod_one]

theorem wpList_make_rowA {P : Program} (w : World) {ops : Array Oper} {rest : List Oper} {o : Oper} {a : Act} {Q : Exit → Act → World → Prop}
    (hg : o.guard = none) (l c : Operand) (t : TypeId) (hop : o.op = Op.makeSlice t l c)
    (e : TypeId) (z : Value) (bytes : Nat) (ht : P.underlying t = some (.slice e)) (hinfo : (P.info? e).map (fun i => (i.zero, i.size, i.bytes)) = some (some z, 1, bytes)) (hz1 : z.cells = #[z])
    (n : Nat) (hl : a.eval l = .int .i64 (n : Int)) (hc : a.eval c = .int .i64 (n : Int)) (hbytes : bytes * n ≤ 281474976710656) (h63 : n ≤ 9223372036854775807)
    (hK : wpList P ops Q rest (a.put o.dst (.slice (some ⟨w.heap.size, 0, none⟩) n n)) (w.alloc (.cells (rowA (fun _ => z) n) e))) :
    wpList P ops Q (o :: rest) a w := by
  obtain ⟨i, hi, hzz⟩ := Option.map_eq_some_iff.1 hinfo
  simp only [Prod.mk.injEq] at hzz
  obtain ⟨hz, hs, hb⟩ := hzz
  refine wpList_make_row w hg l c t hop e i z ht hi hz hs hz1 .i64 .i64 n hl hc (by rw [hb]; exact hbytes) h63 ?_
  rw [rowA_made]
  exact hK
end Go.Proofs.YtdaigojpeofmpaaGreat
namespace Go.Proofs.YtdaigojpeofmpaaGreat
open Go.RowKit

set_option linter.unusedSimpArgs false

/-- what the first k of a node's neighbours leave in the table, of v -/
def linkT (ns : List Nr) (bk : Int → Int) (v : Nat) : Nat → Int
  | 0 => 0
  | k + 1 => match ns[k]? with
    | some n => if n.to = (v : Int) ∧ inB n.to 1 6 = true ∧ 0 < bk n.to then n.c else linkT ns bk v k
    | none => linkT ns bk v k

/-- the table of links -/
def linkF (xs : List RecD) (area : Int) (u v : Nat) : Int := linkT (nodeD xs area u).near (fun b => tellsD xs area b u) v (nodeD xs area u).near.length

def linkV (o : Nat → Nat → Int) (i : Nat) : Value := .int .i64 (o (i / 7) (i % 7))

theorem linkV_at {W : World} {g : Nat} {o : Nat → Nat → Int} (h : W.heap[g]? = some (.cells (rowA (linkV o) 49) 3)) {a b : Nat} (ha : a ≤ 6) (hb : b ≤ 6) : W.cell? ⟨g, a * 7 + b, none⟩ = some (.int .i64 (o a b)) := by
  rw [rowA_cell h (by omega)]
  unfold linkV
  rw [show (a * 7 + b) / 7 = a by omega, show (a * 7 + b) % 7 = b by omega]

theorem linkV_put {W : World} {g : Nat} {o : Nat → Nat → Int} (h : W.heap[g]? = some (.cells (rowA (linkV o) 49) 3)) {a b : Nat} (hb : b ≤ 6) (x : Int) :
    (W.setCell ⟨g, a * 7 + b, none⟩ (.int .i64 x)).heap[g]? = some (.cells (rowA (linkV (fun u v => if u = a ∧ v = b then x else o u v)) 49) 3) := by
  rw [rowA_put h, rowA_congr (fun i _ => ?_)]
  unfold linkV
  show (if i = a * 7 + b then Value.int .i64 x else .int .i64 (o (i / 7) (i % 7))) = .int .i64 (if i / 7 = a ∧ i % 7 = b then x else o (i / 7) (i % 7))
  by_cases e : i = a * 7 + b
  · rw [if_pos e, if_pos (by omega)]
  · rw [if_neg e, if_neg (by omega)]

theorem linkT_step {ns : List Nr} {k : Nat} {n : Nr} (bk : Int → Int) (v : Nat) (h : ns[k]? = some n) : linkT ns bk v (k + 1) = if n.to = (v : Int) ∧ inB n.to 1 6 = true ∧ 0 < bk n.to then n.c else linkT ns bk v k := by
  show (match ns[k]? with
    | some n => if n.to = (v : Int) ∧ inB n.to 1 6 = true ∧ 0 < bk n.to then n.c else linkT ns bk v k
    | none => linkT ns bk v k) = _
  rw [h]

theorem inB_iff {x a b : Int} : inB x a b = true ↔ a ≤ x ∧ x ≤ b := by simp [inB]

/-- the table behind k nodes and j neighbours of the next one -/
def linksMid (xs : List RecD) (area : Int) (k j u v : Nat) : Int := if u ≤ k then linkF xs area u v else if u = k + 1 then linkT (nodeD xs area u).near (fun b => tellsD xs area b u) v j else 0

def IsMid (xs : List RecD) (area : Int) (k j : Nat) (o : Nat → Nat → Int) : Prop := ∀ u v, 1 ≤ u → u ≤ 6 → 1 ≤ v → v ≤ 6 → o u v = linksMid xs area k j u v

theorem mid_next {xs : List RecD} {area : Int} {k : Nat} {o : Nat → Nat → Int} (h : IsMid xs area k (nodeD xs area ((k + 1 : Nat) : Int)).near.length o) : IsMid xs area (k + 1) 0 o := by
  intro u v h1 h2 h3 h4
  rw [h u v h1 h2 h3 h4]
  unfold linksMid
  by_cases e : u ≤ k
  · rw [if_pos e, if_pos (by omega)]
  · rw [if_neg e]
    by_cases e2 : u = k + 1
    · rw [if_pos e2, if_pos (by omega)]
      subst e2
      rfl
    · rw [if_neg e2, if_neg (by omega)]
      split
      · rfl
      · rfl

theorem mid_skip {xs : List RecD} {area : Int} {k j : Nat} {o : Nat → Nat → Int} {n : Nr} (h : IsMid xs area k j o) (hn : (nodeD xs area ((k + 1 : Nat) : Int)).near[j]? = some n) (hno : ¬ (inB n.to 1 6 = true ∧ 0 < tellsD xs area n.to ((k + 1 : Nat) : Int))) : IsMid xs area k (j + 1) o := by
  intro u v h1 h2 h3 h4
  rw [h u v h1 h2 h3 h4]
  unfold linksMid
  by_cases e : u ≤ k
  · rw [if_pos e, if_pos e]
  · rw [if_neg e, if_neg e]
    by_cases e2 : u = k + 1
    · rw [if_pos e2, if_pos e2]
      subst e2
      rw [linkT_step _ v hn, if_neg (fun hc => hno hc.2)]
    · rw [if_neg e2, if_neg e2]

theorem mid_put {xs : List RecD} {area : Int} {k j t : Nat} {o : Nat → Nat → Int} {n : Nr} (h : IsMid xs area k j o) (hn : (nodeD xs area ((k + 1 : Nat) : Int)).near[j]? = some n) (hyes : inB n.to 1 6 = true ∧ 0 < tellsD xs area n.to ((k + 1 : Nat) : Int)) (ht : n.to = (t : Int)) : IsMid xs area k (j + 1) (fun u v => if u = k + 1 ∧ v = t then n.c else o u v) := by
  intro u v h1 h2 h3 h4
  have hh := h u v h1 h2 h3 h4
  unfold linksMid at hh ⊢
  by_cases e : u ≤ k
  · rw [if_pos e] at hh ⊢
    show (if u = k + 1 ∧ v = t then n.c else o u v) = _
    rw [if_neg (by omega)]
    exact hh
  · rw [if_neg e] at hh ⊢
    by_cases e2 : u = k + 1
    · rw [if_pos e2] at hh ⊢
      subst e2
      rw [linkT_step _ v hn]
      show (if k + 1 = k + 1 ∧ v = t then n.c else o (k + 1) v) = _
      by_cases e3 : v = t
      · rw [if_pos ⟨rfl, e3⟩, if_pos ⟨by omega, hyes⟩]
      · rw [if_neg (fun hc => e3 hc.2), if_neg (fun hc => by have := hc.1; omega)]
        exact hh
    · rw [if_neg e2] at hh ⊢
      show (if u = k + 1 ∧ v = t then n.c else o u v) = _
      rw [if_neg (fun hc => e2 hc.1)]
      exact hh

set_option maxRecDepth 100000 in
set_option maxHeartbeats 2000000 in
theorem slinks_any (v : Value) (ps : List RP) (hi : Nat) (area : Int) (w : World) (hv : RecsIn w hi v ps) (hhi : hi ≤ w.heap.size) (hn : tot ps ≤ 1048576) :
    Calls Tryz.prog 120 #[v, .int .i64 area] w fun e w' => ∃ o, e = .returned (.slice (some ⟨w.heap.size, 0, none⟩) 49 49) ∧ w'.heap[w.heap.size]? = some (.cells (rowA (linkV o) 49) 3) ∧ (∀ u v, 1 ≤ u → u ≤ 6 → 1 ≤ v → v ≤ 6 → o u v = linkF (fsts ps) area u v) ∧ Below w.heap.size w w' := by
  obtain ⟨a1, c1, rfl⟩ := owns_lenS hv.row
  have HN := hide (fun node W (hb : Below w.heap.size w W) => snode_any (.slice a1 ps.length c1) ps hi area node W (hv.below hb hhi) (Nat.le_trans hhi hb.size) hn)
  have HT := hide (fun a b W (hb : Below w.heap.size w W) => stells_any (.slice a1 ps.length c1) ps hi area a b W (hv.below hb hhi) (Nat.le_trans hhi hb.size) hn)
  clear hv
  have g0 := heap_alloc_new w (.cells (rowA (fun _ => .int .i64 0) 49) 3)
  have B0 : Below w.heap.size w (w.alloc (.cells (rowA (fun _ => .int .i64 0) 49) 3)) := (Below.refl _ _).alloc (Nat.le_refl _) _
  go_enter Tryz.func120, Tryz.ntmps120
  go_wp2_with (first | (at_make; refine wpList_make_rowA _ rfl _ _ 28 rfl 3 (.int .i64 0) 8 Tryz.underlying28 Tryz.info3 rfl 49 rfl rfl (by omega) (by omega) ?_))
  generalize w.alloc (.cells (rowA (fun _ => .int .i64 0) 49) 3) = w0 at *
  go_wp2
  go_loopw [6] (fun i wr => ∃ (k : Nat) (o : Nat → Nat → Int), k ≤ 6 ∧ i = .int .i64 ((k : Int) + 1) ∧ Hid (IsMid (fsts ps) area k 0 o) ∧ wr.heap[w.heap.size]? = some (.cells (rowA (linkV o) 49) 3) ∧ Below w.heap.size w wr) (fun i _ => 8 - (intOf i).toNat)
  case atStart => exact ⟨0, fun _ _ => 0, by omega, rfl, hide (fun u v h1 h2 h3 h4 => by unfold linksMid; rw [if_neg (by omega)]; split <;> rfl), g0, B0⟩
  case round =>
    rename World => wo
    obtain ⟨k, o, hk, rfl, HO, hg, hnx⟩ := hrel
    have hsz := hnx.size
    by_cases hlt : k < 6
    · have hk6 : (k : Int) + 1 ≤ 6 := by omega
      have hw1 : IntKind.i64.wrap ((k : Int) + 1 + 1) = ((k + 1 : Nat) : Int) + 1 := by rw [wrap_fit _ (by omega) (by omega)]; omega
      have J := hide (HN.out ((k : Int) + 1) wo hnx)
      obtain ⟨D, hD⟩ : ∃ D, D = nodeD (fsts ps) area ((k : Int) + 1) := ⟨_, rfl⟩
      obtain ⟨NB, hNB⟩ : ∃ b, b = nodeB (fsts ps) area ((k : Int) + 1) := ⟨_, rfl⟩
      rw [← hD, ← hNB] at J
      have HD := hide hD
      clear hD hNB
      unfold recC at J
      go_wp2_with fail
      refine J.out.mono ?_
      rintro e w1 ⟨u, rfl, hu, hul, b1⟩
      obtain ⟨ua, uc, rfl⟩ := NearsAt.shape hu
      have hx := heap_alloc_new w1 (.cells #[.int .i64 D.area, .int .i64 D.kind, .int .i64 D.owner, .int .i64 D.key, .int .i64 D.seq, .slice ua D.near.length uc, .int .i64 D.cost, .bool D.far] 39)
      have BX : Below w1.heap.size w1 (w1.alloc (.cells #[.int .i64 D.area, .int .i64 D.kind, .int .i64 D.owner, .int .i64 D.key, .int .i64 D.seq, .slice ua D.near.length uc, .int .i64 D.cost, .bool D.far] 39)) := (Below.refl _ _).alloc (Nat.le_refl _) _
      obtain ⟨w2, hw2⟩ : ∃ W, W = w1.alloc (.cells #[.int .i64 D.area, .int .i64 D.kind, .int .i64 D.owner, .int .i64 D.key, .int .i64 D.seq, .slice ua D.near.length uc, .int .i64 D.cost, .bool D.far] 39) := ⟨_, rfl⟩
      rw [← hw2] at hx BX
      have B12 : Below wo.heap.size wo w2 := b1.trans (BX.mono b1.size)
      have B2 : Below w.heap.size w w2 := hnx.trans (B12.mono hsz)
      have HU : Hid (NearsAt w2 (.slice ua D.near.length uc) D.near hi) := hide (RowAt.later hu BX (by have := b1.size; omega))
      have hs2 := lt_of_heap hx
      have hg2 := (B12.block _ (lt_of_heap hg)).trans hg
      obtain ⟨z, hz⟩ : ∃ z, z = w1.heap.size := ⟨_, rfl⟩
      have HZ := hide hz
      have hzg : w.heap.size < z := by have := lt_of_heap hg; have := b1.size; omega
      have HXX := hide hx
      have HG2 := hide hg2
      clear hu hx hg hg2 BX b1 J
      go_wp2
      rw [← hw2]
      rw [← hz]
      rw [← hz] at HXX hs2
      clear hw2 hz
      go_loopw [9] (fun i wr => ∃ (j : Nat) (o : Nat → Nat → Int), j ≤ D.near.length ∧ i = .int .i64 (j : Int) ∧ Hid (IsMid (fsts ps) area k j o) ∧ Hid (wr.heap[w.heap.size]? = some (.cells (rowA (linkV o) 49) 3)) ∧ wr.heap[z]? = some (.cells #[.int .i64 D.area, .int .i64 D.kind, .int .i64 D.owner, .int .i64 D.key, .int .i64 D.seq, .slice ua D.near.length uc, .int .i64 D.cost, .bool D.far] 39) ∧ Below w.heap.size w2 wr) (fun i _ => D.near.length - (intOf i).toNat)
      case atStart => exact ⟨0, o, by omega, rfl, HO, HG2, HXX.out, Below.refl _ _⟩
      case round =>
        obtain ⟨j, o, hj, rfl, HO, HG, hz, hnq⟩ := hrel
        have BQ : Below w.heap.size w wr := B2.trans hnq
        have d5 := cells_at hz 5
        simp at d5
        have HZZ := hide hz
        clear hz
        by_cases hjl : j < D.near.length
        · obtain ⟨n, hn⟩ : ∃ n, D.near[j]? = some n := ⟨D.near[j], List.getElem?_eq_getElem hjl⟩
          have hNq := (RowAt.later HU.out hnq hhi)
          obtain ⟨b, off, cp, hve, hbb, c0, c1⟩ := NearsAt.cells hNq j n hn
          cases hve
          have hji : (0 : Int) ≤ (j : Int) := by omega
          have hjj : (j : Int) < (D.near.length : Int) := by omega
          have HNJ := hide hn
          clear hn hNq
          by_cases hin : inB n.to 1 6 = true
          · obtain ⟨t, ht⟩ : ∃ t : Nat, n.to = (t : Int) := ⟨n.to.toNat, by have := inB_iff.1 hin; omega⟩
            have ht6 := inB_iff.1 hin
            rw [ht] at ht6 c0
            have hin' : inB (t : Int) 1 6 = true := by rw [← ht]; exact hin
            by_cases hbk : 0 < tellsD (fsts ps) area (t : Int) ((k : Int) + 1)
            · have hTL := hide (HT.out (t : Int) ((k : Int) + 1) wr BQ)
              go_wp2_with fail
              refine (in_any _ _ _ _).mono ?_
              rintro e w3 ⟨rfl, rfl⟩
              rw [hin']
              go_wp2_with fail
              refine hTL.out.mono ?_
              rintro e w3 ⟨rfl, b3⟩
              have hs3 := b3.size
              have HMS := hide (mid_put HO.out (by rw [← show (k : Int) + 1 = ((k + 1 : Nat) : Int) by omega, ← HD.out]; exact HNJ.out) (by rw [← show (k : Int) + 1 = ((k + 1 : Nat) : Int) by omega, ht]; exact ⟨hin', hbk⟩) ht)
              have hg3 := (b3.block _ (lt_of_heap HG.out)).trans HG.out
              have hz3 := (b3.block _ (lt_of_heap HZZ.out)).trans HZZ.out
              have B3 : Below w.heap.size w2 w3 := hnq.trans (b3.mono BQ.size)
              have hbq : b < wr.heap.size := by have := BQ.size; omega
              rw [← b3.cell (p := ⟨b, off + j * 2, none⟩) hbq] at c0
              rw [← b3.cell (p := ⟨b, off + j * 2 + 1, none⟩) hbq] at c1
              rw [← b3.cell (p := ⟨z, 5, none⟩) (lt_of_heap HZZ.out)] at d5
              have dg := linkV_at hg3 (a := k + 1) (b := t) (by omega) (by omega)
              have fg := frozen_at hg3
              have HP := hide (linkV_put hg3 (a := k + 1) (b := t) (by omega) n.c)
              have HZP := hide ((heap_setCell_other w3 ⟨w.heap.size, (k + 1) * 7 + t, none⟩ z (.int .i64 n.c) (by show z ≠ w.heap.size; omega)).trans hz3)
              have BP := hide (show Below w.heap.size w2 (w3.setCell ⟨w.heap.size, (k + 1) * 7 + t, none⟩ (.int .i64 n.c)) from B3.setCell (p := ⟨w.heap.size, (k + 1) * 7 + t, none⟩) (Nat.le_refl _) _)
              have hm1 : IntKind.i64.wrap (((k : Int) + 1) * 7) = (((k + 1) * 7 : Nat) : Int) := by rw [wrap_fit _ (by omega) (by omega)]; omega
              have hm2 : IntKind.i64.wrap ((((k + 1) * 7 : Nat) : Int) + (t : Int)) = (((k + 1) * 7 + t : Nat) : Int) := by rw [wrap_fit _ (by omega) (by omega)]; omega
              have hm3 : (0 : Int) ≤ (((k + 1) * 7 + t : Nat) : Int) := by omega
              have hm4 : (((k + 1) * 7 + t : Nat) : Int) < 49 := by omega
              clear hg3 hz3 hTL HO HG HZZ HU HXX HG2 HN HT
              go_wp2
              go_region
              go_wp2
              go_roundw
              case rel => exact ⟨j + 1, _, by omega, by go_num, HMS, HP, HZP.out, BP.out.trans ⟨rfl, rfl, rfl, Nat.le_refl _, fun _ _ => rfl⟩⟩
              case measure => simp [intOf]; omega
            · have hTL := hide (HT.out (t : Int) ((k : Int) + 1) wr BQ)
              go_wp2_with fail
              refine (in_any _ _ _ _).mono ?_
              rintro e w3 ⟨rfl, rfl⟩
              rw [hin']
              go_wp2_with fail
              refine hTL.out.mono ?_
              rintro e w3 ⟨rfl, b3⟩
              have hs3 := b3.size
              have HMS := hide (mid_skip HO.out (by rw [← show (k : Int) + 1 = ((k + 1 : Nat) : Int) by omega, ← HD.out]; exact HNJ.out) (fun hc => by have h2 := hc.2; rw [show ((k + 1 : Nat) : Int) = (k : Int) + 1 by omega, ht] at h2; omega))
              have HG3 := hide ((b3.block _ (lt_of_heap HG.out)).trans HG.out)
              have HZ3 := hide ((b3.block _ (lt_of_heap HZZ.out)).trans HZZ.out)
              have B3 : Below w.heap.size w2 w3 := hnq.trans (b3.mono BQ.size)
              go_wp2
              go_roundw
              case rel => exact ⟨j + 1, o, by omega, by go_num, HMS, HG3, HZ3.out, B3⟩
              case measure => simp [intOf]; omega
          · have hin' : inB n.to 1 6 = false := by simpa using hin
            have HMS := hide (mid_skip HO.out (by rw [← show (k : Int) + 1 = ((k + 1 : Nat) : Int) by omega, ← HD.out]; exact HNJ.out) (fun hc => hin hc.1))
            go_wp2_with fail
            refine (in_any _ _ _ _).mono ?_
            rintro e w3 ⟨rfl, rfl⟩
            rw [hin']
            go_wp2
            go_roundw
            case rel => exact ⟨j + 1, o, by omega, by go_num, HMS, HG, HZZ.out, hnq⟩
            case measure => simp [intOf]; omega
        · have hjn : j = D.near.length := by omega
          have HMN := hide (mid_next (k := k) (o := o) (by rw [← show (k : Int) + 1 = ((k + 1 : Nat) : Int) by omega, ← HD.out, ← hjn]; exact HO.out))
          clear hjn
          go_wp2
          go_roundw
          case rel => exact ⟨k + 1, o, by omega, rfl, HMN, HG.out, BQ⟩
          case measure => simp [intOf]; omega
    · have hk6 : ¬ (k : Int) + 1 ≤ 6 := by omega
      have KN := hide (show ∀ u v, 1 ≤ u → u ≤ 6 → 1 ≤ v → v ≤ 6 → o u v = linkF (fsts ps) area u v by
        intro u v h1 h2 h3 h4
        rw [HO.out u v h1 h2 h3 h4]
        unfold linksMid
        rw [if_pos (by omega)])
      go_wp2
      go_ret
      first
        | exact ⟨rfl, o, hg, KN.out, hnx⟩
        | exact ⟨o, rfl, hg, KN.out, hnx⟩
end Go.Proofs.YtdaigojpeofmpaaGreat
namespace Go.Proofs.YtdaigojpeofmpaaGreat
open Go.RowKit

set_option linter.unusedSimpArgs false

/-- the links of an area, between nodes alone -/
def linkN (xs : List RecD) (area : Int) (u v : Nat) : Int := if (1 ≤ u ∧ u ≤ 6) ∧ (1 ≤ v ∧ v ≤ 6) then linkF xs area u v else 0

theorem linkT_pos {ns : List Nr} {bk : Int → Int} {v : Nat} (h : ∀ n ∈ ns, 1 ≤ n.c ∧ n.c ≤ 1000) : ∀ k, 0 ≤ linkT ns bk v k ∧ linkT ns bk v k ≤ 1000
  | 0 => by simp [linkT]
  | k + 1 => by
    have ih := linkT_pos (bk := bk) (v := v) h k
    cases e : ns[k]? with
    | none =>
      have : linkT ns bk v (k + 1) = linkT ns bk v k := by
        show (match ns[k]? with
          | some n => if n.to = (v : Int) ∧ inB n.to 1 6 = true ∧ 0 < bk n.to then n.c else linkT ns bk v k
          | none => linkT ns bk v k) = _
        rw [e]
      rw [this]; exact ih
    | some n =>
      rw [linkT_step bk v e]
      have := h n (List.mem_of_getElem? e)
      split
      · omega
      · exact ih

theorem allOk_mem {α : Type} {ok : α → Bool} {ls : List α} (h : allOk ok ls = true) {a : α} (ha : a ∈ ls) : ok a = true := by
  obtain ⟨k, hk, e⟩ := List.mem_iff_getElem.1 ha
  unfold allOk at h
  rw [List.all_eq_true] at h
  have := h k (by simpa using hk)
  unfold okAt at this
  rw [List.getElem?_eq_getElem hk, e] at this
  exact this

theorem recOk_nears {x : RecD} (h : recOkB x = true) : x.near = [] ∨ (x.kind = 1 ∧ nearsB x.owner x.near = true) := by
  unfold recOkB at h
  simp only [Bool.and_eq_true] at h
  have h2 := h.2
  split at h2
  · rename_i e
    simp only [Bool.and_eq_true] at h2
    exact .inr ⟨e, h2.1.1.2⟩
  · split at h2
    · simp only [Bool.and_eq_true, beq_iff_eq] at h2
      exact .inl (List.eq_nil_of_length_eq_zero h2.1.1.2)
    · split at h2
      · simp only [Bool.and_eq_true, beq_iff_eq] at h2
        exact .inl (List.eq_nil_of_length_eq_zero h2.1.2)
      · cases h2

theorem recOk_near_cost {x : RecD} (h : recOkB x = true) : ∀ n ∈ x.near, 1 ≤ n.c ∧ n.c ≤ 1000 := by
  intro n hn
  rcases recOk_nears h with e | ⟨_, e⟩
  · rw [e] at hn; cases hn
  · unfold nearsB at e
    simp only [Bool.and_eq_true] at e
    have := allOk_mem e.1 hn
    unfold nearOkB at this
    simp only [Bool.and_eq_true] at this
    exact inB_iff.1 this.2

theorem findD_mem {xs : List RecD} {r : RecD} : findD xs r ∈ xs ∨ findD xs r = zeroRD := by
  rcases atZ_cases xs r with hz | ⟨j, y, hz, hy, _⟩
  · exact .inr (find_none hz).1
  · rw [(find_at hz hy).1]; exact .inl (List.mem_of_getElem? hy)

theorem node_near {xs : List RecD} {area node : Int} (h : storeB xs = true) : ∀ n ∈ (nodeD xs area node).near, 1 ≤ n.c ∧ n.c ≤ 1000 := by
  intro n hn
  unfold nodeD at hn
  rcases findD_mem (xs := xs) (r := nodeR area node) with hm | he
  · unfold storeB at h
    simp only [Bool.and_eq_true] at h
    have hr := allOk_mem h.1.2 hm
    exact recOk_near_cost hr n hn
  · rw [he] at hn; cases hn

theorem linkN_links {xs : List RecD} {area : Int} (h : storeB xs = true) : Links (linkN xs area) 1000 := by
  refine ⟨fun u v => ?_, fun u v => ?_, fun u v hl => ?_⟩
  · unfold linkN; split
    · exact (linkT_pos (node_near h) _).1
    · omega
  · unfold linkN; split
    · exact (linkT_pos (node_near h) _).2
    · omega
  · unfold linkN at hl
    split at hl
    · rename_i e; exact e
    · omega

def costV (c : Nat → Int) (i : Nat) : Value := .int .i64 (if i = 0 then 0 else c i)

def doneV (F : Nat → Bool) (i : Nat) : Value := .bool (F i)

def upd {α : Type} (f : Nat → α) (v : Nat) (x : α) (i : Nat) : α := if i = v then x else f i

theorem upd_same {α : Type} (f : Nat → α) (v : Nat) (x : α) : upd f v x v = x := by simp [upd]

theorem upd_other {α : Type} (f : Nat → α) {v i : Nat} (x : α) (h : i ≠ v) : upd f v x i = f i := by simp [upd, h]

/-- the tables: links at g, costs at b, hops at b + 1, what is done at b + 2; the rows of hops lie behind -/
structure SSt (W : World) (g b : Nat) (o : Nat → Nat → Int) (F : Nat → Bool) (c : Nat → Int) (h : Nat → List Int) (hv : Nat → Value) : Prop where
  gb : g < b
  ln : W.heap[g]? = some (.cells (rowA (linkV o) 49) 3)
  cs : W.heap[b]? = some (.cells (rowA (costV c) 7) 3)
  hs : W.heap[b + 1]? = some (.cells (rowA hv 7) 28)
  ds : W.heap[b + 1 + 1]? = some (.cells (rowA (doneV F) 7) 4)
  rows : ∀ v, W.ownsRow (b + 3) 3 1 (hv v) (h v).length (flat intE (h v))
  short : ∀ v, (h v).length ≤ 6

theorem SSt.size {W : World} {g b : Nat} {o : Nat → Nat → Int} {F : Nat → Bool} {c : Nat → Int} {h : Nat → List Int} {hv : Nat → Value} (s : SSt W g b o F c h hv) : b + 3 ≤ W.heap.size := by
  have := lt_of_heap s.ds; omega

theorem SSt.below {W W' : World} {g b : Nat} {o : Nat → Nat → Int} {F : Nat → Bool} {c : Nat → Int} {h : Nat → List Int} {hv : Nat → Value} (s : SSt W g b o F c h hv) (hb : Below W.heap.size W W') : SSt W' g b o F c h hv :=
  ⟨s.gb, (hb.block _ (lt_of_heap s.ln)).trans s.ln, (hb.block _ (lt_of_heap s.cs)).trans s.cs, (hb.block _ (lt_of_heap s.hs)).trans s.hs, (hb.block _ (lt_of_heap s.ds)).trans s.ds, fun v => owns_below (s.rows v) hb (Nat.le_refl _), s.short⟩

theorem SSt.cost {W : World} {g b : Nat} {o : Nat → Nat → Int} {F : Nat → Bool} {c : Nat → Int} {h : Nat → List Int} {hv : Nat → Value} (s : SSt W g b o F c h hv) {v : Nat} (h1 : 1 ≤ v) (h6 : v ≤ 6) : W.cell? ⟨b, v, none⟩ = some (.int .i64 (c v)) := by
  rw [rowA_cell s.cs (by omega)]; unfold costV; rw [if_neg (by omega)]

theorem SSt.done {W : World} {g b : Nat} {o : Nat → Nat → Int} {F : Nat → Bool} {c : Nat → Int} {h : Nat → List Int} {hv : Nat → Value} (s : SSt W g b o F c h hv) {v : Nat} (h6 : v ≤ 6) : W.cell? ⟨b + 1 + 1, v, none⟩ = some (.bool (F v)) := by
  rw [rowA_cell s.ds (by omega)]; rfl

theorem SSt.hop {W : World} {g b : Nat} {o : Nat → Nat → Int} {F : Nat → Bool} {c : Nat → Int} {h : Nat → List Int} {hv : Nat → Value} (s : SSt W g b o F c h hv) {v : Nat} (h6 : v ≤ 6) : W.cell? ⟨b + 1, v, none⟩ = some (hv v) := rowA_cell s.hs (by omega)

theorem SSt.link {W : World} {g b : Nat} {o : Nat → Nat → Int} {F : Nat → Bool} {c : Nat → Int} {h : Nat → List Int} {hv : Nat → Value} (s : SSt W g b o F c h hv) {u v : Nat} (h5 : u ≤ 6) (h6 : v ≤ 6) : W.cell? ⟨g, u * 7 + v, none⟩ = some (.int .i64 (o u v)) := linkV_at s.ln h5 h6

theorem SSt.setC {W : World} {g b : Nat} {o : Nat → Nat → Int} {F : Nat → Bool} {c : Nat → Int} {h : Nat → List Int} {hv : Nat → Value} (s : SSt W g b o F c h hv) {v : Nat} (h1 : 1 ≤ v) (x : Int) : SSt (W.setCell ⟨b, v, none⟩ (.int .i64 x)) g b o F (upd c v x) h hv := by
  have hg := s.gb
  refine ⟨s.gb, (heap_setCell_other W ⟨b, v, none⟩ g _ (by show g ≠ b; omega)).trans s.ln, ?_, (heap_setCell_other W ⟨b, v, none⟩ (b + 1) _ (by show b + 1 ≠ b; omega)).trans s.hs, (heap_setCell_other W ⟨b, v, none⟩ (b + 1 + 1) _ (by show b + 1 + 1 ≠ b; omega)).trans s.ds, fun u => owns_set (s.rows u) (by omega), s.short⟩
  rw [rowA_put s.cs, rowA_congr (fun i _ => ?_)]
  unfold costV upd
  by_cases e : i = v
  · subst e; rw [if_pos rfl, if_neg (by omega), if_pos rfl]
  · rw [if_neg e]; simp [e]

theorem SSt.setD {W : World} {g b : Nat} {o : Nat → Nat → Int} {F : Nat → Bool} {c : Nat → Int} {h : Nat → List Int} {hv : Nat → Value} (s : SSt W g b o F c h hv) (v : Nat) : SSt (W.setCell ⟨b + 1 + 1, v, none⟩ (.bool true)) g b o (fun x => F x || x == v) c h hv := by
  have hg := s.gb
  refine ⟨s.gb, (heap_setCell_other W ⟨b + 1 + 1, v, none⟩ g _ (by show g ≠ b + 1 + 1; omega)).trans s.ln, (heap_setCell_other W ⟨b + 1 + 1, v, none⟩ b _ (by show b ≠ b + 1 + 1; omega)).trans s.cs, (heap_setCell_other W ⟨b + 1 + 1, v, none⟩ (b + 1) _ (by show b + 1 ≠ b + 1 + 1; omega)).trans s.hs, ?_, fun u => owns_set (s.rows u) (by omega), s.short⟩
  rw [rowA_put s.ds, rowA_congr (fun i _ => ?_)]
  unfold doneV
  by_cases e : i = v
  · subst e; simp
  · simp [e]

theorem SSt.setH {W : World} {g b : Nat} {o : Nat → Nat → Int} {F : Nat → Bool} {c : Nat → Int} {h : Nat → List Int} {hv : Nat → Value} (s : SSt W g b o F c h hv) (v : Nat) {x : Value} {l : List Int} (hx : W.ownsRow (b + 3) 3 1 x l.length (flat intE l)) (hl : l.length ≤ 6) : SSt (W.setCell ⟨b + 1, v, none⟩ x) g b o F c (upd h v l) (upd hv v x) := by
  have hg := s.gb
  refine ⟨s.gb, (heap_setCell_other W ⟨b + 1, v, none⟩ g _ (by show g ≠ b + 1; omega)).trans s.ln, (heap_setCell_other W ⟨b + 1, v, none⟩ b _ (by show b ≠ b + 1; omega)).trans s.cs, ?_, (heap_setCell_other W ⟨b + 1, v, none⟩ (b + 1 + 1) _ (by show b + 1 + 1 ≠ b + 1; omega)).trans s.ds, fun u => ?_, fun u => ?_⟩
  · rw [rowA_put s.hs]; rfl
  · unfold upd
    by_cases e : u = v
    · rw [if_pos e, if_pos e]; exact owns_set hx (by omega)
    · rw [if_neg e, if_neg e]; exact owns_set (s.rows u) (by omega)
  · unfold upd
    by_cases e : u = v
    · rw [if_pos e]; exact hl
    · rw [if_neg e]; exact s.short u

theorem SSt.congr {W : World} {g b : Nat} {o : Nat → Nat → Int} {F : Nat → Bool} {c d : Nat → Int} {h : Nat → List Int} {hv : Nat → Value} (s : SSt W g b o F c h hv) (hc : ∀ v, 1 ≤ v → v ≤ 6 → d v = c v) : SSt W g b o F d h hv := by
  refine ⟨s.gb, s.ln, ?_, s.hs, s.ds, s.rows, s.short⟩
  rw [s.cs, rowA_congr (fun i hi => ?_)]
  unfold costV
  by_cases e : i = 0
  · rw [if_pos e, if_pos e]
  · rw [if_neg e, if_neg e, hc i (by omega) (by omega)]

theorem SSt.start {W : World} {g : Nat} {o : Nat → Nat → Int} (hg : W.heap[g]? = some (.cells (rowA (linkV o) 49) 3)) :
    SSt (((W.alloc (.cells (rowA (fun _ => .int .i64 0) 7) 3)).alloc (.cells (rowA (fun _ => .slice none 0 0) 7) 28)).alloc (.cells (rowA (fun _ => .bool false) 7) 4)) g W.heap.size o (fun _ => false) (fun _ => 0) (fun _ => []) (fun _ => .slice none 0 0) := by
  have hlt := lt_of_heap hg
  refine ⟨hlt, ?_, ?_, ?_, ?_, fun v => World.ownsRow_nil _ _ _ _, by simp⟩
  · rw [Below.heap_alloc _ _ _ (by simp; omega), Below.heap_alloc _ _ _ (by simp; omega), Below.heap_alloc _ _ _ hlt]; exact hg
  · rw [Below.heap_alloc _ _ _ (by simp; omega), Below.heap_alloc _ _ _ (by simp), heap_alloc_new, rowA_congr (fun i _ => ?_)]
    unfold costV; simp
  · rw [Below.heap_alloc _ _ _ (by simp)]
    have e := heap_alloc_new (W.alloc (.cells (rowA (fun _ => .int .i64 0) 7) 3)) (.cells (rowA (fun _ => .slice none 0 0) 7) 28)
    rw [show (W.alloc (.cells (rowA (fun _ => .int .i64 0) 7) 3)).heap.size = W.heap.size + 1 by simp] at e
    exact e
  · have e := heap_alloc_new ((W.alloc (.cells (rowA (fun _ => .int .i64 0) 7) 3)).alloc (.cells (rowA (fun _ => .slice none 0 0) 7) 28)) (.cells (rowA (fun _ => .bool false) 7) 4)
    rw [show ((W.alloc (.cells (rowA (fun _ => .int .i64 0) 7) 3)).alloc (.cells (rowA (fun _ => .slice none 0 0) 7) 28)).heap.size = W.heap.size + 1 + 1 by simp] at e
    exact e

theorem addT_mem (a b : List Int) (x : Int) : ∀ k : Nat, x ∈ addT a b k ↔ (1 ≤ x ∧ x ≤ (k : Int) ∧ (x ∈ a ∨ x ∈ b))
  | 0 => by simp [addT]; omega
  | k + 1 => by
    unfold addT
    rw [List.mem_append, addT_mem a b x k]
    by_cases e : (k : Int) + 1 ∈ a ∨ (k : Int) + 1 ∈ b
    · rw [if_pos e]
      simp only [List.mem_singleton]
      constructor
      · rintro (⟨h1, h2, h3⟩ | rfl)
        · exact ⟨h1, by omega, h3⟩
        · exact ⟨by omega, by omega, e⟩
      · rintro ⟨h1, h2, h3⟩
        by_cases e2 : x = (k : Int) + 1
        · exact .inr e2
        · exact .inl ⟨h1, by omega, h3⟩
    · rw [if_neg e]
      simp only [List.not_mem_nil, or_false]
      constructor
      · rintro ⟨h1, h2, h3⟩; exact ⟨h1, by omega, h3⟩
      · rintro ⟨h1, h2, h3⟩
        refine ⟨h1, ?_, h3⟩
        by_cases e2 : x = (k : Int) + 1
        · subst e2; exact absurd h3 e
        · omega

theorem addT_asc (a b : List Int) : ∀ k : Nat, (addT a b k).Pairwise (· < ·)
  | 0 => by simp [addT]
  | k + 1 => by
    unfold addT
    rw [List.pairwise_append]
    refine ⟨addT_asc a b k, by split <;> simp, ?_⟩
    intro x hx y hy
    have h1 := (addT_mem a b x k).1 hx
    split at hy
    · simp at hy; omega
    · cases hy

theorem addL_mem {a b : List Int} {x : Int} : x ∈ addL a b ↔ (1 ≤ x ∧ x ≤ 6 ∧ (x ∈ a ∨ x ∈ b)) := addT_mem a b x 6

theorem addL_asc (a b : List Int) : (addL a b).Pairwise (· < ·) := addT_asc a b 6

theorem addL_len6 (a b : List Int) : (addL a b).length ≤ 6 := addT_len a b 6

/-- the hops of the way over u -/
def wayL (src : Nat) (h : Nat → List Int) (u v : Nat) : List Int := if u = src then [(v : Int)] else h u

theorem wayL_mem {src : Nat} {h : Nat → List Int} {u v : Nat} {x : Int} : x ∈ wayL src h u v ↔ OverHop src h u v x := by
  unfold wayL OverHop
  by_cases e : u = src
  · rw [if_pos e]; simp [e]
  · rw [if_neg e]; simp [e]

def relaxL (L : Nat → Nat → Int) (src : Nat) (c : Nat → Int) (h : Nat → List Int) (u v : Nat) : List Int :=
  if 0 < L u v then (if c v < 0 ∨ c u + L u v < c v then addL [] (wayL src h u v) else if c u + L u v = c v then addL (h v) (wayL src h u v) else h v) else h v

theorem relaxL_spec {L : Nat → Nat → Int} {K : Int} {src : Nat} {F : Nat → Bool} {c : Nat → Int} {h : Nat → List Int} (I : Inv L src F c h) (hL : Links L K) {u : Nat} (hu : 0 ≤ c u) (v : Nat) : RelaxH L src c h u v (relaxL L src c h u v) := by
  have hrng : ∀ x, 0 < L u v → OverHop src h u v x → 1 ≤ x ∧ x ≤ 6 := by
    intro x hl ho
    rcases ho with ⟨_, rfl⟩ | ⟨_, h2⟩
    · have := (hL.node u v hl).2; unfold IsNode at this; omega
    · exact I.rng u x h2
  have hneg : c v < 0 → ∀ x, x ∉ h v := by
    intro hc x hx
    by_cases e : v = src
    · subst e; rw [I.start0] at hx; cases hx
    · have := ((I.hop v e x).1 hx).1; omega
  unfold relaxL
  by_cases h1 : 0 < L u v
  · rw [if_pos h1]
    by_cases h2 : c v < 0 ∨ c u + L u v < c v
    · rw [if_pos h2]
      have e : relaxC L c u v = c u + L u v := by unfold relaxC; rw [if_pos ⟨h1, h2⟩]
      refine ⟨addL_asc _ _, fun x => ?_⟩
      rw [addL_mem, e, wayL_mem]
      constructor
      · rintro ⟨_, _, h5 | h5⟩
        · cases h5
        · exact .inr ⟨h1, rfl, h5⟩
      · rintro (⟨h5, h6⟩ | ⟨_, _, h5⟩)
        · omega
        · have := hrng x h1 h5; exact ⟨this.1, this.2, .inr h5⟩
    · rw [if_neg h2]
      have e : relaxC L c u v = c v := by unfold relaxC; rw [if_neg (fun hc => h2 hc.2)]
      by_cases h3 : c u + L u v = c v
      · rw [if_pos h3]
        refine ⟨addL_asc _ _, fun x => ?_⟩
        rw [addL_mem, e, wayL_mem]
        constructor
        · rintro ⟨_, _, h5 | h5⟩
          · exact .inl ⟨h5, rfl⟩
          · exact .inr ⟨h1, h3.symm, h5⟩
        · rintro (⟨h5, _⟩ | ⟨_, _, h5⟩)
          · have := I.rng v x h5; exact ⟨this.1, this.2, .inl h5⟩
          · have := hrng x h1 h5; exact ⟨this.1, this.2, .inr h5⟩
      · rw [if_neg h3]
        refine ⟨I.asc v, fun x => ?_⟩
        rw [e]
        constructor
        · intro h5; exact .inl ⟨h5, rfl⟩
        · rintro (⟨h5, _⟩ | ⟨_, h6, _⟩)
          · exact h5
          · omega
  · rw [if_neg h1]
    have e : relaxC L c u v = c v := by unfold relaxC; rw [if_neg (fun hc => h1 hc.1)]
    refine ⟨I.asc v, fun x => ?_⟩
    rw [e]
    constructor
    · intro h5; exact .inl ⟨h5, rfl⟩
    · rintro (⟨h5, _⟩ | ⟨h6, _⟩)
      · exact h5
      · exact absurd h6 h1

/-- costs behind going on to the nodes below j -/
def mixC (L : Nat → Nat → Int) (c : Nat → Int) (u j v : Nat) : Int := if v < j then relaxC L c u v else c v

def mixH (L : Nat → Nat → Int) (src : Nat) (c : Nat → Int) (h : Nat → List Int) (u j v : Nat) : List Int := if v < j then relaxL L src c h u v else h v

theorem mixC_one {L : Nat → Nat → Int} {K : Int} (hL : Links L K) (c : Nat → Int) (u : Nat) : mixC L c u 1 = c := by
  funext v
  unfold mixC
  by_cases e : v < 1
  · rw [if_pos e]
    unfold relaxC
    rw [if_neg (fun hc => by have := (hL.node u v hc.1).2; unfold IsNode at this; omega)]
  · rw [if_neg e]

theorem mixH_one {L : Nat → Nat → Int} {K : Int} (hL : Links L K) (src : Nat) (c : Nat → Int) (h : Nat → List Int) (u : Nat) : mixH L src c h u 1 = h := by
  funext v
  unfold mixH
  by_cases e : v < 1
  · rw [if_pos e]
    unfold relaxL
    rw [if_neg (fun hc => by have := (hL.node u v hc).2; unfold IsNode at this; omega)]
  · rw [if_neg e]

theorem mixC_step (L : Nat → Nat → Int) (c : Nat → Int) (u j : Nat) : mixC L c u (j + 1) = upd (mixC L c u j) j (relaxC L c u j) := by
  funext v
  unfold upd
  show (if v < j + 1 then relaxC L c u v else c v) = if v = j then relaxC L c u j else if v < j then relaxC L c u v else c v
  by_cases e : v = j
  · rw [if_pos (by omega), if_pos e, e]
  · rw [if_neg e]
    by_cases e2 : v < j
    · rw [if_pos e2, if_pos (by omega)]
    · rw [if_neg e2, if_neg (by omega)]

theorem mixH_step (L : Nat → Nat → Int) (src : Nat) (c : Nat → Int) (h : Nat → List Int) (u j : Nat) : mixH L src c h u (j + 1) = upd (mixH L src c h u j) j (relaxL L src c h u j) := by
  funext v
  unfold upd
  show (if v < j + 1 then relaxL L src c h u v else h v) = if v = j then relaxL L src c h u j else if v < j then relaxL L src c h u v else h v
  by_cases e : v = j
  · rw [if_pos (by omega), if_pos e, e]
  · rw [if_neg e]
    by_cases e2 : v < j
    · rw [if_pos e2, if_pos (by omega)]
    · rw [if_neg e2, if_neg (by omega)]

theorem mixC_next {L : Nat → Nat → Int} {c : Nat → Int} {u j : Nat} : mixC L c u j j = c j := by
  unfold mixC; rw [if_neg (by omega)]

theorem mixH_next {L : Nat → Nat → Int} {src : Nat} {c : Nat → Int} {h : Nat → List Int} {u j : Nat} : mixH L src c h u j j = h j := by
  unfold mixH; rw [if_neg (by omega)]

theorem upd_id {α : Type} (f : Nat → α) (v : Nat) : upd f v (f v) = f := by
  funext i
  unfold upd
  by_cases e : i = v
  · rw [if_pos e, e]
  · rw [if_neg e]

theorem mixC_keep {L : Nat → Nat → Int} {c : Nat → Int} {u j : Nat} (e : relaxC L c u j = c j) : mixC L c u (j + 1) = mixC L c u j := by
  rw [mixC_step, e, ← mixC_next (L := L) (c := c) (u := u) (j := j), upd_id]

theorem mixH_keep {L : Nat → Nat → Int} {src : Nat} {c : Nat → Int} {h : Nat → List Int} {u j : Nat} (e : relaxL L src c h u j = h j) : mixH L src c h u (j + 1) = mixH L src c h u j := by
  rw [mixH_step, e, ← mixH_next (L := L) (src := src) (c := c) (h := h) (u := u) (j := j), upd_id]

theorem mixC_all {L : Nat → Nat → Int} {K : Int} (hL : Links L K) (c : Nat → Int) (u : Nat) : mixC L c u 7 = fun v => relaxC L c u v := by
  funext v
  unfold mixC
  by_cases e : v < 7
  · rw [if_pos e]
  · rw [if_neg e]
    unfold relaxC
    rw [if_neg (fun hc => by have := (hL.node u v hc.1).2; unfold IsNode at this; omega)]

theorem mixH_all {L : Nat → Nat → Int} {K : Int} (hL : Links L K) (src : Nat) (c : Nat → Int) (h : Nat → List Int) (u : Nat) : mixH L src c h u 7 = fun v => relaxL L src c h u v := by
  funext v
  unfold mixH
  by_cases e : v < 7
  · rw [if_pos e]
  · rw [if_neg e]
    unfold relaxL
    rw [if_neg (fun hc => by have := (hL.node u v hc).2; unfold IsNode at this; omega)]

theorem relaxL_none {L : Nat → Nat → Int} {src : Nat} {c : Nat → Int} {h : Nat → List Int} {u v : Nat} (e : ¬ 0 < L u v) : relaxL L src c h u v = h v ∧ relaxC L c u v = c v := by
  unfold relaxL relaxC
  rw [if_neg e, if_neg (fun hc => e hc.1)]
  exact ⟨rfl, rfl⟩

theorem relaxL_dear {L : Nat → Nat → Int} {src : Nat} {c : Nat → Int} {h : Nat → List Int} {u v : Nat} (h0 : 0 ≤ c v) (e : c v < c u + L u v) : relaxL L src c h u v = h v ∧ relaxC L c u v = c v := by
  unfold relaxL relaxC
  constructor
  · split
    · rw [if_neg (by omega), if_neg (by omega)]
    · rfl
  · rw [if_neg (by omega)]

theorem relaxL_less {L : Nat → Nat → Int} {src : Nat} {c : Nat → Int} {h : Nat → List Int} {u v : Nat} (hl : 0 < L u v) (e : c v < 0 ∨ c u + L u v < c v) : relaxL L src c h u v = addL [] (wayL src h u v) ∧ relaxC L c u v = c u + L u v := by
  unfold relaxL relaxC
  rw [if_pos hl, if_pos e, if_pos ⟨hl, e⟩]
  exact ⟨rfl, rfl⟩

theorem relaxL_like {L : Nat → Nat → Int} {src : Nat} {c : Nat → Int} {h : Nat → List Int} {u v : Nat} (hl : 0 < L u v) (h0 : 0 ≤ c v) (e : c u + L u v = c v) : relaxL L src c h u v = addL (h v) (wayL src h u v) ∧ relaxC L c u v = c v := by
  unfold relaxL relaxC
  rw [if_pos hl, if_neg (by omega), if_pos e, if_neg (by omega)]
  exact ⟨rfl, rfl⟩
end Go.Proofs.YtdaigojpeofmpaaGreat
namespace Go.Proofs.YtdaigojpeofmpaaGreat
open Go.RowKit

/-- a way, and the value of its row -/
abbrev WP := WayD × Value

def encW (p : WP) : List Value := [.int .i64 p.1.to, .int .i64 p.1.cost, p.2]

def zeroWD : WayD := ⟨0, 0, []⟩

theorem encW_len (p : WP) : (encW p).length = 3 := rfl

/-- a list to read: its cells, and each record's row, below B -/
def WaysAt (W : World) (v : Value) (ps : List WP) (B : Nat) : Prop := StructsAt encW 3 W v ps B ∧ ∀ p ∈ ps, HopsAt W p.2 p.1.hops B

theorem WaysAt.shape {W : World} {v : Value} {ps : List WP} {B : Nat} (h : WaysAt W v ps B) : ∃ a cap, v = .slice a ps.length cap := by
  obtain ⟨⟨a, cap, h, _⟩, _⟩ := h
  exact ⟨a, cap, h⟩

theorem WaysAt.later {W W' : World} {v : Value} {ps : List WP} {B C : Nat} (h : WaysAt W v ps B) (hb : Below C W W') (hBC : B ≤ C) : WaysAt W' v ps B :=
  ⟨RowAt.later h.1 hb hBC, fun p hp => RowAt.later (h.2 p hp) hb hBC⟩

theorem WaysAt.more {W : World} {v : Value} {ps : List WP} {B C : Nat} (h : WaysAt W v ps B) (hBC : B ≤ C) : WaysAt W v ps C :=
  ⟨RowAt.more h.1 hBC, fun p hp => RowAt.more (h.2 p hp) hBC⟩

theorem WaysAt.then {W W' : World} {v : Value} {ps : List WP} (h : WaysAt W v ps W.heap.size) (hb : Below W.heap.size W W') : WaysAt W' v ps W'.heap.size := (h.later hb (Nat.le_refl _)).more hb.size

/-- its row is the caller's own, in blocks of lo .. hi -/
def HopOwn (W : World) (lo hi : Nat) (p : WP) : Prop := W.ownsRow lo 3 1 p.2 p.1.hops.length (flat intE p.1.hops) ∧ ∀ k, p.2.ownBlock = some k → k < hi

def ApartW (p q : WP) : Prop := ∀ k, p.2.ownBlock = some k → q.2.ownBlock ≠ some k

/-- a list of the caller's own: its row and those of its records, no two in one block, all in blocks of lo .. hi -/
structure WaysOwn (W : World) (lo hi : Nat) (v : Value) (ps : List WP) : Prop where
  row : W.ownsRow lo 73 3 v ps.length (flat encW ps)
  top : ∀ k, v.ownBlock = some k → k < hi
  nears : ∀ p ∈ ps, HopOwn W lo hi p
  apart : ps.Pairwise ApartW

theorem HopOwn.keep {W W' : World} {lo hi : Nat} {p : WP} (h : HopOwn W lo hi p) (hk : ∀ k, lo ≤ k → k < hi → k < W.heap.size → W'.heap[k]? = W.heap[k]?) : HopOwn W' lo hi p :=
  ⟨owns_keepB h.1 (fun k e => hk k (h.1.lt k e).1 (h.2 k e) (h.1.lt k e).2), h.2⟩

theorem HopOwn.wide {W : World} {lo hi lo' hi' : Nat} {p : WP} (h : HopOwn W lo hi p) (hl : lo' ≤ lo) (hh : hi ≤ hi') : HopOwn W lo' hi' p :=
  ⟨owns_baseS h.1 hl, fun k e => Nat.lt_of_lt_of_le (h.2 k e) hh⟩

theorem HopOwn.at {W : World} {lo hi : Nat} {p : WP} (h : HopOwn W lo hi p) : HopsAt W p.2 p.1.hops hi := by
  have h1 := owns_rowAt h.1
  obtain ⟨a, cap, hv, h2⟩ := h1
  refine ⟨a, cap, hv, ?_⟩
  rcases h2 with h0 | ⟨b, off, ha, hb1, hx⟩
  · exact .inl h0
  · exact .inr ⟨b, off, ha, h.2 b (by rw [hv, ha]; rfl), hx⟩

theorem WaysOwn.keep {W W' : World} {lo hi : Nat} {v : Value} {ps : List WP} (h : WaysOwn W lo hi v ps) (hk : ∀ k, lo ≤ k → k < hi → k < W.heap.size → W'.heap[k]? = W.heap[k]?) : WaysOwn W' lo hi v ps where
  row := owns_keepB h.row (fun k e => hk k (h.row.lt k e).1 (h.top k e) (h.row.lt k e).2)
  top := h.top
  nears := fun p hp => (h.nears p hp).keep hk
  apart := h.apart

theorem WaysOwn.below {W W' : World} {lo hi B : Nat} {v : Value} {ps : List WP} (h : WaysOwn W lo hi v ps) (hb : Below B W W') (hB : hi ≤ B) : WaysOwn W' lo hi v ps := h.keep (fun k _ h2 _ => hb.block k (by omega))

theorem WaysOwn.wide {W : World} {lo hi lo' hi' : Nat} {v : Value} {ps : List WP} (h : WaysOwn W lo hi v ps) (hl : lo' ≤ lo) (hh : hi ≤ hi') : WaysOwn W lo' hi' v ps where
  row := owns_baseS h.row hl
  top := fun k e => Nat.lt_of_lt_of_le (h.top k e) hh
  nears := fun p hp => (h.nears p hp).wide hl hh
  apart := h.apart

theorem WaysOwn.at {W : World} {lo hi : Nat} {v : Value} {ps : List WP} (h : WaysOwn W lo hi v ps) : WaysAt W v ps hi := by
  refine ⟨?_, fun p hp => (h.nears p hp).at⟩
  have h1 := owns_rowAt h.row
  obtain ⟨a, cap, hv, h2⟩ := h1
  refine ⟨a, cap, hv, ?_⟩
  rcases h2 with h0 | ⟨b, off, ha, hb1, hx⟩
  · exact .inl h0
  · exact .inr ⟨b, off, ha, h.top b (by rw [hv, ha]; rfl), hx⟩

theorem WaysOwn.frame {W W' : World} {lo hi l2 h2 : Nat} {v : Value} {ps : List WP} (h : WaysOwn W lo hi v ps) (hb : Frame l2 h2 W W') (hB : hi ≤ l2 ∨ h2 ≤ lo) : WaysOwn W' lo hi v ps := h.keep (fun k h1 h2 h3 => hb.block k h3 (by omega))

/-- near rows of new records are behind all that was there -/
theorem apartW_add {W : World} {lo hi : Nat} {ps : List WP} {p : WP} (h : ps.Pairwise ApartW) (hn : ∀ q ∈ ps, HopOwn W lo hi q) (hp : ∀ k, p.2.ownBlock = some k → hi ≤ k) : (ps ++ [p]).Pairwise ApartW := by
  rw [List.pairwise_append]
  refine ⟨h, by simp, ?_⟩
  intro a ha b hb
  have : b = p := by simpa using hb
  subst this
  intro k hk he
  have h1 := (hn a ha).2 k hk
  have h2 := hp k he
  omega

/-- how many numbers a list has -/
def totW (ps : List WP) : Nat := (ps.map (fun p => 1 + p.1.hops.length)).sum

theorem totW_cons (p : WP) (ps : List WP) : totW (p :: ps) = 1 + p.1.hops.length + totW ps := by simp [totW]

theorem totW_len (ps : List WP) : ps.length ≤ totW ps := by
  induction ps with
  | nil => simp [totW]
  | cons p ps ih => rw [totW_cons, List.length_cons]; omega

theorem totW_mem {ps : List WP} {p : WP} (h : p ∈ ps) : p.1.hops.length ≤ totW ps := by
  induction ps with
  | nil => simp at h
  | cons q ps ih =>
    rw [totW_cons]
    rcases List.mem_cons.1 h with rfl | h1
    · omega
    · have := ih h1; omega

theorem WaysAt.cells {W : World} {v : Value} {ps : List WP} {B : Nat} (h : WaysAt W v ps B) (i : Nat) (p : WP) (hp : ps[i]? = some p) :
    ∃ b off cap, v = .slice (some ⟨b, off, none⟩) ps.length cap ∧ b < B ∧ W.cell? ⟨b, off + i * 3, none⟩ = some (.int .i64 p.1.to) ∧ W.cell? ⟨b, off + i * 3 + 1, none⟩ = some (.int .i64 p.1.cost) ∧ W.cell? ⟨b, off + i * 3 + 2, none⟩ = some p.2 ∧ HopsAt W p.2 p.1.hops B := by
  obtain ⟨b, off, cap, hv, hb, hc⟩ := StructsAt.cell h.1 encW_len i p hp
  exact ⟨b, off, cap, hv, hb, hc 0 _ rfl, hc 1 _ rfl, hc 2 _ rfl, h.2 p (List.mem_of_getElem? hp)⟩

end Go.Proofs.YtdaigojpeofmpaaGreat
namespace Go.Proofs.YtdaigojpeofmpaaGreat
open Go.RowKit

theorem Tryz.infoWay : (Tryz.prog.info? 73).map (fun i => (i.zero, i.size, i.bytes)) = some (some (.agg (wayC zeroWD (.slice none 0 0))), 3, 40) := by kernel_rfl

def fstsW (ps : List WP) : List WayD := ps.map (·.1)

theorem fstsW_at {ps : List WP} {i : Nat} {p : WP} (h : ps[i]? = some p) : (fstsW ps)[i]? = some p.1 := by simp [fstsW, h]

end Go.Proofs.YtdaigojpeofmpaaGreat
namespace Go.Proofs.YtdaigojpeofmpaaGreat
open Go.RowKit

theorem apartW_snd (ps : List WP) : ps.Pairwise ApartW ↔ (ps.map (·.2)).Pairwise (fun a b : Value => ∀ k, a.ownBlock = some k → b.ownBlock ≠ some k) := by
  rw [List.pairwise_map]
  exact Iff.rfl

theorem apartW_at {ps : List WP} (h : ps.Pairwise ApartW) {i k : Nat} {p q : WP} (hi : ps[i]? = some p) (hk : ps[k]? = some q) (hne : i ≠ k) : ApartW p q := by
  obtain ⟨h1, e1⟩ := List.getElem?_eq_some_iff.1 hi
  obtain ⟨h2, e2⟩ := List.getElem?_eq_some_iff.1 hk
  rw [List.pairwise_iff_getElem] at h
  rcases Nat.lt_or_ge i k with hl | hl
  · have := h i k h1 h2 hl
    rw [e1, e2] at this
    exact this
  · have := h k i h2 h1 (by omega)
    rw [e1, e2] at this
    exact fun j hj he => this j he hj

theorem setW_snd {ps : List WP} {k : Nat} {p q : WP} (hk : ps[k]? = some p) (h : q.2 = p.2) : (ps.set k q).map (·.2) = ps.map (·.2) := by
  apply List.ext_getElem?
  intro i
  by_cases e : i = k
  · subst e
    obtain ⟨h1, e1⟩ := List.getElem?_eq_some_iff.1 hk
    rw [List.getElem?_map, List.getElem?_set_self h1, List.getElem?_map, hk]
    simp [h]
  · simp [List.getElem?_set_ne (Ne.symm e)]

/-- one record turned within its list -/
theorem WaysOwn.turn {W W8 : World} {lo hi g n cap k : Nat} {xs : List WP} {p q : WP} (h : WaysOwn W lo hi (.slice (some ⟨g, 0, none⟩) n cap) xs) (hn : xs.length = n) (hk : xs[k]? = some p) (hq : q.2 = p.2)
    (row : W8.ownsRow lo 73 3 (.slice (some ⟨g, 0, none⟩) n cap) n (flat encW (xs.set k q))) (near : W8.ownsRow lo 3 1 q.2 q.1.hops.length (flat intE q.1.hops))
    (hkeep : ∀ j, j < W.heap.size → j ≠ g → some j ≠ p.2.ownBlock → W8.heap[j]? = W.heap[j]?) : WaysOwn W8 lo hi (.slice (some ⟨g, 0, none⟩) n cap) (xs.set k q) where
  row := by rw [List.length_set, hn]; exact row
  top := h.top
  apart := by rw [apartW_snd, setW_snd hk hq, ← apartW_snd]; exact h.apart
  nears := by
    intro r hr
    obtain ⟨i, hi, e⟩ := List.getElem_of_mem hr
    have hr2 : (xs.set k q)[i]? = some r := by rw [← e]; exact List.getElem?_eq_getElem hi
    by_cases ek : i = k
    · subst ek
      rw [List.getElem?_set_self (by simpa using hi)] at hr2
      cases hr2
      refine ⟨near, ?_⟩
      rw [hq]
      exact (h.nears p (List.mem_of_getElem? hk)).2
    · rw [List.getElem?_set_ne (Ne.symm ek)] at hr2
      have ho := h.nears r (List.mem_of_getElem? hr2)
      refine ⟨owns_keepB ho.1 (fun j hj => ?_), ho.2⟩
      refine hkeep j (ho.1.lt j hj).2 ?_ ?_
      · rintro rfl
        obtain ⟨cur, hh⟩ : ∃ cur, W.heap[j]? = some (.cells cur 73 (0, 0)) := by
          rcases h.row.2 with ⟨h0, _⟩ | ⟨g', cap', cur', hv', _, hh', _⟩
          · cases h0
          · cases hv'; exact ⟨cur', hh'⟩
        rcases ho.1.2 with ⟨h0, _⟩ | ⟨g', cap', cur', hv', _, hh', _⟩
        · rw [h0] at hj; simp [Value.ownBlock] at hj
        · rw [hv'] at hj
          simp [Value.ownBlock] at hj
          subst hj
          rw [hh] at hh'
          simp at hh'
      · intro he
        exact apartW_at h.apart hr2 hk ek j hj he.symm

end Go.Proofs.YtdaigojpeofmpaaGreat
namespace Go.Proofs.YtdaigojpeofmpaaGreat
open Go.RowKit

set_option linter.unusedSimpArgs false

def cardF (F : Nat → Bool) : Nat := (F 1).toNat + (F 2).toNat + (F 3).toNat + (F 4).toNat + (F 5).toNat + (F 6).toNat

theorem node_cases {u : Nat} (h : 1 ≤ u ∧ u ≤ 6) : u = 1 ∨ u = 2 ∨ u = 3 ∨ u = 4 ∨ u = 5 ∨ u = 6 := by omega

theorem card_add {F : Nat → Bool} {u : Nat} (hu : 1 ≤ u ∧ u ≤ 6) (hF : F u = false) : cardF (fun v => F v || v == u) = cardF F + 1 := by
  unfold cardF
  rcases node_cases hu with rfl | rfl | rfl | rfl | rfl | rfl <;> simp [hF] <;> omega

theorem card_le (F : Nat → Bool) : cardF F ≤ 6 := by
  unfold cardF
  have h1 := Bool.toNat_le (F 1)
  have h2 := Bool.toNat_le (F 2)
  have h3 := Bool.toNat_le (F 3)
  have h4 := Bool.toNat_le (F 4)
  have h5 := Bool.toNat_le (F 5)
  have h6 := Bool.toNat_le (F 6)
  omega

theorem card_full {F : Nat → Bool} (h : cardF F = 6) {u : Nat} (hu : 1 ≤ u ∧ u ≤ 6) : F u = true := by
  cases e : F u with
  | true => rfl
  | false =>
    have := card_add hu e
    have := card_le (fun v => F v || v == u)
    omega

theorem card_zero : cardF (fun _ => false) = 0 := rfl

/-- the ways to the first k nodes -/
def collT (c : Nat → Int) (h : Nat → List Int) : Nat → List WayD
  | 0 => []
  | k + 1 => collT c h k ++ (if 0 ≤ c (k + 1) then [⟨((k + 1 : Nat) : Int), c (k + 1), h (k + 1)⟩] else [])

theorem coll_congr {c d : Nat → Int} {h g : Nat → List Int} (e : ∀ v, (0 ≤ c v → d v = c v ∧ g v = h v) ∧ (0 ≤ d v → 0 ≤ c v)) : ∀ k, collT c h k = collT d g k
  | 0 => rfl
  | k + 1 => by
    unfold collT
    rw [coll_congr e k]
    congr 1
    by_cases h0 : 0 ≤ c (k + 1)
    · have := (e (k + 1)).1 h0
      rw [if_pos h0, if_pos (by omega), this.1, this.2]
    · rw [if_neg h0, if_neg (fun hc => h0 ((e (k + 1)).2 hc))]

theorem Fix.coll {L : Nat → Nat → Int} {src : Nat} {c d : Nat → Int} {h g : Nat → List Int} (A : Fix L src c h) (B : Fix L src d g) : collT c h 6 = collT d g 6 := by
  refine coll_congr (fun v => ⟨fun h0 => ⟨A.cost B v h0, A.hops B v h0⟩, fun h0 => ?_⟩) 6
  have := B.cost A v h0
  omega

/-- what WaysIn tells -/
def IsWays (xs : List RecD) (area src : Int) (ds : List WayD) : Prop :=
  if (storeB xs && inB src 1 6 && nodeB xs area src) = true then ∃ c h, Fix (linkN xs area) src.toNat c h ∧ ds = collT c h 6 else ds = []

theorem IsWays.unique {xs : List RecD} {area src : Int} {ds es : List WayD} (h1 : IsWays xs area src ds) (h2 : IsWays xs area src es) : ds = es := by
  unfold IsWays at h1 h2
  split at h1
  · rename_i e
    rw [if_pos e] at h2
    obtain ⟨c, h, A, rfl⟩ := h1
    obtain ⟨d, g, B, rfl⟩ := h2
    exact A.coll B
  · rename_i e
    rw [if_neg e] at h2
    rw [h1, h2]

theorem coll_step (c : Nat → Int) (h : Nat → List Int) {v : Nat} (hv : 1 ≤ v) : collT c h v = collT c h (v - 1) ++ (if 0 ≤ c v then [⟨(v : Int), c v, h v⟩] else []) := by
  obtain ⟨k, rfl⟩ : ∃ k, v = k + 1 := ⟨v - 1, by omega⟩
  rfl

theorem coll_len (c : Nat → Int) (h : Nat → List Int) : ∀ k, (collT c h k).length ≤ k
  | 0 => by simp [collT]
  | k + 1 => by
    unfold collT
    have := coll_len c h k
    rw [List.length_append]
    split <;> simp <;> omega

theorem mixC_at {L : Nat → Nat → Int} {c : Nat → Int} {u j : Nat} (hu : 0 ≤ c u) : mixC L c u j u = c u := by
  unfold mixC
  split
  · exact relaxC_same hu (Int.le_refl _)
  · rfl

theorem relaxL_done {L : Nat → Nat → Int} {src : Nat} {c : Nat → Int} {h : Nat → List Int} {u v : Nat} (h0 : 0 ≤ c v) (hv : c v ≤ c u) : relaxL L src c h u v = h v ∧ relaxC L c u v = c v := by
  by_cases hl : 0 < L u v
  · exact relaxL_dear h0 (by omega)
  · exact relaxL_none hl

theorem mixH_at {L : Nat → Nat → Int} {src : Nat} {c : Nat → Int} {h : Nat → List Int} {u j : Nat} (hu : 0 ≤ c u) : mixH L src c h u j u = h u := by
  unfold mixH
  split
  · exact (relaxL_done hu (Int.le_refl _)).1
  · rfl

theorem relaxC_bound {L : Nat → Nat → Int} {c : Nat → Int} {u v : Nat} {B : Int} (h : ∀ v, c v ≤ B) (hL : ∀ u v, L u v ≤ 1000) : relaxC L c u v ≤ B + 1000 := by
  unfold relaxC
  have := h v
  have := h u
  have := hL u v
  split <;> omega

/-- a is the cheapest of the nodes below v that are not done, 0 where there is none -/
def MinAt (F : Nat → Bool) (c : Nat → Int) (v a : Nat) : Prop :=
  (a = 0 ∧ ∀ x, 1 ≤ x → x < v → F x = false → c x < 0) ∨ (1 ≤ a ∧ a < v ∧ F a = false ∧ 0 ≤ c a ∧ ∀ x, 1 ≤ x → x < v → F x = false → 0 ≤ c x → c a ≤ c x)

theorem minAt_skip {F : Nat → Bool} {c : Nat → Int} {v a : Nat} (h : MinAt F c v a) (hs : F v = true ∨ c v < 0 ∨ (1 ≤ a ∧ c a ≤ c v)) : MinAt F c (v + 1) a := by
  rcases h with ⟨h1, h2⟩ | ⟨h1, h2, h3, h4, h5⟩
  · refine .inl ⟨h1, fun x hx1 hx2 hF => ?_⟩
    by_cases e : x = v
    · subst e
      rcases hs with h | h | h
      · rw [hF] at h; cases h
      · exact h
      · omega
    · exact h2 x hx1 (by omega) hF
  · refine .inr ⟨h1, by omega, h3, h4, fun x hx1 hx2 hF hc => ?_⟩
    by_cases e : x = v
    · subst e
      rcases hs with h | h | h
      · rw [hF] at h; cases h
      · omega
      · exact h.2
    · exact h5 x hx1 (by omega) hF hc

theorem minAt_take {F : Nat → Bool} {c : Nat → Int} {v a : Nat} (h : MinAt F c v a) (h1v : 1 ≤ v) (hF : F v = false) (hc : 0 ≤ c v) (hs : a = 0 ∨ c v < c a) : MinAt F c (v + 1) v := by
  refine .inr ⟨h1v, by omega, hF, hc, fun x hx1 hx2 hFx hcx => ?_⟩
  by_cases e : x = v
  · subst e; omega
  · rcases h with ⟨h1, h2⟩ | ⟨h1, h2, h3, h4, h5⟩
    · have := h2 x hx1 (by omega) hFx; omega
    · have := h5 x hx1 (by omega) hFx hcx; omega

/-- what holds of a search at a round's beginning -/
structure AtRound (L : Nat → Nat → Int) (src : Nat) (F : Nat → Bool) (c : Nat → Int) (h : Nat → List Int) (r : Nat) : Prop where
  inv : Inv L src F c h
  bnd : ∀ v, c v ≤ 1000 * (cardF F : Int)
  at' : cardF F + 1 = r ∨ (r = 7 ∧ ∀ v, 0 ≤ c v → F v = true)

theorem AtRound.init {L : Nat → Nat → Int} {src : Nat} (hs : IsNode src) : AtRound L src (fun _ => false) (fun v => if v = src then 0 else -1) (fun _ => []) 1 := by
  refine ⟨Inv.init hs, fun v => ?_, .inl rfl⟩
  rw [card_zero]
  show (if v = src then (0 : Int) else -1) ≤ _
  split <;> omega

theorem AtRound.fin {L : Nat → Nat → Int} {src : Nat} {F : Nat → Bool} {c : Nat → Int} {h : Nat → List Int} (a : AtRound L src F c h 7) : Fix L src c h ∧ ∀ v, F v = true ↔ 0 ≤ c v := by
  have hf : ∀ v, 0 ≤ c v → F v = true := by
    rcases a.at' with h1 | ⟨_, h1⟩
    · intro v hv
      exact card_full (by omega) (a.inv.cnode v hv)
    · exact h1
  exact ⟨⟨F, a.inv, hf⟩, fun v => ⟨fun hv => (a.inv.fnode v hv).2, hf v⟩⟩

theorem AtRound.none {L : Nat → Nat → Int} {src : Nat} {F : Nat → Bool} {c : Nat → Int} {h : Nat → List Int} {r : Nat} (a : AtRound L src F c h r) (hm : MinAt F c 7 0) : AtRound L src F c h 7 := by
  refine ⟨a.inv, a.bnd, .inr ⟨rfl, fun v hv => ?_⟩⟩
  have hn := a.inv.cnode v hv
  unfold IsNode at hn
  cases e : F v with
  | true => rfl
  | false =>
    rcases hm with ⟨_, h2⟩ | ⟨h1, _⟩
    · have := h2 v hn.1 (by omega) e; omega
    · omega

theorem AtRound.next {L : Nat → Nat → Int} {src : Nat} {F : Nat → Bool} {c : Nat → Int} {h : Nat → List Int} {r u : Nat} (a : AtRound L src F c h r) (hL : Links L 1000) (hr : r < 7) (hm : MinAt F c 7 u) (hu : 1 ≤ u) : AtRound L src (fun v => F v || v == u) (fun v => relaxC L c u v) (fun v => relaxL L src c h u v) (r + 1) := by
  rcases hm with ⟨h1, _⟩ | ⟨h1, h2, h3, h4, h5⟩
  · omega
  · have hcard : cardF (fun v => F v || v == u) = cardF F + 1 := card_add ⟨h1, by omega⟩ h3
    refine ⟨a.inv.step hL h3 h4 (fun v hv hc => ?_) (fun v => relaxL_spec a.inv hL h4 v), fun v => ?_, .inl ?_⟩
    · have hn := a.inv.cnode v hc
      unfold IsNode at hn
      exact h5 v hn.1 (by omega) hv hc
    · rw [hcard]
      have := relaxC_bound (L := L) (u := u) (v := v) a.bnd hL.le
      omega
    · rw [hcard]
      rcases a.at' with h6 | ⟨h6, _⟩
      · omega
      · omega

theorem ways_lit (W : World) (lo : Nat) (hb : lo ≤ W.heap.size) : WaysOwn (W.alloc (.cells #[] 73)) lo (W.alloc (.cells #[] 73)).heap.size (.slice (some ⟨W.heap.size, 0, none⟩) 0 0) [] where
  row := World.ownsRow_lit W #[] 0 hb (by unfold maxLen; omega) (by simp)
  top := by intro k hk; simp [Value.ownBlock] at hk; subst hk; simp
  nears := by simp
  apart := by simp
end Go.Proofs.YtdaigojpeofmpaaGreat
namespace Go.Proofs.YtdaigojpeofmpaaGreat
open Go.RowKit

open Classical in
/-- the ways that WaysIn tells -/
noncomputable def waysD (xs : List RecD) (area src : Int) : List WayD := if h : ∃ ds, IsWays xs area src ds then Classical.choose h else []

theorem IsWays.eq {xs : List RecD} {area src : Int} {ds : List WayD} (h : IsWays xs area src ds) : ds = waysD xs area src := by
  unfold waysD
  rw [dif_pos ⟨ds, h⟩]
  exact h.unique (Classical.choose_spec (⟨ds, h⟩ : ∃ ds, IsWays xs area src ds))

/-- one more way to a node beside what was found -/
def moreW (tog : WayD → WayD → WayD) (best : Option WayD) (w : Option WayD) : Option WayD := match w with
  | none => best
  | some w => match best with
    | none => some w
    | some b => some (tog b w)

def findW (ds : List WayD) (to : Int) : Option WayD := ds.find? (fun x => x.to == to)

end Go.Proofs.YtdaigojpeofmpaaGreat
