/-
  spec.l05Install: its contract.
  spec.l06Links: its contract.
  Right nets: lists that ascend; a net under way while it is drawn.
  spec.HopsTo, impl.HopsTo: their contracts.
  What the laws of routes want.
-/
import Derived.Test.YthmmpmbnpfhloaaDoorSh17
import Derived.Test.YthmmpmbnpfhloaaDoorSh16
import Derived.Test.YthmmpmbnpfhloaaDoorSh18
namespace Go.Proofs.YthmmpmbnpfhloaaDoor
open Go.RowKit

set_option linter.unusedSimpArgs false

end Go.Proofs.YthmmpmbnpfhloaaDoor
namespace Go.Proofs.YthmmpmbnpfhloaaDoor
open Go.RowKit

set_option linter.unusedSimpArgs false

/-- what the first k of a node's neighbours leave in the table, of v -/
def linkT (ns : List Nr) (bk : Int → Int) (v : Nat) : Nat → Int
  | 0 => 0
  | k + 1 => match ns[k]? with
    | some n => if n.to = (v : Int) ∧ inB n.to 1 6 = true ∧ 0 < bk n.to then n.c else linkT ns bk v k
    | none => linkT ns bk v k

/-- the table of links -/
def linkF (xs : List RecD) (area : Int) (u v : Nat) : Int := linkT (nodeD xs area u).near (fun b => tellsD xs area b u) v (nodeD xs area u).near.length

def linkV (o : Nat → Nat → Int) (i : Nat) : Value := .int .i64 (o (i / 7) (i % 7))

theorem linkV_at {W : World} {g : Nat} {o : Nat → Nat → Int} (h : W.heap[g]? = some (.cells (rowA (linkV o) 49) 3)) {a b : Nat} (ha : a ≤ 6) (hb : b ≤ 6) : W.cell? ⟨g, a * 7 + b, none⟩ = some (.int .i64 (o a b)) := by
  rw [rowA_cell h (by omega)]
  unfold linkV
  rw [show (a * 7 + b) / 7 = a by omega, show (a * 7 + b) % 7 = b by omega]

theorem linkV_put {W : World} {g : Nat} {o : Nat → Nat → Int} (h : W.heap[g]? = some (.cells (rowA (linkV o) 49) 3)) {a b : Nat} (hb : b ≤ 6) (x : Int) :
    (W.setCell ⟨g, a * 7 + b, none⟩ (.int .i64 x)).heap[g]? = some (.cells (rowA (linkV (fun u v => if u = a ∧ v = b then x else o u v)) 49) 3) := by
  rw [rowA_put h, rowA_congr (fun i _ => ?_)]
  unfold linkV
  show (if i = a * 7 + b then Value.int .i64 x else .int .i64 (o (i / 7) (i % 7))) = .int .i64 (if i / 7 = a ∧ i % 7 = b then x else o (i / 7) (i % 7))
  by_cases e : i = a * 7 + b
  · rw [if_pos e, if_pos (by omega)]
  · rw [if_neg e, if_neg (by omega)]

theorem linkT_step {ns : List Nr} {k : Nat} {n : Nr} (bk : Int → Int) (v : Nat) (h : ns[k]? = some n) : linkT ns bk v (k + 1) = if n.to = (v : Int) ∧ inB n.to 1 6 = true ∧ 0 < bk n.to then n.c else linkT ns bk v k := by
  show (match ns[k]? with
    | some n => if n.to = (v : Int) ∧ inB n.to 1 6 = true ∧ 0 < bk n.to then n.c else linkT ns bk v k
    | none => linkT ns bk v k) = _
  rw [h]

theorem inB_iff {x a b : Int} : inB x a b = true ↔ a ≤ x ∧ x ≤ b := by simp [inB]

/-- the table behind k nodes and j neighbours of the next one -/
def linksMid (xs : List RecD) (area : Int) (k j u v : Nat) : Int := if u ≤ k then linkF xs area u v else if u = k + 1 then linkT (nodeD xs area u).near (fun b => tellsD xs area b u) v j else 0

def IsMid (xs : List RecD) (area : Int) (k j : Nat) (o : Nat → Nat → Int) : Prop := ∀ u v, 1 ≤ u → u ≤ 6 → 1 ≤ v → v ≤ 6 → o u v = linksMid xs area k j u v

theorem mid_next {xs : List RecD} {area : Int} {k : Nat} {o : Nat → Nat → Int} (h : IsMid xs area k (nodeD xs area ((k + 1 : Nat) : Int)).near.length o) : IsMid xs area (k + 1) 0 o := by
  intro u v h1 h2 h3 h4
  rw [h u v h1 h2 h3 h4]
  unfold linksMid
  by_cases e : u ≤ k
  · rw [if_pos e, if_pos (by omega)]
  · rw [if_neg e]
    by_cases e2 : u = k + 1
    · rw [if_pos e2, if_pos (by omega)]
      subst e2
      rfl
    · rw [if_neg e2, if_neg (by omega)]
      split
      · rfl
      · rfl

theorem mid_skip {xs : List RecD} {area : Int} {k j : Nat} {o : Nat → Nat → Int} {n : Nr} (h : IsMid xs area k j o) (hn : (nodeD xs area ((k + 1 : Nat) : Int)).near[j]? = some n) (hno : ¬ (inB n.to 1 6 = true ∧ 0 < tellsD xs area n.to ((k + 1 : Nat) : Int))) : IsMid xs area k (j + 1) o := by
  intro u v h1 h2 h3 h4
  rw [h u v h1 h2 h3 h4]
  unfold linksMid
  by_cases e : u ≤ k
  · rw [if_pos e, if_pos e]
  · rw [if_neg e, if_neg e]
    by_cases e2 : u = k + 1
    · rw [if_pos e2, if_pos e2]
      subst e2
      rw [linkT_step _ v hn, if_neg (fun hc => hno hc.2)]
    · rw [if_neg e2, if_neg e2]

theorem mid_put {xs : List RecD} {area : Int} {k j t : Nat} {o : Nat → Nat → Int} {n : Nr} (h : IsMid xs area k j o) (hn : (nodeD xs area ((k + 1 : Nat) : Int)).near[j]? = some n) (hyes : inB n.to 1 6 = true ∧ 0 < tellsD xs area n.to ((k + 1 : Nat) : Int)) (ht : n.to = (t : Int)) : IsMid xs area k (j + 1) (fun u v => if u = k + 1 ∧ v = t then n.c else o u v) := by
  intro u v h1 h2 h3 h4
  have hh := h u v h1 h2 h3 h4
  unfold linksMid at hh ⊢
  by_cases e : u ≤ k
  · rw [if_pos e] at hh ⊢
    show (if u = k + 1 ∧ v = t then n.c else o u v) = _
    rw [if_neg (by omega)]
    exact hh
  · rw [if_neg e] at hh ⊢
    by_cases e2 : u = k + 1
    · rw [if_pos e2] at hh ⊢
      subst e2
      rw [linkT_step _ v hn]
      show (if k + 1 = k + 1 ∧ v = t then n.c else o (k + 1) v) = _
      by_cases e3 : v = t
      · rw [if_pos ⟨rfl, e3⟩, if_pos ⟨by omega, hyes⟩]
      · rw [if_neg (fun hc => e3 hc.2), if_neg (fun hc => by have := hc.1; omega)]
        exact hh
    · rw [if_neg e2] at hh ⊢
      show (if u = k + 1 ∧ v = t then n.c else o u v) = _
      rw [if_neg (fun hc => e2 hc.1)]
      exact hh

set_option maxRecDepth 100000 in
set_option maxHeartbeats 2000000 in
theorem slinks_any (v : Value) (ps : List RP) (hi : Nat) (area : Int) (w : World) (hv : RecsIn w hi v ps) (hhi : hi ≤ w.heap.size) (hn : tot ps ≤ 1048576) :
    Calls Tryd.prog 69 #[v, .int .i64 area] w fun e w' => ∃ o, e = .returned (.slice (some ⟨w.heap.size, 0, none⟩) 49 49) ∧ w'.heap[w.heap.size]? = some (.cells (rowA (linkV o) 49) 3) ∧ (∀ u v, 1 ≤ u → u ≤ 6 → 1 ≤ v → v ≤ 6 → o u v = linkF (fsts ps) area u v) ∧ Below w.heap.size w w' := by
  obtain ⟨a1, c1, rfl⟩ := owns_lenS hv.row
  have HN := hide (fun node W (hb : Below w.heap.size w W) => snode_any (.slice a1 ps.length c1) ps hi area node W (hv.below hb hhi) (Nat.le_trans hhi hb.size) hn)
  have HT := hide (fun a b W (hb : Below w.heap.size w W) => stells_any (.slice a1 ps.length c1) ps hi area a b W (hv.below hb hhi) (Nat.le_trans hhi hb.size) hn)
  clear hv
  have g0 := heap_alloc_new w (.cells (rowA (fun _ => .int .i64 0) 49) 3)
  have B0 : Below w.heap.size w (w.alloc (.cells (rowA (fun _ => .int .i64 0) 49) 3)) := (Below.refl _ _).alloc (Nat.le_refl _) _
  go_enter Tryd.func69, Tryd.ntmps69
  go_wp2_with (first | (at_make; refine wpList_make_rowA _ rfl _ _ 24 rfl 3 (.int .i64 0) 8 Tryd.underlying24 Tryd.info3 rfl 49 rfl rfl (by omega) (by omega) ?_))
  generalize w.alloc (.cells (rowA (fun _ => .int .i64 0) 49) 3) = w0 at *
  go_wp2
  go_loopw [6] (fun i wr => ∃ (k : Nat) (o : Nat → Nat → Int), k ≤ 6 ∧ i = .int .i64 ((k : Int) + 1) ∧ Hid (IsMid (fsts ps) area k 0 o) ∧ wr.heap[w.heap.size]? = some (.cells (rowA (linkV o) 49) 3) ∧ Below w.heap.size w wr) (fun i _ => 8 - (intOf i).toNat)
  case atStart => exact ⟨0, fun _ _ => 0, by omega, rfl, hide (fun u v h1 h2 h3 h4 => by unfold linksMid; rw [if_neg (by omega)]; split <;> rfl), g0, B0⟩
  case round =>
    rename World => wo
    obtain ⟨k, o, hk, rfl, HO, hg, hnx⟩ := hrel
    have hsz := hnx.size
    by_cases hlt : k < 6
    · have hk6 : (k : Int) + 1 ≤ 6 := by omega
      have hw1 : IntKind.i64.wrap ((k : Int) + 1 + 1) = ((k + 1 : Nat) : Int) + 1 := by rw [wrap_fit _ (by omega) (by omega)]; omega
      have J := hide (HN.out ((k : Int) + 1) wo hnx)
      obtain ⟨D, hD⟩ : ∃ D, D = nodeD (fsts ps) area ((k : Int) + 1) := ⟨_, rfl⟩
      obtain ⟨NB, hNB⟩ : ∃ b, b = nodeB (fsts ps) area ((k : Int) + 1) := ⟨_, rfl⟩
      rw [← hD, ← hNB] at J
      have HD := hide hD
      clear hD hNB
      unfold recC at J
      go_wp2_with fail
      refine J.out.mono ?_
      rintro e w1 ⟨u, rfl, hu, hul, b1⟩
      obtain ⟨ua, uc, rfl⟩ := NearsAt.shape hu
      have hx := heap_alloc_new w1 (.cells #[.int .i64 D.area, .int .i64 D.kind, .int .i64 D.owner, .int .i64 D.key, .int .i64 D.seq, .slice ua D.near.length uc, .int .i64 D.cost, .bool D.far] 81)
      have BX : Below w1.heap.size w1 (w1.alloc (.cells #[.int .i64 D.area, .int .i64 D.kind, .int .i64 D.owner, .int .i64 D.key, .int .i64 D.seq, .slice ua D.near.length uc, .int .i64 D.cost, .bool D.far] 81)) := (Below.refl _ _).alloc (Nat.le_refl _) _
      obtain ⟨w2, hw2⟩ : ∃ W, W = w1.alloc (.cells #[.int .i64 D.area, .int .i64 D.kind, .int .i64 D.owner, .int .i64 D.key, .int .i64 D.seq, .slice ua D.near.length uc, .int .i64 D.cost, .bool D.far] 81) := ⟨_, rfl⟩
      rw [← hw2] at hx BX
      have B12 : Below wo.heap.size wo w2 := b1.trans (BX.mono b1.size)
      have B2 : Below w.heap.size w w2 := hnx.trans (B12.mono hsz)
      have HU : Hid (NearsAt w2 (.slice ua D.near.length uc) D.near hi) := hide (RowAt.later hu BX (by have := b1.size; omega))
      have hs2 := lt_of_heap hx
      have hg2 := (B12.block _ (lt_of_heap hg)).trans hg
      obtain ⟨z, hz⟩ : ∃ z, z = w1.heap.size := ⟨_, rfl⟩
      have HZ := hide hz
      have hzg : w.heap.size < z := by have := lt_of_heap hg; have := b1.size; omega
      have HXX := hide hx
      have HG2 := hide hg2
      clear hu hx hg hg2 BX b1 J
      go_wp2
      rw [← hw2]
      rw [← hz]
      rw [← hz] at HXX hs2
      clear hw2 hz
      go_loopw [9] (fun i wr => ∃ (j : Nat) (o : Nat → Nat → Int), j ≤ D.near.length ∧ i = .int .i64 (j : Int) ∧ Hid (IsMid (fsts ps) area k j o) ∧ Hid (wr.heap[w.heap.size]? = some (.cells (rowA (linkV o) 49) 3)) ∧ wr.heap[z]? = some (.cells #[.int .i64 D.area, .int .i64 D.kind, .int .i64 D.owner, .int .i64 D.key, .int .i64 D.seq, .slice ua D.near.length uc, .int .i64 D.cost, .bool D.far] 81) ∧ Below w.heap.size w2 wr) (fun i _ => D.near.length - (intOf i).toNat)
      case atStart => exact ⟨0, o, by omega, rfl, HO, HG2, HXX.out, Below.refl _ _⟩
      case round =>
        obtain ⟨j, o, hj, rfl, HO, HG, hz, hnq⟩ := hrel
        have BQ : Below w.heap.size w wr := B2.trans hnq
        have d5 := cells_at hz 5
        simp at d5
        have HZZ := hide hz
        clear hz
        by_cases hjl : j < D.near.length
        · obtain ⟨n, hn⟩ : ∃ n, D.near[j]? = some n := ⟨D.near[j], List.getElem?_eq_getElem hjl⟩
          have hNq := (RowAt.later HU.out hnq hhi)
          obtain ⟨b, off, cp, hve, hbb, c0, c1⟩ := NearsAt.cells hNq j n hn
          cases hve
          have hji : (0 : Int) ≤ (j : Int) := by omega
          have hjj : (j : Int) < (D.near.length : Int) := by omega
          have HNJ := hide hn
          clear hn hNq
          by_cases hin : inB n.to 1 6 = true
          · obtain ⟨t, ht⟩ : ∃ t : Nat, n.to = (t : Int) := ⟨n.to.toNat, by have := inB_iff.1 hin; omega⟩
            have ht6 := inB_iff.1 hin
            rw [ht] at ht6 c0
            have hin' : inB (t : Int) 1 6 = true := by rw [← ht]; exact hin
            by_cases hbk : 0 < tellsD (fsts ps) area (t : Int) ((k : Int) + 1)
            · have hTL := hide (HT.out (t : Int) ((k : Int) + 1) wr BQ)
              go_wp2_with fail
              refine (in_any _ _ _ _).mono ?_
              rintro e w3 ⟨rfl, rfl⟩
              rw [hin']
              go_wp2_with fail
              refine hTL.out.mono ?_
              rintro e w3 ⟨rfl, b3⟩
              have hs3 := b3.size
              have HMS := hide (mid_put HO.out (by rw [← show (k : Int) + 1 = ((k + 1 : Nat) : Int) by omega, ← HD.out]; exact HNJ.out) (by rw [← show (k : Int) + 1 = ((k + 1 : Nat) : Int) by omega, ht]; exact ⟨hin', hbk⟩) ht)
              have hg3 := (b3.block _ (lt_of_heap HG.out)).trans HG.out
              have hz3 := (b3.block _ (lt_of_heap HZZ.out)).trans HZZ.out
              have B3 : Below w.heap.size w2 w3 := hnq.trans (b3.mono BQ.size)
              have hbq : b < wr.heap.size := by have := BQ.size; omega
              rw [← b3.cell (p := ⟨b, off + j * 2, none⟩) hbq] at c0
              rw [← b3.cell (p := ⟨b, off + j * 2 + 1, none⟩) hbq] at c1
              rw [← b3.cell (p := ⟨z, 5, none⟩) (lt_of_heap HZZ.out)] at d5
              have dg := linkV_at hg3 (a := k + 1) (b := t) (by omega) (by omega)
              have fg := frozen_at hg3
              have HP := hide (linkV_put hg3 (a := k + 1) (b := t) (by omega) n.c)
              have HZP := hide ((heap_setCell_other w3 ⟨w.heap.size, (k + 1) * 7 + t, none⟩ z (.int .i64 n.c) (by show z ≠ w.heap.size; omega)).trans hz3)
              have BP := hide (show Below w.heap.size w2 (w3.setCell ⟨w.heap.size, (k + 1) * 7 + t, none⟩ (.int .i64 n.c)) from B3.setCell (p := ⟨w.heap.size, (k + 1) * 7 + t, none⟩) (Nat.le_refl _) _)
              have hm1 : IntKind.i64.wrap (((k : Int) + 1) * 7) = (((k + 1) * 7 : Nat) : Int) := by rw [wrap_fit _ (by omega) (by omega)]; omega
              have hm2 : IntKind.i64.wrap ((((k + 1) * 7 : Nat) : Int) + (t : Int)) = (((k + 1) * 7 + t : Nat) : Int) := by rw [wrap_fit _ (by omega) (by omega)]; omega
              have hm3 : (0 : Int) ≤ (((k + 1) * 7 + t : Nat) : Int) := by omega
              have hm4 : (((k + 1) * 7 + t : Nat) : Int) < 49 := by omega
              clear hg3 hz3 hTL HO HG HZZ HU HXX HG2 HN HT
              go_wp2
              go_region
              go_wp2
              go_roundw
              case rel => exact ⟨j + 1, _, by omega, by go_num, HMS, HP, HZP.out, BP.out.trans ⟨rfl, rfl, rfl, Nat.le_refl _, fun _ _ => rfl⟩⟩
              case measure => simp [intOf]; omega
            · have hTL := hide (HT.out (t : Int) ((k : Int) + 1) wr BQ)
              go_wp2_with fail
              refine (in_any _ _ _ _).mono ?_
              rintro e w3 ⟨rfl, rfl⟩
              rw [hin']
              go_wp2_with fail
              refine hTL.out.mono ?_
              rintro e w3 ⟨rfl, b3⟩
              have hs3 := b3.size
              have HMS := hide (mid_skip HO.out (by rw [← show (k : Int) + 1 = ((k + 1 : Nat) : Int) by omega, ← HD.out]; exact HNJ.out) (fun hc => by have h2 := hc.2; rw [show ((k + 1 : Nat) : Int) = (k : Int) + 1 by omega, ht] at h2; omega))
              have HG3 := hide ((b3.block _ (lt_of_heap HG.out)).trans HG.out)
              have HZ3 := hide ((b3.block _ (lt_of_heap HZZ.out)).trans HZZ.out)
              have B3 : Below w.heap.size w2 w3 := hnq.trans (b3.mono BQ.size)
              go_wp2
              go_roundw
              case rel => exact ⟨j + 1, o, by omega, by go_num, HMS, HG3, HZ3.out, B3⟩
              case measure => simp [intOf]; omega
          · have hin' : inB n.to 1 6 = false := by simpa using hin
            have HMS := hide (mid_skip HO.out (by rw [← show (k : Int) + 1 = ((k + 1 : Nat) : Int) by omega, ← HD.out]; exact HNJ.out) (fun hc => hin hc.1))
            go_wp2_with fail
            refine (in_any _ _ _ _).mono ?_
            rintro e w3 ⟨rfl, rfl⟩
            rw [hin']
            go_wp2
            go_roundw
            case rel => exact ⟨j + 1, o, by omega, by go_num, HMS, HG, HZZ.out, hnq⟩
            case measure => simp [intOf]; omega
        · have hjn : j = D.near.length := by omega
          have HMN := hide (mid_next (k := k) (o := o) (by rw [← show (k : Int) + 1 = ((k + 1 : Nat) : Int) by omega, ← HD.out, ← hjn]; exact HO.out))
          clear hjn
          go_wp2
          go_roundw
          case rel => exact ⟨k + 1, o, by omega, rfl, HMN, HG.out, BQ⟩
          case measure => simp [intOf]; omega
    · have hk6 : ¬ (k : Int) + 1 ≤ 6 := by omega
      have KN := hide (show ∀ u v, 1 ≤ u → u ≤ 6 → 1 ≤ v → v ≤ 6 → o u v = linkF (fsts ps) area u v by
        intro u v h1 h2 h3 h4
        rw [HO.out u v h1 h2 h3 h4]
        unfold linksMid
        rw [if_pos (by omega)])
      go_wp2
      go_ret
      first
        | exact ⟨rfl, o, hg, KN.out, hnx⟩
        | exact ⟨o, rfl, hg, KN.out, hnx⟩
end Go.Proofs.YthmmpmbnpfhloaaDoor
namespace Go.Proofs.YthmmpmbnpfhloaaDoor
open Go.RowKit

theorem aheadB_iff (a b : Lk) : aheadB a b = true ↔ (a.a < b.a ∨ (a.a = b.a ∧ (a.b < b.b ∨ (a.b = b.b ∧ a.r < b.r)))) := by
  simp [aheadB]

theorem thingB_iff (a b : Th) : thingB a b = true ↔ (a.k < b.k ∨ (a.k = b.k ∧ a.o < b.o)) := by
  simp [thingB]

def RightL (n : Int) (ls : List Lk) : Prop := (∀ x ∈ ls, linkOkB n x = true) ∧ ls.Pairwise (fun x y => aheadB x y = true)

def RightT (n : Int) (ts : List Th) : Prop := (∀ x ∈ ts, thOkB n x = true) ∧ ts.Pairwise (fun x y => thingB x y = true)

theorem filter_two {α : Type} {p q : α → Bool} (h : ∀ x, p x = true → q x = true → False) : ∀ ls : List α, (ls.filter p).length + (ls.filter q).length ≤ ls.length
  | [] => by simp
  | x :: xs => by
    have ih := filter_two h xs
    have hx := h x
    cases hp : p x <;> cases hq : q x <;> simp_all <;> omega

theorem putL_len (ls : List Lk) (l : Lk) : (putLk ls l).length ≤ ls.length + 1 := by
  have h := filter_two (p := fun x => aheadB x l) (q := fun x => aheadB l x) (fun x h1 h2 => by
    simp only [aheadB_iff] at h1 h2; omega) ls
  unfold putLk
  simp only [List.length_append, List.length_cons, List.length_nil]
  omega

theorem putT_len (ls : List Th) (l : Th) : (putT ls l).length ≤ ls.length + 1 := by
  have h := filter_two (p := fun x => thingB x l) (q := fun x => thingB l x) (fun x h1 h2 => by
    simp only [thingB_iff] at h1 h2; omega) ls
  unfold putT
  simp only [List.length_append, List.length_cons, List.length_nil]
  omega

theorem right_putL {n : Int} {ls : List Lk} {l : Lk} (h : RightL n ls) (hl : linkOkB n l = true) : RightL n (putLk ls l) := by
  refine ⟨?_, ?_⟩
  · intro x hx
    simp only [putLk, List.mem_append, List.mem_filter, List.mem_cons, List.not_mem_nil, or_false] at hx
    rcases hx with (⟨h1, _⟩ | rfl) | ⟨h1, _⟩
    · exact h.1 x h1
    · exact hl
    · exact h.1 x h1
  · unfold putLk
    refine List.pairwise_append.2 ⟨List.pairwise_append.2 ⟨h.2.filter _, List.pairwise_singleton _ _, ?_⟩, h.2.filter _, ?_⟩
    · intro x hx y hy
      simp only [List.mem_filter, List.mem_cons, List.not_mem_nil, or_false] at hx hy
      rw [hy]; exact hx.2
    · intro x hx y hy
      simp only [List.mem_append, List.mem_filter, List.mem_cons, List.not_mem_nil, or_false] at hx hy
      rcases hx with ⟨_, h1⟩ | rfl
      · have h2 := hy.2
        simp only [aheadB_iff] at h1 h2 ⊢
        omega
      · exact hy.2

theorem right_putT {n : Int} {ls : List Th} {l : Th} (h : RightT n ls) (hl : thOkB n l = true) : RightT n (putT ls l) := by
  refine ⟨?_, ?_⟩
  · intro x hx
    simp only [putT, List.mem_append, List.mem_filter, List.mem_cons, List.not_mem_nil, or_false] at hx
    rcases hx with (⟨h1, _⟩ | rfl) | ⟨h1, _⟩
    · exact h.1 x h1
    · exact hl
    · exact h.1 x h1
  · unfold putT
    refine List.pairwise_append.2 ⟨List.pairwise_append.2 ⟨h.2.filter _, List.pairwise_singleton _ _, ?_⟩, h.2.filter _, ?_⟩
    · intro x hx y hy
      simp only [List.mem_filter, List.mem_cons, List.not_mem_nil, or_false] at hx hy
      rw [hy]; exact hx.2
    · intro x hx y hy
      simp only [List.mem_append, List.mem_filter, List.mem_cons, List.not_mem_nil, or_false] at hx hy
      rcases hx with ⟨_, h1⟩ | rfl
      · have h2 := hy.2
        simp only [thingB_iff] at h1 h2 ⊢
        omega
      · exact hy.2

theorem allOk_of {α : Type} {ok : α → Bool} {ls : List α} (h : ∀ x ∈ ls, ok x = true) : allOk ok ls = true := all_true fun j hj => by
  rw [okAt_eq (List.getElem?_eq_getElem hj)]
  exact h _ (List.getElem_mem hj)

theorem ascB_of {α : Type} {ord : α → α → Int} {ls : List α} (h : ls.Pairwise (fun x y => ord x y < 0)) : ascB ord ls = true := all_true fun j hj => by
  match j, hj with
  | 0, _ => rfl
  | j + 1, hj =>
    rw [ascAt_eq (List.getElem?_eq_getElem (by omega)) (List.getElem?_eq_getElem hj)]
    exact decide_eq_true (List.pairwise_iff_getElem.1 h j (j + 1) (by omega) hj (by omega))

theorem linksB_of {n : Int} {ls : List Lk} (h : RightL n ls) (hl : ls.length ≤ 12) : linksB n ls = true := by
  unfold linksB
  rw [decide_eq_true hl, allOk_of h.1, ascB_of (h.2.imp fun hxy => by rw [aheadB_eq] at hxy; exact of_decide_eq_true hxy)]
  rfl

theorem thingsB_of {n : Int} {ls : List Th} (h : RightT n ls) (hl : ls.length ≤ 4) : thingsB n ls = true := by
  unfold thingsB
  rw [decide_eq_true hl, allOk_of h.1, ascB_of (h.2.imp fun hxy => by rw [thingB_eq] at hxy; exact of_decide_eq_true hxy)]
  rfl

theorem inB_of {x a b : Int} (h1 : a ≤ x) (h2 : x ≤ b) : inB x a b = true := by simp [inB, h1, h2]

theorem linkOk_of {n a b c r : Int} (hn : 1 ≤ n ∧ n ≤ 6) (ha : 1 ≤ a) (hab : a < b) (hb : b ≤ n) (hc : 1 ≤ c ∧ c ≤ 1000) (hr : 0 ≤ r ∧ r ≤ 2) : linkOkB n ⟨a, b, c, r⟩ = true := by
  unfold linkOkB
  simp only []
  rw [inB_of hn.1 hn.2, inB_of ha (by omega), inB_of (by omega) hb, inB_of hc.1 hc.2, inB_of hr.1 hr.2, decide_eq_true hab]
  rfl

theorem thOk_of {n o k c : Int} {f : Bool} (ho : 1 ≤ o ∧ o ≤ n) (hk : 1 ≤ k ∧ k ≤ 9) (hc : 1 ≤ c ∧ c ≤ 1000) : thOkB n ⟨o, k, c, f⟩ = true := by
  unfold thOkB
  simp only []
  rw [inB_of ho.1 ho.2, inB_of hk.1 hk.2, inB_of hc.1 hc.2]
  rfl

/-- a net under way: its box in block z, the result's cell in block B0, the cursor in block p -/
structure NetSt (w wr : World) (p B0 z : Nat) (a : Option Addr) (len cap : Nat) (N : Int) (v1 v2 : Value) (ls : List Lk) (ts : List Th) : Prop where
  cur : Cur wr p a len cap
  bel : Below p w wr
  new : w.heap.size ≤ B0
  gro : w.grownBy wr (some p)
  box : wr.heap[z]? = some (.cells #[.int .i64 N, v1, v2] 45)
  res : wr.heap[B0]? = some (.cells #[.int .i64 0, .slice none 0 0, .slice none 0 0] 45)
  o1 : wr.ownsRow (z + 1) 62 4 v1 ls.length (flat lkE ls)
  o2 : wr.ownsRow (z + 1) 66 4 v2 ts.length (flat thE ts)

theorem kept_otherN {w w' : World} {base size p : Nat} {e : TypeId} {v : Value} {n : Nat} {xs : List Value} (h : w.ownsRow base e size v n xs) (hg : w.grownBy w' (some p)) (hp : p < base) : w'.ownsRow base e size v n xs := h.kept hg (by
  rcases h.2 with ⟨e, _⟩ | ⟨g, cp, cur, e, hb, _⟩
  · exact .inl (by rw [e]; rfl)
  · refine .inr ?_
    rw [e]
    intro h
    simp [Value.ownBlock] at h
    omega)

theorem grown_of_belowN {w w' : World} (hb : Below w.heap.size w w') : w.grownBy w' none := ⟨hb.os, hb.tape, hb.output, hb.size, fun k hk _ => hb.block k hk⟩

section
variable {w wr w' : World} {p B0 z : Nat} {a : Option Addr} {len cap : Nat} {N : Int} {v1 v2 : Value} {ls : List Lk} {ts : List Th}

theorem NetSt.grown (h : NetSt w wr p B0 z a len cap N v1 v2 ls ts) (hc : Cur w' p a len cap) (hg : wr.grownBy w' (some p)) (hp : p < B0) (hz : B0 < z) : NetSt w w' p B0 z a len cap N v1 v2 ls ts where
  cur := hc
  bel := h.bel.grown hg (by have := lt_of_cur h.cur; omega) (fun k hk => by simp at hk; omega)
  new := h.new
  gro := grown_trans h.gro hg
  box := by rw [hg.block z (lt_of_heap h.box) (by simp; omega)]; exact h.box
  res := by rw [hg.block B0 (lt_of_heap h.res) (by simp; omega)]; exact h.res
  o1 := kept_otherN h.o1 hg (by omega)
  o2 := kept_otherN h.o2 hg (by omega)

theorem NetSt.below (h : NetSt w wr p B0 z a len cap N v1 v2 ls ts) (hb : Below wr.heap.size wr w') : NetSt w w' p B0 z a len cap N v1 v2 ls ts where
  cur := h.cur.grown (grown_of_belowN hb) (fun b _ => by simp)
  bel := h.bel.trans (hb.mono (by have := lt_of_cur h.cur; omega))
  new := h.new
  gro := grown_trans h.gro ⟨hb.os, hb.tape, hb.output, hb.size, fun k hk _ => hb.block k hk⟩
  box := by rw [hb.block z (lt_of_heap h.box)]; exact h.box
  res := by rw [hb.block B0 (lt_of_heap h.res)]; exact h.res
  o1 := owns_below h.o1 hb (Nat.le_refl _)
  o2 := owns_below h.o2 hb (Nat.le_refl _)

theorem NetSt.alloc (h : NetSt w wr p B0 z a len cap N v1 v2 ls ts) (o : Obj) : NetSt w (wr.alloc o) p B0 z a len cap N v1 v2 ls ts := h.below ((Below.refl _ _).alloc (Nat.le_refl _) _)

theorem NetSt.put1 (h : NetSt w wr p B0 z a len cap N v1 v2 ls ts) (hb : Below wr.heap.size wr w') {v' : Value} {ls' : List Lk} (ho : w'.ownsRow (wr.heap.size + 1) 62 4 v' ls'.length (flat lkE ls')) (hp : p < B0) (hz : B0 < z) : NetSt w (w'.setCell ⟨z, 1, none⟩ v') p B0 z a len cap N v' v2 ls' ts :=
  have h2 := h.below hb
  have hzl := lt_of_heap h.box
  { cur := h2.cur.grown (grown_set w' z 1 v') (fun b hb => by simp; omega)
    bel := h2.bel.setCell (by show p ≤ z; omega) _
    new := h.new
    gro := ⟨h2.gro.os, h2.gro.tape, h2.gro.output, by have := h2.gro.size; simpa using this, fun b hb hne => by rw [heap_setCell_other w' ⟨z, 1, none⟩ _ _ (by show b ≠ z; have := h.new; omega)]; exact h2.gro.block b hb hne⟩
    box := heap_setCell_same _ _ 1 _ _ v' h2.box
    res := by rw [heap_setCell_other w' ⟨z, 1, none⟩ _ _ (by show B0 ≠ z; omega)]; exact h2.res
    o1 := owns_set (owns_baseS ho (by omega)) (by omega)
    o2 := owns_set h2.o2 (by omega) }

theorem NetSt.put2 (h : NetSt w wr p B0 z a len cap N v1 v2 ls ts) (hb : Below wr.heap.size wr w') {v' : Value} {ts' : List Th} (ho : w'.ownsRow (wr.heap.size + 1) 66 4 v' ts'.length (flat thE ts')) (hp : p < B0) (hz : B0 < z) : NetSt w (w'.setCell ⟨z, 2, none⟩ v') p B0 z a len cap N v1 v' ls ts' :=
  have h2 := h.below hb
  have hzl := lt_of_heap h.box
  { cur := h2.cur.grown (grown_set w' z 2 v') (fun b hb => by simp; omega)
    bel := h2.bel.setCell (by show p ≤ z; omega) _
    new := h.new
    gro := ⟨h2.gro.os, h2.gro.tape, h2.gro.output, by have := h2.gro.size; simpa using this, fun b hb hne => by rw [heap_setCell_other w' ⟨z, 2, none⟩ _ _ (by show b ≠ z; have := h.new; omega)]; exact h2.gro.block b hb hne⟩
    box := heap_setCell_same _ _ 2 _ _ v' h2.box
    res := by rw [heap_setCell_other w' ⟨z, 2, none⟩ _ _ (by show B0 ≠ z; omega)]; exact h2.res
    o1 := owns_set h2.o1 (by omega)
    o2 := owns_set (owns_baseS ho (by omega)) (by omega) }

theorem NetSt.c0 (h : NetSt w wr p B0 z a len cap N v1 v2 ls ts) : wr.cell? ⟨z, 0, none⟩ = some (.int .i64 N) := by rw [cells_at h.box]; rfl

theorem NetSt.c1 (h : NetSt w wr p B0 z a len cap N v1 v2 ls ts) : wr.cell? ⟨z, 1, none⟩ = some v1 := by rw [cells_at h.box]; rfl

theorem NetSt.c2 (h : NetSt w wr p B0 z a len cap N v1 v2 ls ts) : wr.cell? ⟨z, 2, none⟩ = some v2 := by rw [cells_at h.box]; rfl

theorem NetSt.drew (h : NetSt w wr p B0 z a len cap N v1 v2 ls ts) : NetSt w wr.drew p B0 z a len cap N v1 v2 ls ts := h.below (Below.refl _ _).drew
end
end Go.Proofs.YthmmpmbnpfhloaaDoor
namespace Go.Proofs.YthmmpmbnpfhloaaDoor
open Go.RowKit

set_option linter.unusedSimpArgs false

end Go.Proofs.YthmmpmbnpfhloaaDoor
namespace Go.Proofs.YthmmpmbnpfhloaaDoor
open Go.RowKit

def totQD (xs : List RtD) : Nat := (xs.map (fun x => 1 + x.hops.length)).sum

theorem totQ_D (ps : List QP) : totQ ps = totQD (fstsQ ps) := by simp [totQ, totQD, fstsQ, List.map_map, Function.comp_def]

theorem totQD_cons (x : RtD) (xs : List RtD) : totQD (x :: xs) = 1 + x.hops.length + totQD xs := by simp [totQD]

end Go.Proofs.YthmmpmbnpfhloaaDoor
