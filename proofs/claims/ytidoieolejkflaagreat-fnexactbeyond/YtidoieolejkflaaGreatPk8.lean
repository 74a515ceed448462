/-
  spec.l06Links: its contract.
  impl.ofItsKind, the three keyOk methods: their contracts.
  Lists that ascend, lists all of whose elements are right.
-/
import Derived.Test.YtidoieolejkflaaGreatPk6
import Derived.Test.YtidoieolejkflaaGreatPk7
import Derived.Test.YtidoieolejkflaaGreatPk5
import Derived.Test.YtidoieolejkflaaGreatPk2
import Derived.Test.YtidoieolejkflaaGreatPk1
namespace Go.Proofs.YtidoieolejkflaaGreat
open Go.RowKit

set_option linter.unusedSimpArgs false

/-- what the first k of a node's neighbours leave in the table, of v -/
def linkT (ns : List Nr) (bk : Int → Int) (v : Nat) : Nat → Int
  | 0 => 0
  | k + 1 => match ns[k]? with
    | some n => if n.to = (v : Int) ∧ inB n.to 1 6 = true ∧ 0 < bk n.to then n.c else linkT ns bk v k
    | none => linkT ns bk v k

/-- the table of links -/
def linkF (xs : List RecD) (area : Int) (u v : Nat) : Int := linkT (nodeD xs area u).near (fun b => tellsD xs area b u) v (nodeD xs area u).near.length

def linkV (o : Nat → Nat → Int) (i : Nat) : Value := .int .i64 (o (i / 7) (i % 7))

theorem linkV_at {W : World} {g : Nat} {o : Nat → Nat → Int} (h : W.heap[g]? = some (.cells (rowA (linkV o) 49) 3)) {a b : Nat} (ha : a ≤ 6) (hb : b ≤ 6) : W.cell? ⟨g, a * 7 + b, none⟩ = some (.int .i64 (o a b)) := by
  rw [rowA_cell h (by omega)]
  unfold linkV
  rw [show (a * 7 + b) / 7 = a by omega, show (a * 7 + b) % 7 = b by omega]

theorem linkV_put {W : World} {g : Nat} {o : Nat → Nat → Int} (h : W.heap[g]? = some (.cells (rowA (linkV o) 49) 3)) {a b : Nat} (hb : b ≤ 6) (x : Int) :
    (W.setCell ⟨g, a * 7 + b, none⟩ (.int .i64 x)).heap[g]? = some (.cells (rowA (linkV (fun u v => if u = a ∧ v = b then x else o u v)) 49) 3) := by
  rw [rowA_put h, rowA_congr (fun i _ => ?_)]
  unfold linkV
  show (if i = a * 7 + b then Value.int .i64 x else .int .i64 (o (i / 7) (i % 7))) = .int .i64 (if i / 7 = a ∧ i % 7 = b then x else o (i / 7) (i % 7))
  by_cases e : i = a * 7 + b
  · rw [if_pos e, if_pos (by omega)]
  · rw [if_neg e, if_neg (by omega)]

theorem linkT_step {ns : List Nr} {k : Nat} {n : Nr} (bk : Int → Int) (v : Nat) (h : ns[k]? = some n) : linkT ns bk v (k + 1) = if n.to = (v : Int) ∧ inB n.to 1 6 = true ∧ 0 < bk n.to then n.c else linkT ns bk v k := by
  show (match ns[k]? with
    | some n => if n.to = (v : Int) ∧ inB n.to 1 6 = true ∧ 0 < bk n.to then n.c else linkT ns bk v k
    | none => linkT ns bk v k) = _
  rw [h]

theorem inB_iff {x a b : Int} : inB x a b = true ↔ a ≤ x ∧ x ≤ b := by simp [inB]

/-- the table behind k nodes and j neighbours of the next one -/
def linksMid (xs : List RecD) (area : Int) (k j u v : Nat) : Int := if u ≤ k then linkF xs area u v else if u = k + 1 then linkT (nodeD xs area u).near (fun b => tellsD xs area b u) v j else 0

def IsMid (xs : List RecD) (area : Int) (k j : Nat) (o : Nat → Nat → Int) : Prop := ∀ u v, 1 ≤ u → u ≤ 6 → 1 ≤ v → v ≤ 6 → o u v = linksMid xs area k j u v

theorem mid_next {xs : List RecD} {area : Int} {k : Nat} {o : Nat → Nat → Int} (h : IsMid xs area k (nodeD xs area ((k + 1 : Nat) : Int)).near.length o) : IsMid xs area (k + 1) 0 o := by
  intro u v h1 h2 h3 h4
  rw [h u v h1 h2 h3 h4]
  unfold linksMid
  by_cases e : u ≤ k
  · rw [if_pos e, if_pos (by omega)]
  · rw [if_neg e]
    by_cases e2 : u = k + 1
    · rw [if_pos e2, if_pos (by omega)]
      subst e2
      rfl
    · rw [if_neg e2, if_neg (by omega)]
      split
      · rfl
      · rfl

theorem mid_skip {xs : List RecD} {area : Int} {k j : Nat} {o : Nat → Nat → Int} {n : Nr} (h : IsMid xs area k j o) (hn : (nodeD xs area ((k + 1 : Nat) : Int)).near[j]? = some n) (hno : ¬ (inB n.to 1 6 = true ∧ 0 < tellsD xs area n.to ((k + 1 : Nat) : Int))) : IsMid xs area k (j + 1) o := by
  intro u v h1 h2 h3 h4
  rw [h u v h1 h2 h3 h4]
  unfold linksMid
  by_cases e : u ≤ k
  · rw [if_pos e, if_pos e]
  · rw [if_neg e, if_neg e]
    by_cases e2 : u = k + 1
    · rw [if_pos e2, if_pos e2]
      subst e2
      rw [linkT_step _ v hn, if_neg (fun hc => hno hc.2)]
    · rw [if_neg e2, if_neg e2]

theorem mid_put {xs : List RecD} {area : Int} {k j t : Nat} {o : Nat → Nat → Int} {n : Nr} (h : IsMid xs area k j o) (hn : (nodeD xs area ((k + 1 : Nat) : Int)).near[j]? = some n) (hyes : inB n.to 1 6 = true ∧ 0 < tellsD xs area n.to ((k + 1 : Nat) : Int)) (ht : n.to = (t : Int)) : IsMid xs area k (j + 1) (fun u v => if u = k + 1 ∧ v = t then n.c else o u v) := by
  intro u v h1 h2 h3 h4
  have hh := h u v h1 h2 h3 h4
  unfold linksMid at hh ⊢
  by_cases e : u ≤ k
  · rw [if_pos e] at hh ⊢
    show (if u = k + 1 ∧ v = t then n.c else o u v) = _
    rw [if_neg (by omega)]
    exact hh
  · rw [if_neg e] at hh ⊢
    by_cases e2 : u = k + 1
    · rw [if_pos e2] at hh ⊢
      subst e2
      rw [linkT_step _ v hn]
      show (if k + 1 = k + 1 ∧ v = t then n.c else o (k + 1) v) = _
      by_cases e3 : v = t
      · rw [if_pos ⟨rfl, e3⟩, if_pos ⟨by omega, hyes⟩]
      · rw [if_neg (fun hc => e3 hc.2), if_neg (fun hc => by have := hc.1; omega)]
        exact hh
    · rw [if_neg e2] at hh ⊢
      show (if u = k + 1 ∧ v = t then n.c else o u v) = _
      rw [if_neg (fun hc => e2 hc.1)]
      exact hh

set_option maxRecDepth 100000 in
set_option maxHeartbeats 2000000 in
theorem slinks_any (v : Value) (ps : List RP) (hi : Nat) (area : Int) (w : World) (hv : RecsIn w hi v ps) (hhi : hi ≤ w.heap.size) (hn : tot ps ≤ 1048576) :
    Calls Tryz.prog 73 #[v, .int .i64 area] w fun e w' => ∃ o, e = .returned (.slice (some ⟨w.heap.size, 0, none⟩) 49 49) ∧ w'.heap[w.heap.size]? = some (.cells (rowA (linkV o) 49) 3) ∧ (∀ u v, 1 ≤ u → u ≤ 6 → 1 ≤ v → v ≤ 6 → o u v = linkF (fsts ps) area u v) ∧ Below w.heap.size w w' := by
  obtain ⟨a1, c1, rfl⟩ := owns_lenS hv.row
  have HN := hide (fun node W (hb : Below w.heap.size w W) => snode_any (.slice a1 ps.length c1) ps hi area node W (hv.below hb hhi) (Nat.le_trans hhi hb.size) hn)
  have HT := hide (fun a b W (hb : Below w.heap.size w W) => stells_any (.slice a1 ps.length c1) ps hi area a b W (hv.below hb hhi) (Nat.le_trans hhi hb.size) hn)
  clear hv
  have g0 := heap_alloc_new w (.cells (rowA (fun _ => .int .i64 0) 49) 3)
  have B0 : Below w.heap.size w (w.alloc (.cells (rowA (fun _ => .int .i64 0) 49) 3)) := (Below.refl _ _).alloc (Nat.le_refl _) _
  go_enter Tryz.func73, Tryz.ntmps73
  go_wp2_with (first | (at_make; refine wpList_make_rowA _ rfl _ _ 34 rfl 3 (.int .i64 0) 8 Tryz.underlying34 Tryz.info3 rfl 49 rfl rfl (by omega) (by omega) ?_))
  generalize w.alloc (.cells (rowA (fun _ => .int .i64 0) 49) 3) = w0 at *
  go_wp2
  go_loopw [6] (fun i wr => ∃ (k : Nat) (o : Nat → Nat → Int), k ≤ 6 ∧ i = .int .i64 ((k : Int) + 1) ∧ Hid (IsMid (fsts ps) area k 0 o) ∧ wr.heap[w.heap.size]? = some (.cells (rowA (linkV o) 49) 3) ∧ Below w.heap.size w wr) (fun i _ => 8 - (intOf i).toNat)
  case atStart => exact ⟨0, fun _ _ => 0, by omega, rfl, hide (fun u v h1 h2 h3 h4 => by unfold linksMid; rw [if_neg (by omega)]; split <;> rfl), g0, B0⟩
  case round =>
    rename World => wo
    obtain ⟨k, o, hk, rfl, HO, hg, hnx⟩ := hrel
    have hsz := hnx.size
    by_cases hlt : k < 6
    · have hk6 : (k : Int) + 1 ≤ 6 := by omega
      have hw1 : IntKind.i64.wrap ((k : Int) + 1 + 1) = ((k + 1 : Nat) : Int) + 1 := by rw [wrap_fit _ (by omega) (by omega)]; omega
      have J := hide (HN.out ((k : Int) + 1) wo hnx)
      obtain ⟨D, hD⟩ : ∃ D, D = nodeD (fsts ps) area ((k : Int) + 1) := ⟨_, rfl⟩
      obtain ⟨NB, hNB⟩ : ∃ b, b = nodeB (fsts ps) area ((k : Int) + 1) := ⟨_, rfl⟩
      rw [← hD, ← hNB] at J
      have HD := hide hD
      clear hD hNB
      unfold recC at J
      go_wp2_with fail
      refine J.out.mono ?_
      rintro e w1 ⟨u, rfl, hu, hul, b1⟩
      obtain ⟨ua, uc, rfl⟩ := NearsAt.shape hu
      have hx := heap_alloc_new w1 (.cells #[.int .i64 D.area, .int .i64 D.kind, .int .i64 D.owner, .int .i64 D.key, .int .i64 D.seq, .slice ua D.near.length uc, .int .i64 D.cost, .bool D.far] 71)
      have BX : Below w1.heap.size w1 (w1.alloc (.cells #[.int .i64 D.area, .int .i64 D.kind, .int .i64 D.owner, .int .i64 D.key, .int .i64 D.seq, .slice ua D.near.length uc, .int .i64 D.cost, .bool D.far] 71)) := (Below.refl _ _).alloc (Nat.le_refl _) _
      obtain ⟨w2, hw2⟩ : ∃ W, W = w1.alloc (.cells #[.int .i64 D.area, .int .i64 D.kind, .int .i64 D.owner, .int .i64 D.key, .int .i64 D.seq, .slice ua D.near.length uc, .int .i64 D.cost, .bool D.far] 71) := ⟨_, rfl⟩
      rw [← hw2] at hx BX
      have B12 : Below wo.heap.size wo w2 := b1.trans (BX.mono b1.size)
      have B2 : Below w.heap.size w w2 := hnx.trans (B12.mono hsz)
      have HU : Hid (NearsAt w2 (.slice ua D.near.length uc) D.near hi) := hide (RowAt.later hu BX (by have := b1.size; omega))
      have hs2 := lt_of_heap hx
      have hg2 := (B12.block _ (lt_of_heap hg)).trans hg
      obtain ⟨z, hz⟩ : ∃ z, z = w1.heap.size := ⟨_, rfl⟩
      have HZ := hide hz
      have hzg : w.heap.size < z := by have := lt_of_heap hg; have := b1.size; omega
      have HXX := hide hx
      have HG2 := hide hg2
      clear hu hx hg hg2 BX b1 J
      go_wp2
      rw [← hw2]
      rw [← hz]
      rw [← hz] at HXX hs2
      clear hw2 hz
      go_loopw [9] (fun i wr => ∃ (j : Nat) (o : Nat → Nat → Int), j ≤ D.near.length ∧ i = .int .i64 (j : Int) ∧ Hid (IsMid (fsts ps) area k j o) ∧ Hid (wr.heap[w.heap.size]? = some (.cells (rowA (linkV o) 49) 3)) ∧ wr.heap[z]? = some (.cells #[.int .i64 D.area, .int .i64 D.kind, .int .i64 D.owner, .int .i64 D.key, .int .i64 D.seq, .slice ua D.near.length uc, .int .i64 D.cost, .bool D.far] 71) ∧ Below w.heap.size w2 wr) (fun i _ => D.near.length - (intOf i).toNat)
      case atStart => exact ⟨0, o, by omega, rfl, HO, HG2, HXX.out, Below.refl _ _⟩
      case round =>
        obtain ⟨j, o, hj, rfl, HO, HG, hz, hnq⟩ := hrel
        have BQ : Below w.heap.size w wr := B2.trans hnq
        have d5 := cells_at hz 5
        simp at d5
        have HZZ := hide hz
        clear hz
        by_cases hjl : j < D.near.length
        · obtain ⟨n, hn⟩ : ∃ n, D.near[j]? = some n := ⟨D.near[j], List.getElem?_eq_getElem hjl⟩
          have hNq := (RowAt.later HU.out hnq hhi)
          obtain ⟨b, off, cp, hve, hbb, c0, c1⟩ := NearsAt.cells hNq j n hn
          cases hve
          have hji : (0 : Int) ≤ (j : Int) := by omega
          have hjj : (j : Int) < (D.near.length : Int) := by omega
          have HNJ := hide hn
          clear hn hNq
          by_cases hin : inB n.to 1 6 = true
          · obtain ⟨t, ht⟩ : ∃ t : Nat, n.to = (t : Int) := ⟨n.to.toNat, by have := inB_iff.1 hin; omega⟩
            have ht6 := inB_iff.1 hin
            rw [ht] at ht6 c0
            have hin' : inB (t : Int) 1 6 = true := by rw [← ht]; exact hin
            by_cases hbk : 0 < tellsD (fsts ps) area (t : Int) ((k : Int) + 1)
            · have hTL := hide (HT.out (t : Int) ((k : Int) + 1) wr BQ)
              go_wp2_with fail
              refine (in_any _ _ _ _).mono ?_
              rintro e w3 ⟨rfl, rfl⟩
              rw [hin']
              go_wp2_with fail
              refine hTL.out.mono ?_
              rintro e w3 ⟨rfl, b3⟩
              have hs3 := b3.size
              have HMS := hide (mid_put HO.out (by rw [← show (k : Int) + 1 = ((k + 1 : Nat) : Int) by omega, ← HD.out]; exact HNJ.out) (by rw [← show (k : Int) + 1 = ((k + 1 : Nat) : Int) by omega, ht]; exact ⟨hin', hbk⟩) ht)
              have hg3 := (b3.block _ (lt_of_heap HG.out)).trans HG.out
              have hz3 := (b3.block _ (lt_of_heap HZZ.out)).trans HZZ.out
              have B3 : Below w.heap.size w2 w3 := hnq.trans (b3.mono BQ.size)
              have hbq : b < wr.heap.size := by have := BQ.size; omega
              rw [← b3.cell (p := ⟨b, off + j * 2, none⟩) hbq] at c0
              rw [← b3.cell (p := ⟨b, off + j * 2 + 1, none⟩) hbq] at c1
              rw [← b3.cell (p := ⟨z, 5, none⟩) (lt_of_heap HZZ.out)] at d5
              have dg := linkV_at hg3 (a := k + 1) (b := t) (by omega) (by omega)
              have fg := frozen_at hg3
              have HP := hide (linkV_put hg3 (a := k + 1) (b := t) (by omega) n.c)
              have HZP := hide ((heap_setCell_other w3 ⟨w.heap.size, (k + 1) * 7 + t, none⟩ z (.int .i64 n.c) (by show z ≠ w.heap.size; omega)).trans hz3)
              have BP := hide (show Below w.heap.size w2 (w3.setCell ⟨w.heap.size, (k + 1) * 7 + t, none⟩ (.int .i64 n.c)) from B3.setCell (p := ⟨w.heap.size, (k + 1) * 7 + t, none⟩) (Nat.le_refl _) _)
              have hm1 : IntKind.i64.wrap (((k : Int) + 1) * 7) = (((k + 1) * 7 : Nat) : Int) := by rw [wrap_fit _ (by omega) (by omega)]; omega
              have hm2 : IntKind.i64.wrap ((((k + 1) * 7 : Nat) : Int) + (t : Int)) = (((k + 1) * 7 + t : Nat) : Int) := by rw [wrap_fit _ (by omega) (by omega)]; omega
              have hm3 : (0 : Int) ≤ (((k + 1) * 7 + t : Nat) : Int) := by omega
              have hm4 : (((k + 1) * 7 + t : Nat) : Int) < 49 := by omega
              clear hg3 hz3 hTL HO HG HZZ HU HXX HG2 HN HT
              go_wp2
              go_region
              go_wp2
              go_roundw
              case rel => exact ⟨j + 1, _, by omega, by go_num, HMS, HP, HZP.out, BP.out.trans ⟨rfl, rfl, rfl, Nat.le_refl _, fun _ _ => rfl⟩⟩
              case measure => simp [intOf]; omega
            · have hTL := hide (HT.out (t : Int) ((k : Int) + 1) wr BQ)
              go_wp2_with fail
              refine (in_any _ _ _ _).mono ?_
              rintro e w3 ⟨rfl, rfl⟩
              rw [hin']
              go_wp2_with fail
              refine hTL.out.mono ?_
              rintro e w3 ⟨rfl, b3⟩
              have hs3 := b3.size
              have HMS := hide (mid_skip HO.out (by rw [← show (k : Int) + 1 = ((k + 1 : Nat) : Int) by omega, ← HD.out]; exact HNJ.out) (fun hc => by have h2 := hc.2; rw [show ((k + 1 : Nat) : Int) = (k : Int) + 1 by omega, ht] at h2; omega))
              have HG3 := hide ((b3.block _ (lt_of_heap HG.out)).trans HG.out)
              have HZ3 := hide ((b3.block _ (lt_of_heap HZZ.out)).trans HZZ.out)
              have B3 : Below w.heap.size w2 w3 := hnq.trans (b3.mono BQ.size)
              go_wp2
              go_roundw
              case rel => exact ⟨j + 1, o, by omega, by go_num, HMS, HG3, HZ3.out, B3⟩
              case measure => simp [intOf]; omega
          · have hin' : inB n.to 1 6 = false := by simpa using hin
            have HMS := hide (mid_skip HO.out (by rw [← show (k : Int) + 1 = ((k + 1 : Nat) : Int) by omega, ← HD.out]; exact HNJ.out) (fun hc => hin hc.1))
            go_wp2_with fail
            refine (in_any _ _ _ _).mono ?_
            rintro e w3 ⟨rfl, rfl⟩
            rw [hin']
            go_wp2
            go_roundw
            case rel => exact ⟨j + 1, o, by omega, by go_num, HMS, HG, HZZ.out, hnq⟩
            case measure => simp [intOf]; omega
        · have hjn : j = D.near.length := by omega
          have HMN := hide (mid_next (k := k) (o := o) (by rw [← show (k : Int) + 1 = ((k + 1 : Nat) : Int) by omega, ← HD.out, ← hjn]; exact HO.out))
          clear hjn
          go_wp2
          go_roundw
          case rel => exact ⟨k + 1, o, by omega, rfl, HMN, HG.out, BQ⟩
          case measure => simp [intOf]; omega
    · have hk6 : ¬ (k : Int) + 1 ≤ 6 := by omega
      have KN := hide (show ∀ u v, 1 ≤ u → u ≤ 6 → 1 ≤ v → v ≤ 6 → o u v = linkF (fsts ps) area u v by
        intro u v h1 h2 h3 h4
        rw [HO.out u v h1 h2 h3 h4]
        unfold linksMid
        rw [if_pos (by omega)])
      go_wp2
      go_ret
      first
        | exact ⟨rfl, o, hg, KN.out, hnx⟩
        | exact ⟨o, rfl, hg, KN.out, hnx⟩
end Go.Proofs.YtidoieolejkflaaGreat
namespace Go.Proofs.YtidoieolejkflaaGreat
open Go.RowKit

/-- what ofItsKind answers -/
def kindV (x : RecD) (v1 : Value) : Value :=
  if x.kind = 1 then .tuple #[.iface 204 (.agg (recC x v1)), .bool true]
  else if x.kind = 2 then .tuple #[.iface 205 (.agg (recC x v1)), .bool true]
  else if x.kind = 3 then .tuple #[.iface 206 (.agg (recC x v1)), .bool true]
  else .tuple #[.nilIface, .bool false]

set_option maxRecDepth 100000 in
set_option maxHeartbeats 4000000 in
theorem kind_any (v1 : Value) (x : RecD) (w : World) :
    Calls Tryz.prog 151 #[.agg (recC x v1)] w fun e w' => e = .returned (kindV x v1) ∧ Below w.heap.size w w' := by
  have hV : kindV x v1 = kindV x v1 := rfl
  obtain ⟨area, kind, owner, key, seq, ns, cost, far⟩ := x
  by_cases hk1 : kind = 1
  · subst hk1
    have e : kindV ⟨area, 1, owner, key, seq, ns, cost, far⟩ v1 = .tuple #[.iface 204 (.agg (recC ⟨area, 1, owner, key, seq, ns, cost, far⟩ v1)), .bool true] := rfl
    rw [e]
    unfold recC
    simp only []
    clear e hV
    go_enter Tryz.func151, Tryz.ntmps151
    go_wp2
    go_ret2
    exact ⟨rfl, (Below.refl _ _).alloc (Nat.le_refl _) _⟩
  have k1 : (kind == 1) = false := by simpa using hk1
  by_cases hk2 : kind = 2
  · subst hk2
    have e : kindV ⟨area, 2, owner, key, seq, ns, cost, far⟩ v1 = .tuple #[.iface 205 (.agg (recC ⟨area, 2, owner, key, seq, ns, cost, far⟩ v1)), .bool true] := rfl
    rw [e]
    unfold recC
    simp only []
    clear e hV k1 hk1
    go_enter Tryz.func151, Tryz.ntmps151
    go_wp2
    go_ret2
    exact ⟨rfl, (Below.refl _ _).alloc (Nat.le_refl _) _⟩
  have k2 : (kind == 2) = false := by simpa using hk2
  by_cases hk3 : kind = 3
  · subst hk3
    have e : kindV ⟨area, 3, owner, key, seq, ns, cost, far⟩ v1 = .tuple #[.iface 206 (.agg (recC ⟨area, 3, owner, key, seq, ns, cost, far⟩ v1)), .bool true] := rfl
    rw [e]
    unfold recC
    simp only []
    clear e hV k1 hk1 k2 hk2
    go_enter Tryz.func151, Tryz.ntmps151
    go_wp2
    go_ret2
    exact ⟨rfl, (Below.refl _ _).alloc (Nat.le_refl _) _⟩
  have k3 : (kind == 3) = false := by simpa using hk3
  have e : kindV ⟨area, kind, owner, key, seq, ns, cost, far⟩ v1 = .tuple #[.nilIface, .bool false] := by unfold kindV; rw [if_neg hk1, if_neg hk2, if_neg hk3]
  rw [e]
  unfold recC
  simp only []
  clear e hV hk1 hk2 hk3
  go_enter Tryz.func151, Tryz.ntmps151
  go_wp2
  go_ret2
  exact ⟨rfl, (Below.refl _ _).alloc (Nat.le_refl _) _⟩

set_option maxRecDepth 100000 in
set_option maxHeartbeats 4000000 in
theorem nodeKey_any (v1 : Value) (x : RecD) (w : World) :
    Calls Tryz.prog 219 #[.agg (recC x v1)] w fun e w' => e = .returned (.bool (inB x.area 0 2 && x.key == 0)) ∧ Below w.heap.size w w' := by
  obtain ⟨area, kind, owner, key, seq, ns, cost, far⟩ := x
  unfold recC
  simp only []
  have H1 := hide (isIn_any area 0 2)
  obtain ⟨q1, hq1⟩ : ∃ q, q = inB area 0 2 := ⟨_, rfl⟩
  rw [← hq1] at H1 ⊢
  clear hq1
  go_enter Tryz.func219, Tryz.ntmps219
  go_wp2_with fail
  refine (H1.out _).mono ?_
  rintro e w1 ⟨rfl, rfl⟩
  cases q1
  · go_wp2
    go_ret
    exact ⟨by simp, (Below.refl _ _).alloc (Nat.le_refl _) _⟩
  · go_wp2
    go_ret
    exact ⟨by simp, (Below.refl _ _).alloc (Nat.le_refl _) _⟩

set_option maxRecDepth 100000 in
set_option maxHeartbeats 4000000 in
theorem beyondKey_any (v1 : Value) (x : RecD) (w : World) :
    Calls Tryz.prog 220 #[.agg (recC x v1)] w fun e w' => e = .returned (.bool (inB x.area 0 2 && inB x.key 1 6)) ∧ Below w.heap.size w w' := by
  obtain ⟨area, kind, owner, key, seq, ns, cost, far⟩ := x
  unfold recC
  simp only []
  have H1 := hide (isIn_any area 0 2)
  have H2 := hide (isIn_any key 1 6)
  obtain ⟨q1, hq1⟩ : ∃ q, q = inB area 0 2 := ⟨_, rfl⟩
  obtain ⟨q2, hq2⟩ : ∃ q, q = inB key 1 6 := ⟨_, rfl⟩
  rw [← hq1] at H1 ⊢
  rw [← hq2] at H2 ⊢
  clear hq1 hq2
  go_enter Tryz.func220, Tryz.ntmps220
  go_wp2_with fail
  refine (H1.out _).mono ?_
  rintro e w1 ⟨rfl, rfl⟩
  cases q1
  · go_wp2
    go_ret
    exact ⟨by simp, (Below.refl _ _).alloc (Nat.le_refl _) _⟩
  · go_wp2_with fail
    refine (H2.out _).mono ?_
    rintro e w1 ⟨rfl, rfl⟩
    go_wp2
    go_ret
    exact ⟨by simp, (Below.refl _ _).alloc (Nat.le_refl _) _⟩

set_option maxRecDepth 100000 in
set_option maxHeartbeats 4000000 in
theorem thingKey_any (v1 : Value) (x : RecD) (w : World) :
    Calls Tryz.prog 221 #[.agg (recC x v1)] w fun e w' => e = .returned (.bool (x.area == 9 && inB x.key 1 9)) ∧ Below w.heap.size w w' := by
  obtain ⟨area, kind, owner, key, seq, ns, cost, far⟩ := x
  unfold recC
  simp only []
  have H2 := hide (isIn_any key 1 9)
  obtain ⟨q2, hq2⟩ : ∃ q, q = inB key 1 9 := ⟨_, rfl⟩
  rw [← hq2] at H2 ⊢
  clear hq2
  by_cases ha : area = 9
  · subst ha
    go_enter Tryz.func221, Tryz.ntmps221
    go_wp2_with fail
    refine (H2.out _).mono ?_
    rintro e w1 ⟨rfl, rfl⟩
    go_wp2
    go_ret
    exact ⟨by simp, (Below.refl _ _).alloc (Nat.le_refl _) _⟩
  · have hd : (area == 9) = false := by simpa using ha
    go_enter Tryz.func221, Tryz.ntmps221
    go_wp2
    go_ret
    exact ⟨by simp [hd], (Below.refl _ _).alloc (Nat.le_refl _) _⟩
end Go.Proofs.YtidoieolejkflaaGreat
namespace Go.Proofs.YtidoieolejkflaaGreat
open Go.RowKit

def ascAt {α : Type} (ord : α → α → Int) (ls : List α) : Nat → Bool
  | 0 => true
  | k + 1 => match ls[k]?, ls[k + 1]? with
    | some p, some l => decide (ord p l < 0)
    | _, _ => true

theorem ascAt_eq {α : Type} {ord : α → α → Int} {ls : List α} {j : Nat} {p l : α} (hp : ls[j]? = some p) (hl : ls[j + 1]? = some l) : ascAt ord ls (j + 1) = decide (ord p l < 0) := by
  simp only [ascAt, hp, hl]

def ascB {α : Type} (ord : α → α → Int) (ls : List α) : Bool := (List.range ls.length).all (ascAt ord ls)

theorem all_false {n k : Nat} {p : Nat → Bool} (hk : k < n) (h : p k = false) : (List.range n).all p = false := by
  cases e : (List.range n).all p with
  | false => rfl
  | true => rw [List.all_eq_true.1 e k (List.mem_range.2 hk)] at h; cases h

theorem all_true {n : Nat} {p : Nat → Bool} (h : ∀ j, j < n → p j = true) : (List.range n).all p = true := List.all_eq_true.2 fun j hj => h j (List.mem_range.1 hj)

theorem next_true {k : Nat} {p : Nat → Bool} (h : ∀ j, j < k → p j = true) (hk : p k = true) : ∀ j, j < k + 1 → p j = true := fun j hj => by
  by_cases e : j = k
  · subst e; exact hk
  · exact h j (by omega)

def okAt {α : Type} (ok : α → Bool) (ls : List α) (k : Nat) : Bool := match ls[k]? with
  | some l => ok l
  | none => true

theorem okAt_eq {α : Type} {ok : α → Bool} {ls : List α} {k : Nat} {l : α} (h : ls[k]? = some l) : okAt ok ls k = ok l := by simp only [okAt, h]

def allOk {α : Type} (ok : α → Bool) (ls : List α) : Bool := (List.range ls.length).all (okAt ok ls)

end Go.Proofs.YtidoieolejkflaaGreat
