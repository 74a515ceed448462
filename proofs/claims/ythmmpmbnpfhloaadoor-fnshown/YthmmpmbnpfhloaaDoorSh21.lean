/-
  spec.Merge: its contract.
  The search of spec.WaysIn: its tables in the heap, and one round of it.
-/
import Derived.Test.YthmmpmbnpfhloaaDoorSh19
import Derived.Test.YthmmpmbnpfhloaaDoorSh14
namespace Go.Proofs.YthmmpmbnpfhloaaDoor
open Go.RowKit

set_option linter.unusedSimpArgs false

theorem tot_filt (f : RP → Bool) (ps : List RP) : tot (ps.filter f) ≤ tot ps := by
  induction ps with
  | nil => simp [tot]
  | cons p ps ih =>
    rw [List.filter_cons]
    split
    · rw [tot_cons, tot_cons]; omega
    · rw [tot_cons]; omega

/-- of each record one of the three holds at most -/
theorem tot_two (f g : RP → Bool) (hfg : ∀ p, f p = true → g p = false) (ps : List RP) : tot (ps.filter f) + tot (ps.filter g) ≤ tot ps := by
  induction ps with
  | nil => simp [tot]
  | cons p ps ih =>
    have := hfg p
    by_cases hf : f p = true
    · have hg := this hf
      simp only [List.filter_cons, hf, hg, if_true, Bool.false_eq_true, if_false, tot_cons]
      omega
    · have hf' : f p = false := by simpa using hf
      by_cases hg : g p = true
      · simp only [List.filter_cons, hf', hg, if_true, Bool.false_eq_true, if_false, tot_cons]
        omega
      · have hg' : g p = false := by simpa using hg
        simp only [List.filter_cons, hf', hg', Bool.false_eq_true, if_false, tot_cons]
        omega

theorem before_asym {x y : RecD} (h : beforeB x y = true) : beforeB y x = false := by
  unfold beforeB at *
  simp only [Bool.or_eq_true, Bool.and_eq_true, decide_eq_true_eq, beq_iff_eq] at h
  simp only [Bool.or_eq_false_iff, Bool.and_eq_false_iff, decide_eq_false_iff_not, beq_eq_false_iff_ne]
  omega

theorem tot_put (ps : List RP) (r : RP) : tot (putL ps r) ≤ tot ps + (1 + r.1.near.length) := by
  unfold putL
  rw [tot_append, tot_append]
  have h := tot_two (fun p => beforeB p.1 r.1) (fun p => beforeB r.1 p.1) (fun p hp => before_asym hp) ps
  have e : tot [r] = 1 + r.1.near.length := by simp [tot]
  omega

end Go.Proofs.YthmmpmbnpfhloaaDoor
namespace Go.Proofs.YthmmpmbnpfhloaaDoor
open Go.RowKit

set_option linter.unusedSimpArgs false

/-- the links of an area, between nodes alone -/
def linkN (xs : List RecD) (area : Int) (u v : Nat) : Int := if (1 ≤ u ∧ u ≤ 6) ∧ (1 ≤ v ∧ v ≤ 6) then linkF xs area u v else 0

theorem linkT_pos {ns : List Nr} {bk : Int → Int} {v : Nat} (h : ∀ n ∈ ns, 1 ≤ n.c ∧ n.c ≤ 1000) : ∀ k, 0 ≤ linkT ns bk v k ∧ linkT ns bk v k ≤ 1000
  | 0 => by simp [linkT]
  | k + 1 => by
    have ih := linkT_pos (bk := bk) (v := v) h k
    cases e : ns[k]? with
    | none =>
      have : linkT ns bk v (k + 1) = linkT ns bk v k := by
        show (match ns[k]? with
          | some n => if n.to = (v : Int) ∧ inB n.to 1 6 = true ∧ 0 < bk n.to then n.c else linkT ns bk v k
          | none => linkT ns bk v k) = _
        rw [e]
      rw [this]; exact ih
    | some n =>
      rw [linkT_step bk v e]
      have := h n (List.mem_of_getElem? e)
      split
      · omega
      · exact ih

theorem allOk_mem {α : Type} {ok : α → Bool} {ls : List α} (h : allOk ok ls = true) {a : α} (ha : a ∈ ls) : ok a = true := by
  obtain ⟨k, hk, e⟩ := List.mem_iff_getElem.1 ha
  unfold allOk at h
  rw [List.all_eq_true] at h
  have := h k (by simpa using hk)
  unfold okAt at this
  rw [List.getElem?_eq_getElem hk, e] at this
  exact this

theorem recOk_nears {x : RecD} (h : recOkB x = true) : x.near = [] ∨ (x.kind = 1 ∧ nearsB x.owner x.near = true) := by
  unfold recOkB at h
  simp only [Bool.and_eq_true] at h
  have h2 := h.2
  split at h2
  · rename_i e
    simp only [Bool.and_eq_true] at h2
    exact .inr ⟨e, h2.1.1.2⟩
  · split at h2
    · simp only [Bool.and_eq_true, beq_iff_eq] at h2
      exact .inl (List.eq_nil_of_length_eq_zero h2.1.1.2)
    · split at h2
      · simp only [Bool.and_eq_true, beq_iff_eq] at h2
        exact .inl (List.eq_nil_of_length_eq_zero h2.1.2)
      · cases h2

theorem recOk_near_cost {x : RecD} (h : recOkB x = true) : ∀ n ∈ x.near, 1 ≤ n.c ∧ n.c ≤ 1000 := by
  intro n hn
  rcases recOk_nears h with e | ⟨_, e⟩
  · rw [e] at hn; cases hn
  · unfold nearsB at e
    simp only [Bool.and_eq_true] at e
    have := allOk_mem e.1 hn
    unfold nearOkB at this
    simp only [Bool.and_eq_true] at this
    exact inB_iff.1 this.2

theorem findD_mem {xs : List RecD} {r : RecD} : findD xs r ∈ xs ∨ findD xs r = zeroRD := by
  rcases atZ_cases xs r with hz | ⟨j, y, hz, hy, _⟩
  · exact .inr (find_none hz).1
  · rw [(find_at hz hy).1]; exact .inl (List.mem_of_getElem? hy)

theorem node_near {xs : List RecD} {area node : Int} (h : storeB xs = true) : ∀ n ∈ (nodeD xs area node).near, 1 ≤ n.c ∧ n.c ≤ 1000 := by
  intro n hn
  unfold nodeD at hn
  rcases findD_mem (xs := xs) (r := nodeR area node) with hm | he
  · unfold storeB at h
    simp only [Bool.and_eq_true] at h
    have hr := allOk_mem h.1.2 hm
    exact recOk_near_cost hr n hn
  · rw [he] at hn; cases hn

theorem linkN_links {xs : List RecD} {area : Int} (h : storeB xs = true) : Links (linkN xs area) 1000 := by
  refine ⟨fun u v => ?_, fun u v => ?_, fun u v hl => ?_⟩
  · unfold linkN; split
    · exact (linkT_pos (node_near h) _).1
    · omega
  · unfold linkN; split
    · exact (linkT_pos (node_near h) _).2
    · omega
  · unfold linkN at hl
    split at hl
    · rename_i e; exact e
    · omega

def costV (c : Nat → Int) (i : Nat) : Value := .int .i64 (if i = 0 then 0 else c i)

def doneV (F : Nat → Bool) (i : Nat) : Value := .bool (F i)

def upd {α : Type} (f : Nat → α) (v : Nat) (x : α) (i : Nat) : α := if i = v then x else f i

theorem upd_same {α : Type} (f : Nat → α) (v : Nat) (x : α) : upd f v x v = x := by simp [upd]

theorem upd_other {α : Type} (f : Nat → α) {v i : Nat} (x : α) (h : i ≠ v) : upd f v x i = f i := by simp [upd, h]

/-- the tables: links at g, costs at b, hops at b + 1, what is done at b + 2; the rows of hops lie behind -/
structure SSt (W : World) (g b : Nat) (o : Nat → Nat → Int) (F : Nat → Bool) (c : Nat → Int) (h : Nat → List Int) (hv : Nat → Value) : Prop where
  gb : g < b
  ln : W.heap[g]? = some (.cells (rowA (linkV o) 49) 3)
  cs : W.heap[b]? = some (.cells (rowA (costV c) 7) 3)
  hs : W.heap[b + 1]? = some (.cells (rowA hv 7) 24)
  ds : W.heap[b + 1 + 1]? = some (.cells (rowA (doneV F) 7) 4)
  rows : ∀ v, W.ownsRow (b + 3) 3 1 (hv v) (h v).length (flat intE (h v))
  short : ∀ v, (h v).length ≤ 6

theorem SSt.size {W : World} {g b : Nat} {o : Nat → Nat → Int} {F : Nat → Bool} {c : Nat → Int} {h : Nat → List Int} {hv : Nat → Value} (s : SSt W g b o F c h hv) : b + 3 ≤ W.heap.size := by
  have := lt_of_heap s.ds; omega

theorem SSt.below {W W' : World} {g b : Nat} {o : Nat → Nat → Int} {F : Nat → Bool} {c : Nat → Int} {h : Nat → List Int} {hv : Nat → Value} (s : SSt W g b o F c h hv) (hb : Below W.heap.size W W') : SSt W' g b o F c h hv :=
  ⟨s.gb, (hb.block _ (lt_of_heap s.ln)).trans s.ln, (hb.block _ (lt_of_heap s.cs)).trans s.cs, (hb.block _ (lt_of_heap s.hs)).trans s.hs, (hb.block _ (lt_of_heap s.ds)).trans s.ds, fun v => owns_below (s.rows v) hb (Nat.le_refl _), s.short⟩

theorem SSt.cost {W : World} {g b : Nat} {o : Nat → Nat → Int} {F : Nat → Bool} {c : Nat → Int} {h : Nat → List Int} {hv : Nat → Value} (s : SSt W g b o F c h hv) {v : Nat} (h1 : 1 ≤ v) (h6 : v ≤ 6) : W.cell? ⟨b, v, none⟩ = some (.int .i64 (c v)) := by
  rw [rowA_cell s.cs (by omega)]; unfold costV; rw [if_neg (by omega)]

theorem SSt.done {W : World} {g b : Nat} {o : Nat → Nat → Int} {F : Nat → Bool} {c : Nat → Int} {h : Nat → List Int} {hv : Nat → Value} (s : SSt W g b o F c h hv) {v : Nat} (h6 : v ≤ 6) : W.cell? ⟨b + 1 + 1, v, none⟩ = some (.bool (F v)) := by
  rw [rowA_cell s.ds (by omega)]; rfl

theorem SSt.hop {W : World} {g b : Nat} {o : Nat → Nat → Int} {F : Nat → Bool} {c : Nat → Int} {h : Nat → List Int} {hv : Nat → Value} (s : SSt W g b o F c h hv) {v : Nat} (h6 : v ≤ 6) : W.cell? ⟨b + 1, v, none⟩ = some (hv v) := rowA_cell s.hs (by omega)

theorem SSt.link {W : World} {g b : Nat} {o : Nat → Nat → Int} {F : Nat → Bool} {c : Nat → Int} {h : Nat → List Int} {hv : Nat → Value} (s : SSt W g b o F c h hv) {u v : Nat} (h5 : u ≤ 6) (h6 : v ≤ 6) : W.cell? ⟨g, u * 7 + v, none⟩ = some (.int .i64 (o u v)) := linkV_at s.ln h5 h6

theorem SSt.setC {W : World} {g b : Nat} {o : Nat → Nat → Int} {F : Nat → Bool} {c : Nat → Int} {h : Nat → List Int} {hv : Nat → Value} (s : SSt W g b o F c h hv) {v : Nat} (h1 : 1 ≤ v) (x : Int) : SSt (W.setCell ⟨b, v, none⟩ (.int .i64 x)) g b o F (upd c v x) h hv := by
  have hg := s.gb
  refine ⟨s.gb, (heap_setCell_other W ⟨b, v, none⟩ g _ (by show g ≠ b; omega)).trans s.ln, ?_, (heap_setCell_other W ⟨b, v, none⟩ (b + 1) _ (by show b + 1 ≠ b; omega)).trans s.hs, (heap_setCell_other W ⟨b, v, none⟩ (b + 1 + 1) _ (by show b + 1 + 1 ≠ b; omega)).trans s.ds, fun u => owns_set (s.rows u) (by omega), s.short⟩
  rw [rowA_put s.cs, rowA_congr (fun i _ => ?_)]
  unfold costV upd
  by_cases e : i = v
  · subst e; rw [if_pos rfl, if_neg (by omega), if_pos rfl]
  · rw [if_neg e]; simp [e]

theorem SSt.setD {W : World} {g b : Nat} {o : Nat → Nat → Int} {F : Nat → Bool} {c : Nat → Int} {h : Nat → List Int} {hv : Nat → Value} (s : SSt W g b o F c h hv) (v : Nat) : SSt (W.setCell ⟨b + 1 + 1, v, none⟩ (.bool true)) g b o (fun x => F x || x == v) c h hv := by
  have hg := s.gb
  refine ⟨s.gb, (heap_setCell_other W ⟨b + 1 + 1, v, none⟩ g _ (by show g ≠ b + 1 + 1; omega)).trans s.ln, (heap_setCell_other W ⟨b + 1 + 1, v, none⟩ b _ (by show b ≠ b + 1 + 1; omega)).trans s.cs, (heap_setCell_other W ⟨b + 1 + 1, v, none⟩ (b + 1) _ (by show b + 1 ≠ b + 1 + 1; omega)).trans s.hs, ?_, fun u => owns_set (s.rows u) (by omega), s.short⟩
  rw [rowA_put s.ds, rowA_congr (fun i _ => ?_)]
  unfold doneV
  by_cases e : i = v
  · subst e; simp
  · simp [e]

theorem SSt.setH {W : World} {g b : Nat} {o : Nat → Nat → Int} {F : Nat → Bool} {c : Nat → Int} {h : Nat → List Int} {hv : Nat → Value} (s : SSt W g b o F c h hv) (v : Nat) {x : Value} {l : List Int} (hx : W.ownsRow (b + 3) 3 1 x l.length (flat intE l)) (hl : l.length ≤ 6) : SSt (W.setCell ⟨b + 1, v, none⟩ x) g b o F c (upd h v l) (upd hv v x) := by
  have hg := s.gb
  refine ⟨s.gb, (heap_setCell_other W ⟨b + 1, v, none⟩ g _ (by show g ≠ b + 1; omega)).trans s.ln, (heap_setCell_other W ⟨b + 1, v, none⟩ b _ (by show b ≠ b + 1; omega)).trans s.cs, ?_, (heap_setCell_other W ⟨b + 1, v, none⟩ (b + 1 + 1) _ (by show b + 1 + 1 ≠ b + 1; omega)).trans s.ds, fun u => ?_, fun u => ?_⟩
  · rw [rowA_put s.hs]; rfl
  · unfold upd
    by_cases e : u = v
    · rw [if_pos e, if_pos e]; exact owns_set hx (by omega)
    · rw [if_neg e, if_neg e]; exact owns_set (s.rows u) (by omega)
  · unfold upd
    by_cases e : u = v
    · rw [if_pos e]; exact hl
    · rw [if_neg e]; exact s.short u

theorem SSt.congr {W : World} {g b : Nat} {o : Nat → Nat → Int} {F : Nat → Bool} {c d : Nat → Int} {h : Nat → List Int} {hv : Nat → Value} (s : SSt W g b o F c h hv) (hc : ∀ v, 1 ≤ v → v ≤ 6 → d v = c v) : SSt W g b o F d h hv := by
  refine ⟨s.gb, s.ln, ?_, s.hs, s.ds, s.rows, s.short⟩
  rw [s.cs, rowA_congr (fun i hi => ?_)]
  unfold costV
  by_cases e : i = 0
  · rw [if_pos e, if_pos e]
  · rw [if_neg e, if_neg e, hc i (by omega) (by omega)]

theorem SSt.start {W : World} {g : Nat} {o : Nat → Nat → Int} (hg : W.heap[g]? = some (.cells (rowA (linkV o) 49) 3)) :
    SSt (((W.alloc (.cells (rowA (fun _ => .int .i64 0) 7) 3)).alloc (.cells (rowA (fun _ => .slice none 0 0) 7) 24)).alloc (.cells (rowA (fun _ => .bool false) 7) 4)) g W.heap.size o (fun _ => false) (fun _ => 0) (fun _ => []) (fun _ => .slice none 0 0) := by
  have hlt := lt_of_heap hg
  refine ⟨hlt, ?_, ?_, ?_, ?_, fun v => World.ownsRow_nil _ _ _ _, by simp⟩
  · rw [Below.heap_alloc _ _ _ (by simp; omega), Below.heap_alloc _ _ _ (by simp; omega), Below.heap_alloc _ _ _ hlt]; exact hg
  · rw [Below.heap_alloc _ _ _ (by simp; omega), Below.heap_alloc _ _ _ (by simp), heap_alloc_new, rowA_congr (fun i _ => ?_)]
    unfold costV; simp
  · rw [Below.heap_alloc _ _ _ (by simp)]
    have e := heap_alloc_new (W.alloc (.cells (rowA (fun _ => .int .i64 0) 7) 3)) (.cells (rowA (fun _ => .slice none 0 0) 7) 24)
    rw [show (W.alloc (.cells (rowA (fun _ => .int .i64 0) 7) 3)).heap.size = W.heap.size + 1 by simp] at e
    exact e
  · have e := heap_alloc_new ((W.alloc (.cells (rowA (fun _ => .int .i64 0) 7) 3)).alloc (.cells (rowA (fun _ => .slice none 0 0) 7) 24)) (.cells (rowA (fun _ => .bool false) 7) 4)
    rw [show ((W.alloc (.cells (rowA (fun _ => .int .i64 0) 7) 3)).alloc (.cells (rowA (fun _ => .slice none 0 0) 7) 24)).heap.size = W.heap.size + 1 + 1 by simp] at e
    exact e

theorem addT_mem (a b : List Int) (x : Int) : ∀ k : Nat, x ∈ addT a b k ↔ (1 ≤ x ∧ x ≤ (k : Int) ∧ (x ∈ a ∨ x ∈ b))
  | 0 => by simp [addT]; omega
  | k + 1 => by
    unfold addT
    rw [List.mem_append, addT_mem a b x k]
    by_cases e : (k : Int) + 1 ∈ a ∨ (k : Int) + 1 ∈ b
    · rw [if_pos e]
      simp only [List.mem_singleton]
      constructor
      · rintro (⟨h1, h2, h3⟩ | rfl)
        · exact ⟨h1, by omega, h3⟩
        · exact ⟨by omega, by omega, e⟩
      · rintro ⟨h1, h2, h3⟩
        by_cases e2 : x = (k : Int) + 1
        · exact .inr e2
        · exact .inl ⟨h1, by omega, h3⟩
    · rw [if_neg e]
      simp only [List.not_mem_nil, or_false]
      constructor
      · rintro ⟨h1, h2, h3⟩; exact ⟨h1, by omega, h3⟩
      · rintro ⟨h1, h2, h3⟩
        refine ⟨h1, ?_, h3⟩
        by_cases e2 : x = (k : Int) + 1
        · subst e2; exact absurd h3 e
        · omega

theorem addT_asc (a b : List Int) : ∀ k : Nat, (addT a b k).Pairwise (· < ·)
  | 0 => by simp [addT]
  | k + 1 => by
    unfold addT
    rw [List.pairwise_append]
    refine ⟨addT_asc a b k, by split <;> simp, ?_⟩
    intro x hx y hy
    have h1 := (addT_mem a b x k).1 hx
    split at hy
    · simp at hy; omega
    · cases hy

theorem addL_mem {a b : List Int} {x : Int} : x ∈ addL a b ↔ (1 ≤ x ∧ x ≤ 6 ∧ (x ∈ a ∨ x ∈ b)) := addT_mem a b x 6

theorem addL_asc (a b : List Int) : (addL a b).Pairwise (· < ·) := addT_asc a b 6

theorem addL_len6 (a b : List Int) : (addL a b).length ≤ 6 := addT_len a b 6

/-- the hops of the way over u -/
def wayL (src : Nat) (h : Nat → List Int) (u v : Nat) : List Int := if u = src then [(v : Int)] else h u

theorem wayL_mem {src : Nat} {h : Nat → List Int} {u v : Nat} {x : Int} : x ∈ wayL src h u v ↔ OverHop src h u v x := by
  unfold wayL OverHop
  by_cases e : u = src
  · rw [if_pos e]; simp [e]
  · rw [if_neg e]; simp [e]

def relaxL (L : Nat → Nat → Int) (src : Nat) (c : Nat → Int) (h : Nat → List Int) (u v : Nat) : List Int :=
  if 0 < L u v then (if c v < 0 ∨ c u + L u v < c v then addL [] (wayL src h u v) else if c u + L u v = c v then addL (h v) (wayL src h u v) else h v) else h v

theorem relaxL_spec {L : Nat → Nat → Int} {K : Int} {src : Nat} {F : Nat → Bool} {c : Nat → Int} {h : Nat → List Int} (I : Inv L src F c h) (hL : Links L K) {u : Nat} (hu : 0 ≤ c u) (v : Nat) : RelaxH L src c h u v (relaxL L src c h u v) := by
  have hrng : ∀ x, 0 < L u v → OverHop src h u v x → 1 ≤ x ∧ x ≤ 6 := by
    intro x hl ho
    rcases ho with ⟨_, rfl⟩ | ⟨_, h2⟩
    · have := (hL.node u v hl).2; unfold IsNode at this; omega
    · exact I.rng u x h2
  have hneg : c v < 0 → ∀ x, x ∉ h v := by
    intro hc x hx
    by_cases e : v = src
    · subst e; rw [I.start0] at hx; cases hx
    · have := ((I.hop v e x).1 hx).1; omega
  unfold relaxL
  by_cases h1 : 0 < L u v
  · rw [if_pos h1]
    by_cases h2 : c v < 0 ∨ c u + L u v < c v
    · rw [if_pos h2]
      have e : relaxC L c u v = c u + L u v := by unfold relaxC; rw [if_pos ⟨h1, h2⟩]
      refine ⟨addL_asc _ _, fun x => ?_⟩
      rw [addL_mem, e, wayL_mem]
      constructor
      · rintro ⟨_, _, h5 | h5⟩
        · cases h5
        · exact .inr ⟨h1, rfl, h5⟩
      · rintro (⟨h5, h6⟩ | ⟨_, _, h5⟩)
        · omega
        · have := hrng x h1 h5; exact ⟨this.1, this.2, .inr h5⟩
    · rw [if_neg h2]
      have e : relaxC L c u v = c v := by unfold relaxC; rw [if_neg (fun hc => h2 hc.2)]
      by_cases h3 : c u + L u v = c v
      · rw [if_pos h3]
        refine ⟨addL_asc _ _, fun x => ?_⟩
        rw [addL_mem, e, wayL_mem]
        constructor
        · rintro ⟨_, _, h5 | h5⟩
          · exact .inl ⟨h5, rfl⟩
          · exact .inr ⟨h1, h3.symm, h5⟩
        · rintro (⟨h5, _⟩ | ⟨_, _, h5⟩)
          · have := I.rng v x h5; exact ⟨this.1, this.2, .inl h5⟩
          · have := hrng x h1 h5; exact ⟨this.1, this.2, .inr h5⟩
      · rw [if_neg h3]
        refine ⟨I.asc v, fun x => ?_⟩
        rw [e]
        constructor
        · intro h5; exact .inl ⟨h5, rfl⟩
        · rintro (⟨h5, _⟩ | ⟨_, h6, _⟩)
          · exact h5
          · omega
  · rw [if_neg h1]
    have e : relaxC L c u v = c v := by unfold relaxC; rw [if_neg (fun hc => h1 hc.1)]
    refine ⟨I.asc v, fun x => ?_⟩
    rw [e]
    constructor
    · intro h5; exact .inl ⟨h5, rfl⟩
    · rintro (⟨h5, _⟩ | ⟨h6, _⟩)
      · exact h5
      · exact absurd h6 h1

/-- costs behind going on to the nodes below j -/
def mixC (L : Nat → Nat → Int) (c : Nat → Int) (u j v : Nat) : Int := if v < j then relaxC L c u v else c v

def mixH (L : Nat → Nat → Int) (src : Nat) (c : Nat → Int) (h : Nat → List Int) (u j v : Nat) : List Int := if v < j then relaxL L src c h u v else h v

theorem mixC_one {L : Nat → Nat → Int} {K : Int} (hL : Links L K) (c : Nat → Int) (u : Nat) : mixC L c u 1 = c := by
  funext v
  unfold mixC
  by_cases e : v < 1
  · rw [if_pos e]
    unfold relaxC
    rw [if_neg (fun hc => by have := (hL.node u v hc.1).2; unfold IsNode at this; omega)]
  · rw [if_neg e]

theorem mixH_one {L : Nat → Nat → Int} {K : Int} (hL : Links L K) (src : Nat) (c : Nat → Int) (h : Nat → List Int) (u : Nat) : mixH L src c h u 1 = h := by
  funext v
  unfold mixH
  by_cases e : v < 1
  · rw [if_pos e]
    unfold relaxL
    rw [if_neg (fun hc => by have := (hL.node u v hc).2; unfold IsNode at this; omega)]
  · rw [if_neg e]

theorem mixC_step (L : Nat → Nat → Int) (c : Nat → Int) (u j : Nat) : mixC L c u (j + 1) = upd (mixC L c u j) j (relaxC L c u j) := by
  funext v
  unfold upd
  show (if v < j + 1 then relaxC L c u v else c v) = if v = j then relaxC L c u j else if v < j then relaxC L c u v else c v
  by_cases e : v = j
  · rw [if_pos (by omega), if_pos e, e]
  · rw [if_neg e]
    by_cases e2 : v < j
    · rw [if_pos e2, if_pos (by omega)]
    · rw [if_neg e2, if_neg (by omega)]

theorem mixH_step (L : Nat → Nat → Int) (src : Nat) (c : Nat → Int) (h : Nat → List Int) (u j : Nat) : mixH L src c h u (j + 1) = upd (mixH L src c h u j) j (relaxL L src c h u j) := by
  funext v
  unfold upd
  show (if v < j + 1 then relaxL L src c h u v else h v) = if v = j then relaxL L src c h u j else if v < j then relaxL L src c h u v else h v
  by_cases e : v = j
  · rw [if_pos (by omega), if_pos e, e]
  · rw [if_neg e]
    by_cases e2 : v < j
    · rw [if_pos e2, if_pos (by omega)]
    · rw [if_neg e2, if_neg (by omega)]

theorem mixC_next {L : Nat → Nat → Int} {c : Nat → Int} {u j : Nat} : mixC L c u j j = c j := by
  unfold mixC; rw [if_neg (by omega)]

theorem mixH_next {L : Nat → Nat → Int} {src : Nat} {c : Nat → Int} {h : Nat → List Int} {u j : Nat} : mixH L src c h u j j = h j := by
  unfold mixH; rw [if_neg (by omega)]

theorem upd_id {α : Type} (f : Nat → α) (v : Nat) : upd f v (f v) = f := by
  funext i
  unfold upd
  by_cases e : i = v
  · rw [if_pos e, e]
  · rw [if_neg e]

theorem mixC_keep {L : Nat → Nat → Int} {c : Nat → Int} {u j : Nat} (e : relaxC L c u j = c j) : mixC L c u (j + 1) = mixC L c u j := by
  rw [mixC_step, e, ← mixC_next (L := L) (c := c) (u := u) (j := j), upd_id]

theorem mixH_keep {L : Nat → Nat → Int} {src : Nat} {c : Nat → Int} {h : Nat → List Int} {u j : Nat} (e : relaxL L src c h u j = h j) : mixH L src c h u (j + 1) = mixH L src c h u j := by
  rw [mixH_step, e, ← mixH_next (L := L) (src := src) (c := c) (h := h) (u := u) (j := j), upd_id]

theorem mixC_all {L : Nat → Nat → Int} {K : Int} (hL : Links L K) (c : Nat → Int) (u : Nat) : mixC L c u 7 = fun v => relaxC L c u v := by
  funext v
  unfold mixC
  by_cases e : v < 7
  · rw [if_pos e]
  · rw [if_neg e]
    unfold relaxC
    rw [if_neg (fun hc => by have := (hL.node u v hc.1).2; unfold IsNode at this; omega)]

theorem mixH_all {L : Nat → Nat → Int} {K : Int} (hL : Links L K) (src : Nat) (c : Nat → Int) (h : Nat → List Int) (u : Nat) : mixH L src c h u 7 = fun v => relaxL L src c h u v := by
  funext v
  unfold mixH
  by_cases e : v < 7
  · rw [if_pos e]
  · rw [if_neg e]
    unfold relaxL
    rw [if_neg (fun hc => by have := (hL.node u v hc).2; unfold IsNode at this; omega)]

theorem relaxL_none {L : Nat → Nat → Int} {src : Nat} {c : Nat → Int} {h : Nat → List Int} {u v : Nat} (e : ¬ 0 < L u v) : relaxL L src c h u v = h v ∧ relaxC L c u v = c v := by
  unfold relaxL relaxC
  rw [if_neg e, if_neg (fun hc => e hc.1)]
  exact ⟨rfl, rfl⟩

theorem relaxL_dear {L : Nat → Nat → Int} {src : Nat} {c : Nat → Int} {h : Nat → List Int} {u v : Nat} (h0 : 0 ≤ c v) (e : c v < c u + L u v) : relaxL L src c h u v = h v ∧ relaxC L c u v = c v := by
  unfold relaxL relaxC
  constructor
  · split
    · rw [if_neg (by omega), if_neg (by omega)]
    · rfl
  · rw [if_neg (by omega)]

theorem relaxL_less {L : Nat → Nat → Int} {src : Nat} {c : Nat → Int} {h : Nat → List Int} {u v : Nat} (hl : 0 < L u v) (e : c v < 0 ∨ c u + L u v < c v) : relaxL L src c h u v = addL [] (wayL src h u v) ∧ relaxC L c u v = c u + L u v := by
  unfold relaxL relaxC
  rw [if_pos hl, if_pos e, if_pos ⟨hl, e⟩]
  exact ⟨rfl, rfl⟩

theorem relaxL_like {L : Nat → Nat → Int} {src : Nat} {c : Nat → Int} {h : Nat → List Int} {u v : Nat} (hl : 0 < L u v) (h0 : 0 ≤ c v) (e : c u + L u v = c v) : relaxL L src c h u v = addL (h v) (wayL src h u v) ∧ relaxC L c u v = c v := by
  unfold relaxL relaxC
  rw [if_pos hl, if_neg (by omega), if_pos e, if_neg (by omega)]
  exact ⟨rfl, rfl⟩
end Go.Proofs.YthmmpmbnpfhloaaDoor
