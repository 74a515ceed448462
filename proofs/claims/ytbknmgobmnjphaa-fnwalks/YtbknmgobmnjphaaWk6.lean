/-
  impl.orderOfNear, impl.ascends of nears, impl.nearOk: their contracts.
  spec.RecordOk: its contract.
  impl.bodyOk: its contract.
  impl.RecordOk: its contract.
  impl's order of records, lists in order, impl.StoreOk: their contracts.
  The search of spec.WaysIn: its tables in the heap, and one round of it.
  impl.placeOfNode, toldCost, Linked: their contracts; over a right store.
  impl.Linked over a right store: it is what the table of links has.
-/
import Derived.Test.YtbknmgobmnjphaaWk5
import Derived.Test.YtbknmgobmnjphaaWk2
import Derived.Test.YtbknmgobmnjphaaWk4
import Derived.Test.YtbknmgobmnjphaaWk1
namespace Go.Proofs.Ytbknmgobmnjphaa
open Go.RowKit

end Go.Proofs.Ytbknmgobmnjphaa
namespace Go.Proofs.Ytbknmgobmnjphaa
open Go.RowKit

def recOkB (x : RecD) : Bool := inB x.owner 1 6 && inB x.seq 1 100000 &&
  (if x.kind = 1 then inB x.area 0 2 && x.key == 0 && nearsB x.owner x.near && x.cost == 0 && !x.far
   else if x.kind = 2 then inB x.area 0 2 && inB x.key 1 6 && x.near.length == 0 && inB x.cost 0 60000 && !x.far
   else if x.kind = 3 then x.area == 9 && inB x.key 1 9 && x.near.length == 0 && (inB x.cost 1 1000 || x.cost == 60000)
   else false)

set_option maxRecDepth 100000 in
set_option maxHeartbeats 8000000 in
theorem srecOk_any (v1 : Value) (x : RecD) (w : World) (hl : x.near.length ≤ 1048576) (hv : NearsAt w v1 x.near w.heap.size) :
    Calls Try.prog 54 #[.agg (recC x v1)] w fun e w' => e = .returned (.bool (recOkB x)) ∧ Below w.heap.size w w' := by
  obtain ⟨p1, c1, rfl⟩ := hv.shape
  have HN := hide (fun W (h : Below w.heap.size w W) => snear_any (.slice p1 x.near.length c1) x W hl (hv.then h))
  obtain ⟨R, hR⟩ : ∃ R, R = recOkB x := ⟨_, rfl⟩
  rw [← hR]
  obtain ⟨qn, hqn⟩ : ∃ q, q = nearsB x.owner x.near := ⟨_, rfl⟩
  rw [← hqn] at HN
  unfold recOkB at hR
  rw [← hqn] at hR
  obtain ⟨area, kind, owner, key, seq, ns, cost, far⟩ := x
  unfold recC at HN ⊢
  simp only [] at HN hR hl hv ⊢
  have hnew := heap_alloc_new w (.cells #[.int .i64 area, .int .i64 kind, .int .i64 owner, .int .i64 key, .int .i64 seq, .slice p1 ns.length c1, .int .i64 cost, .bool far] 55)
  have B0 : Below w.heap.size w (w.alloc (.cells #[.int .i64 area, .int .i64 kind, .int .i64 owner, .int .i64 key, .int .i64 seq, .slice p1 ns.length c1, .int .i64 cost, .bool far] 55)) := (Below.refl _ _).alloc (Nat.le_refl _) _
  have H1 := hide (in_any owner 1 6)
  have H2 := hide (in_any seq 1 100000)
  obtain ⟨q1, hq1⟩ : ∃ q, q = inB owner 1 6 := ⟨_, rfl⟩
  obtain ⟨q2, hq2⟩ : ∃ q, q = inB seq 1 100000 := ⟨_, rfl⟩
  rw [← hq1] at H1 hR
  rw [← hq2] at H2 hR
  have NEW := hide hnew
  have HR := hide hR
  have HL := hide hl
  clear hnew hR hq1 hq2 hqn hv hl
  go_enter Try.func54, Try.ntmps54
  go_wp2_with fail
  refine (H1.out _).mono ?_
  rintro e w1 ⟨rfl, rfl⟩
  cases q1
  · go_wp2
    go_ret
    exact ⟨ret_bool (by rw [HR.out]; rfl), B0⟩
  go_wp2_with fail
  refine (H2.out _).mono ?_
  rintro e w1 ⟨rfl, rfl⟩
  cases q2
  · go_wp2
    go_ret
    exact ⟨ret_bool (by rw [HR.out]; rfl), B0⟩
  clear H1 H2
  by_cases hk1 : kind = 1
  · subst hk1
    have HR2 := hide (show R = (inB area 0 2 && key == 0 && qn && cost == 0 && !far) by have := HR.out; simpa using this)
    have H3 := hide (in_any area 0 2)
    obtain ⟨q3, hq3⟩ : ∃ q, q = inB area 0 2 := ⟨_, rfl⟩
    rw [← hq3] at H3 HR2
    clear hq3 HR
    go_wp2_with fail
    refine (H3.out _).mono ?_
    rintro e w1 ⟨rfl, rfl⟩
    cases q3
    · go_wp2
      go_ret
      exact ⟨ret_bool (by rw [HR2.out]; rfl), B0⟩
    by_cases hkey : key = 0
    case neg =>
      have hd : (key == 0) = false := by simpa using hkey
      rw [hd] at HR2
      go_wp2
      go_ret
      exact ⟨ret_bool (by rw [HR2.out]; rfl), B0⟩
    subst hkey
    go_wp2_with fail
    refine (HN.out _ B0).mono ?_
    rintro e w2 ⟨rfl, b2⟩
    have hx2 : w2.heap[w.heap.size]? = some (.cells #[.int .i64 area, .int .i64 1, .int .i64 owner, .int .i64 0, .int .i64 seq, .slice p1 ns.length c1, .int .i64 cost, .bool far] 55) := by rw [b2.block _ (by simp)]; exact NEW.out
    have f6 := cells_at hx2 6
    have f7 := cells_at hx2 7
    simp at f6 f7
    have B2 := B0.trans (b2.mono B0.size)
    clear hx2 b2 NEW B0
    cases qn
    · go_wp2
      go_ret
      exact ⟨ret_bool (by rw [HR2.out]; rfl), B2⟩
    by_cases hco : cost = 0
    case neg =>
      have hd : (cost == 0) = false := by simpa using hco
      rw [hd] at HR2
      go_wp2
      go_ret
      exact ⟨ret_bool (by rw [HR2.out]; rfl), B2⟩
    subst hco
    cases far
    · go_wp2
      go_ret
      exact ⟨ret_bool (by rw [HR2.out]; rfl), B2⟩
    · go_wp2
      go_ret
      exact ⟨ret_bool (by rw [HR2.out]; rfl), B2⟩
  have k1 : (kind == 1) = false := by simpa using hk1
  by_cases hk2 : kind = 2
  · subst hk2
    have HR2 := hide (show R = (inB area 0 2 && inB key 1 6 && ns.length == 0 && inB cost 0 60000 && !far) by have := HR.out; simpa using this)
    have H3 := hide (in_any area 0 2)
    obtain ⟨q3, hq3⟩ : ∃ q, q = inB area 0 2 := ⟨_, rfl⟩
    rw [← hq3] at H3 HR2
    have H4 := hide (in_any key 1 6)
    obtain ⟨q4, hq4⟩ : ∃ q, q = inB key 1 6 := ⟨_, rfl⟩
    rw [← hq4] at H4 HR2
    have H5 := hide (in_any cost 0 60000)
    obtain ⟨q5, hq5⟩ : ∃ q, q = inB cost 0 60000 := ⟨_, rfl⟩
    rw [← hq5] at H5 HR2
    clear hq3 hq4 hq5 HR hk1 k1
    go_wp2_with fail
    refine (H3.out _).mono ?_
    rintro e w1 ⟨rfl, rfl⟩
    cases q3
    · go_wp2
      go_ret
      exact ⟨ret_bool (by rw [HR2.out]; rfl), B0⟩
    go_wp2_with fail
    refine (H4.out _).mono ?_
    rintro e w1 ⟨rfl, rfl⟩
    cases q4
    · go_wp2
      go_ret
      exact ⟨ret_bool (by rw [HR2.out]; rfl), B0⟩
    by_cases hn0 : ns.length = 0
    case neg =>
      have hd : ((ns.length : Int) == 0) = false := by simp; intro h; rw [h] at hn0; exact hn0 rfl
      have hR2 : R = false := by rw [HR2.out, show (ns.length == 0) = false by simpa using hn0]; rfl
      have HR3 := hide hR2
      clear hR2 hn0 HR2
      go_wp2
      go_ret
      exact ⟨ret_bool HR3.out, B0⟩
    have hd : ((ns.length : Int) == 0) = true := by simp; exact List.length_eq_zero_iff.1 hn0
    have HR3 := hide (show R = (q5 && !far) by have := HR2.out; rw [show (ns.length == 0) = true by simpa using hn0] at this; simpa using this)
    clear hn0 HR2
    go_wp2_with fail
    refine (H5.out _).mono ?_
    rintro e w1 ⟨rfl, rfl⟩
    cases q5
    · go_wp2
      go_ret
      exact ⟨ret_bool (by rw [HR3.out]; rfl), B0⟩
    cases far
    · go_wp2
      go_ret
      exact ⟨ret_bool (by rw [HR3.out]; rfl), B0⟩
    · go_wp2
      go_ret
      exact ⟨ret_bool (by rw [HR3.out]; rfl), B0⟩
  have k2 : (kind == 2) = false := by simpa using hk2
  by_cases hk3 : kind = 3
  · subst hk3
    have HR2 := hide (show R = (area == 9 && inB key 1 9 && ns.length == 0 && (inB cost 1 1000 || cost == 60000)) by have := HR.out; simpa using this)
    have H4 := hide (in_any key 1 9)
    obtain ⟨q4, hq4⟩ : ∃ q, q = inB key 1 9 := ⟨_, rfl⟩
    rw [← hq4] at H4 HR2
    have H5 := hide (in_any cost 1 1000)
    obtain ⟨q5, hq5⟩ : ∃ q, q = inB cost 1 1000 := ⟨_, rfl⟩
    rw [← hq5] at H5 HR2
    clear hq4 hq5 HR hk1 k1 hk2 k2
    by_cases ha : area = 9
    case neg =>
      have hd : (area == 9) = false := by simpa using ha
      rw [hd] at HR2
      go_wp2
      go_ret
      exact ⟨ret_bool (by rw [HR2.out]; rfl), B0⟩
    subst ha
    go_wp2_with fail
    refine (H4.out _).mono ?_
    rintro e w1 ⟨rfl, rfl⟩
    cases q4
    · go_wp2
      go_ret
      exact ⟨ret_bool (by rw [HR2.out]; rfl), B0⟩
    by_cases hn0 : ns.length = 0
    case neg =>
      have hd : ((ns.length : Int) == 0) = false := by simp; intro h; rw [h] at hn0; exact hn0 rfl
      have hR2 : R = false := by rw [HR2.out, show (ns.length == 0) = false by simpa using hn0]; rfl
      have HR3 := hide hR2
      clear hR2 hn0 HR2
      go_wp2
      go_ret
      exact ⟨ret_bool HR3.out, B0⟩
    have hd : ((ns.length : Int) == 0) = true := by simp; exact List.length_eq_zero_iff.1 hn0
    have HR3 := hide (show R = (q5 || cost == 60000) by have := HR2.out; rw [show (ns.length == 0) = true by simpa using hn0] at this; simpa using this)
    clear hn0 HR2
    go_wp2_with fail
    refine (H5.out _).mono ?_
    rintro e w1 ⟨rfl, rfl⟩
    cases q5
    · go_wp2
      go_ret
      exact ⟨ret_bool (by rw [HR3.out]; rfl), B0⟩
    · go_wp2
      go_ret
      exact ⟨ret_bool (by rw [HR3.out]; rfl), B0⟩
  have k3 : (kind == 3) = false := by simpa using hk3
  have hR2 : R = false := by rw [HR.out, if_neg hk1, if_neg hk2, if_neg hk3]; rfl
  have HR2 := hide hR2
  clear hR2 HR hk1 hk2 hk3
  go_wp2
  go_ret
  exact ⟨ret_bool HR2.out, B0⟩
end Go.Proofs.Ytbknmgobmnjphaa
namespace Go.Proofs.Ytbknmgobmnjphaa
open Go.RowKit

end Go.Proofs.Ytbknmgobmnjphaa
namespace Go.Proofs.Ytbknmgobmnjphaa
open Go.RowKit

end Go.Proofs.Ytbknmgobmnjphaa
namespace Go.Proofs.Ytbknmgobmnjphaa
open Go.RowKit

def ordR (x y : RecD) : Int := cmpK (cmpN x.area y.area) (cmpN x.kind y.kind) (cmpN x.owner y.owner) (cmpN x.key y.key)

theorem ordR_neg (x y : RecD) : decide (ordR x y < 0) = beforeB x y := cmpK_neg x y

def storeB (xs : List RecD) : Bool := decide (xs.length ≤ 150) && allOk recOkB xs && ascB ordR xs

theorem store_long {xs : List RecD} (h : ¬ xs.length ≤ 150) : storeB xs = false := by unfold storeB; rw [decide_eq_false h]; rfl

theorem store_bad {xs : List RecD} {k : Nat} (hk : k < xs.length) (h : okAt recOkB xs k = false) : storeB xs = false := by unfold storeB allOk; rw [all_false hk h]; simp

end Go.Proofs.Ytbknmgobmnjphaa
namespace Go.Proofs.Ytbknmgobmnjphaa
open Go.RowKit

set_option linter.unusedSimpArgs false

/-- the links of an area, between nodes alone -/
def linkN (xs : List RecD) (area : Int) (u v : Nat) : Int := if (1 ≤ u ∧ u ≤ 6) ∧ (1 ≤ v ∧ v ≤ 6) then linkF xs area u v else 0

theorem linkT_pos {ns : List Nr} {bk : Int → Int} {v : Nat} (h : ∀ n ∈ ns, 1 ≤ n.c ∧ n.c ≤ 1000) : ∀ k, 0 ≤ linkT ns bk v k ∧ linkT ns bk v k ≤ 1000
  | 0 => by simp [linkT]
  | k + 1 => by
    have ih := linkT_pos (bk := bk) (v := v) h k
    cases e : ns[k]? with
    | none =>
      have : linkT ns bk v (k + 1) = linkT ns bk v k := by
        show (match ns[k]? with
          | some n => if n.to = (v : Int) ∧ inB n.to 1 6 = true ∧ 0 < bk n.to then n.c else linkT ns bk v k
          | none => linkT ns bk v k) = _
        rw [e]
      rw [this]; exact ih
    | some n =>
      rw [linkT_step bk v e]
      have := h n (List.mem_of_getElem? e)
      split
      · omega
      · exact ih

theorem allOk_mem {α : Type} {ok : α → Bool} {ls : List α} (h : allOk ok ls = true) {a : α} (ha : a ∈ ls) : ok a = true := by
  obtain ⟨k, hk, e⟩ := List.mem_iff_getElem.1 ha
  unfold allOk at h
  rw [List.all_eq_true] at h
  have := h k (by simpa using hk)
  unfold okAt at this
  rw [List.getElem?_eq_getElem hk, e] at this
  exact this

theorem recOk_nears {x : RecD} (h : recOkB x = true) : x.near = [] ∨ (x.kind = 1 ∧ nearsB x.owner x.near = true) := by
  unfold recOkB at h
  simp only [Bool.and_eq_true] at h
  have h2 := h.2
  split at h2
  · rename_i e
    simp only [Bool.and_eq_true] at h2
    exact .inr ⟨e, h2.1.1.2⟩
  · split at h2
    · simp only [Bool.and_eq_true, beq_iff_eq] at h2
      exact .inl (List.eq_nil_of_length_eq_zero h2.1.1.2)
    · split at h2
      · simp only [Bool.and_eq_true, beq_iff_eq] at h2
        exact .inl (List.eq_nil_of_length_eq_zero h2.1.2)
      · cases h2

theorem recOk_near_cost {x : RecD} (h : recOkB x = true) : ∀ n ∈ x.near, 1 ≤ n.c ∧ n.c ≤ 1000 := by
  intro n hn
  rcases recOk_nears h with e | ⟨_, e⟩
  · rw [e] at hn; cases hn
  · unfold nearsB at e
    simp only [Bool.and_eq_true] at e
    have := allOk_mem e.1 hn
    unfold nearOkB at this
    simp only [Bool.and_eq_true] at this
    exact inB_iff.1 this.2

theorem findD_mem {xs : List RecD} {r : RecD} : findD xs r ∈ xs ∨ findD xs r = zeroRD := by
  rcases atZ_cases xs r with hz | ⟨j, y, hz, hy, _⟩
  · exact .inr (find_none hz).1
  · rw [(find_at hz hy).1]; exact .inl (List.mem_of_getElem? hy)

theorem node_near {xs : List RecD} {area node : Int} (h : storeB xs = true) : ∀ n ∈ (nodeD xs area node).near, 1 ≤ n.c ∧ n.c ≤ 1000 := by
  intro n hn
  unfold nodeD at hn
  rcases findD_mem (xs := xs) (r := nodeR area node) with hm | he
  · unfold storeB at h
    simp only [Bool.and_eq_true] at h
    have hr := allOk_mem h.1.2 hm
    exact recOk_near_cost hr n hn
  · rw [he] at hn; cases hn

theorem linkN_links {xs : List RecD} {area : Int} (h : storeB xs = true) : Links (linkN xs area) 1000 := by
  refine ⟨fun u v => ?_, fun u v => ?_, fun u v hl => ?_⟩
  · unfold linkN; split
    · exact (linkT_pos (node_near h) _).1
    · omega
  · unfold linkN; split
    · exact (linkT_pos (node_near h) _).2
    · omega
  · unfold linkN at hl
    split at hl
    · rename_i e; exact e
    · omega

def costV (c : Nat → Int) (i : Nat) : Value := .int .i64 (if i = 0 then 0 else c i)

def doneV (F : Nat → Bool) (i : Nat) : Value := .bool (F i)

def upd {α : Type} (f : Nat → α) (v : Nat) (x : α) (i : Nat) : α := if i = v then x else f i

theorem upd_same {α : Type} (f : Nat → α) (v : Nat) (x : α) : upd f v x v = x := by simp [upd]

theorem upd_other {α : Type} (f : Nat → α) {v i : Nat} (x : α) (h : i ≠ v) : upd f v x i = f i := by simp [upd, h]

/-- the tables: links at g, costs at b, hops at b + 1, what is done at b + 2; the rows of hops lie behind -/
structure SSt (W : World) (g b : Nat) (o : Nat → Nat → Int) (F : Nat → Bool) (c : Nat → Int) (h : Nat → List Int) (hv : Nat → Value) : Prop where
  gb : g < b
  ln : W.heap[g]? = some (.cells (rowA (linkV o) 49) 3)
  cs : W.heap[b]? = some (.cells (rowA (costV c) 7) 3)
  hs : W.heap[b + 1]? = some (.cells (rowA hv 7) 39)
  ds : W.heap[b + 1 + 1]? = some (.cells (rowA (doneV F) 7) 4)
  rows : ∀ v, W.ownsRow (b + 3) 3 1 (hv v) (h v).length (flat intE (h v))
  short : ∀ v, (h v).length ≤ 6

theorem SSt.size {W : World} {g b : Nat} {o : Nat → Nat → Int} {F : Nat → Bool} {c : Nat → Int} {h : Nat → List Int} {hv : Nat → Value} (s : SSt W g b o F c h hv) : b + 3 ≤ W.heap.size := by
  have := lt_of_heap s.ds; omega

theorem SSt.below {W W' : World} {g b : Nat} {o : Nat → Nat → Int} {F : Nat → Bool} {c : Nat → Int} {h : Nat → List Int} {hv : Nat → Value} (s : SSt W g b o F c h hv) (hb : Below W.heap.size W W') : SSt W' g b o F c h hv :=
  ⟨s.gb, (hb.block _ (lt_of_heap s.ln)).trans s.ln, (hb.block _ (lt_of_heap s.cs)).trans s.cs, (hb.block _ (lt_of_heap s.hs)).trans s.hs, (hb.block _ (lt_of_heap s.ds)).trans s.ds, fun v => owns_below (s.rows v) hb (Nat.le_refl _), s.short⟩

theorem SSt.cost {W : World} {g b : Nat} {o : Nat → Nat → Int} {F : Nat → Bool} {c : Nat → Int} {h : Nat → List Int} {hv : Nat → Value} (s : SSt W g b o F c h hv) {v : Nat} (h1 : 1 ≤ v) (h6 : v ≤ 6) : W.cell? ⟨b, v, none⟩ = some (.int .i64 (c v)) := by
  rw [rowA_cell s.cs (by omega)]; unfold costV; rw [if_neg (by omega)]

theorem SSt.done {W : World} {g b : Nat} {o : Nat → Nat → Int} {F : Nat → Bool} {c : Nat → Int} {h : Nat → List Int} {hv : Nat → Value} (s : SSt W g b o F c h hv) {v : Nat} (h6 : v ≤ 6) : W.cell? ⟨b + 1 + 1, v, none⟩ = some (.bool (F v)) := by
  rw [rowA_cell s.ds (by omega)]; rfl

theorem SSt.hop {W : World} {g b : Nat} {o : Nat → Nat → Int} {F : Nat → Bool} {c : Nat → Int} {h : Nat → List Int} {hv : Nat → Value} (s : SSt W g b o F c h hv) {v : Nat} (h6 : v ≤ 6) : W.cell? ⟨b + 1, v, none⟩ = some (hv v) := rowA_cell s.hs (by omega)

theorem SSt.link {W : World} {g b : Nat} {o : Nat → Nat → Int} {F : Nat → Bool} {c : Nat → Int} {h : Nat → List Int} {hv : Nat → Value} (s : SSt W g b o F c h hv) {u v : Nat} (h5 : u ≤ 6) (h6 : v ≤ 6) : W.cell? ⟨g, u * 7 + v, none⟩ = some (.int .i64 (o u v)) := linkV_at s.ln h5 h6

theorem SSt.setC {W : World} {g b : Nat} {o : Nat → Nat → Int} {F : Nat → Bool} {c : Nat → Int} {h : Nat → List Int} {hv : Nat → Value} (s : SSt W g b o F c h hv) {v : Nat} (h1 : 1 ≤ v) (x : Int) : SSt (W.setCell ⟨b, v, none⟩ (.int .i64 x)) g b o F (upd c v x) h hv := by
  have hg := s.gb
  refine ⟨s.gb, (heap_setCell_other W ⟨b, v, none⟩ g _ (by show g ≠ b; omega)).trans s.ln, ?_, (heap_setCell_other W ⟨b, v, none⟩ (b + 1) _ (by show b + 1 ≠ b; omega)).trans s.hs, (heap_setCell_other W ⟨b, v, none⟩ (b + 1 + 1) _ (by show b + 1 + 1 ≠ b; omega)).trans s.ds, fun u => owns_set (s.rows u) (by omega), s.short⟩
  rw [rowA_put s.cs, rowA_congr (fun i _ => ?_)]
  unfold costV upd
  by_cases e : i = v
  · subst e; rw [if_pos rfl, if_neg (by omega), if_pos rfl]
  · rw [if_neg e]; simp [e]

theorem SSt.setD {W : World} {g b : Nat} {o : Nat → Nat → Int} {F : Nat → Bool} {c : Nat → Int} {h : Nat → List Int} {hv : Nat → Value} (s : SSt W g b o F c h hv) (v : Nat) : SSt (W.setCell ⟨b + 1 + 1, v, none⟩ (.bool true)) g b o (fun x => F x || x == v) c h hv := by
  have hg := s.gb
  refine ⟨s.gb, (heap_setCell_other W ⟨b + 1 + 1, v, none⟩ g _ (by show g ≠ b + 1 + 1; omega)).trans s.ln, (heap_setCell_other W ⟨b + 1 + 1, v, none⟩ b _ (by show b ≠ b + 1 + 1; omega)).trans s.cs, (heap_setCell_other W ⟨b + 1 + 1, v, none⟩ (b + 1) _ (by show b + 1 ≠ b + 1 + 1; omega)).trans s.hs, ?_, fun u => owns_set (s.rows u) (by omega), s.short⟩
  rw [rowA_put s.ds, rowA_congr (fun i _ => ?_)]
  unfold doneV
  by_cases e : i = v
  · subst e; simp
  · simp [e]

theorem SSt.setH {W : World} {g b : Nat} {o : Nat → Nat → Int} {F : Nat → Bool} {c : Nat → Int} {h : Nat → List Int} {hv : Nat → Value} (s : SSt W g b o F c h hv) (v : Nat) {x : Value} {l : List Int} (hx : W.ownsRow (b + 3) 3 1 x l.length (flat intE l)) (hl : l.length ≤ 6) : SSt (W.setCell ⟨b + 1, v, none⟩ x) g b o F c (upd h v l) (upd hv v x) := by
  have hg := s.gb
  refine ⟨s.gb, (heap_setCell_other W ⟨b + 1, v, none⟩ g _ (by show g ≠ b + 1; omega)).trans s.ln, (heap_setCell_other W ⟨b + 1, v, none⟩ b _ (by show b ≠ b + 1; omega)).trans s.cs, ?_, (heap_setCell_other W ⟨b + 1, v, none⟩ (b + 1 + 1) _ (by show b + 1 + 1 ≠ b + 1; omega)).trans s.ds, fun u => ?_, fun u => ?_⟩
  · rw [rowA_put s.hs]; rfl
  · unfold upd
    by_cases e : u = v
    · rw [if_pos e, if_pos e]; exact owns_set hx (by omega)
    · rw [if_neg e, if_neg e]; exact owns_set (s.rows u) (by omega)
  · unfold upd
    by_cases e : u = v
    · rw [if_pos e]; exact hl
    · rw [if_neg e]; exact s.short u

theorem SSt.congr {W : World} {g b : Nat} {o : Nat → Nat → Int} {F : Nat → Bool} {c d : Nat → Int} {h : Nat → List Int} {hv : Nat → Value} (s : SSt W g b o F c h hv) (hc : ∀ v, 1 ≤ v → v ≤ 6 → d v = c v) : SSt W g b o F d h hv := by
  refine ⟨s.gb, s.ln, ?_, s.hs, s.ds, s.rows, s.short⟩
  rw [s.cs, rowA_congr (fun i hi => ?_)]
  unfold costV
  by_cases e : i = 0
  · rw [if_pos e, if_pos e]
  · rw [if_neg e, if_neg e, hc i (by omega) (by omega)]

theorem SSt.start {W : World} {g : Nat} {o : Nat → Nat → Int} (hg : W.heap[g]? = some (.cells (rowA (linkV o) 49) 3)) :
    SSt (((W.alloc (.cells (rowA (fun _ => .int .i64 0) 7) 3)).alloc (.cells (rowA (fun _ => .slice none 0 0) 7) 39)).alloc (.cells (rowA (fun _ => .bool false) 7) 4)) g W.heap.size o (fun _ => false) (fun _ => 0) (fun _ => []) (fun _ => .slice none 0 0) := by
  have hlt := lt_of_heap hg
  refine ⟨hlt, ?_, ?_, ?_, ?_, fun v => World.ownsRow_nil _ _ _ _, by simp⟩
  · rw [Below.heap_alloc _ _ _ (by simp; omega), Below.heap_alloc _ _ _ (by simp; omega), Below.heap_alloc _ _ _ hlt]; exact hg
  · rw [Below.heap_alloc _ _ _ (by simp; omega), Below.heap_alloc _ _ _ (by simp), heap_alloc_new, rowA_congr (fun i _ => ?_)]
    unfold costV; simp
  · rw [Below.heap_alloc _ _ _ (by simp)]
    have e := heap_alloc_new (W.alloc (.cells (rowA (fun _ => .int .i64 0) 7) 3)) (.cells (rowA (fun _ => .slice none 0 0) 7) 39)
    rw [show (W.alloc (.cells (rowA (fun _ => .int .i64 0) 7) 3)).heap.size = W.heap.size + 1 by simp] at e
    exact e
  · have e := heap_alloc_new ((W.alloc (.cells (rowA (fun _ => .int .i64 0) 7) 3)).alloc (.cells (rowA (fun _ => .slice none 0 0) 7) 39)) (.cells (rowA (fun _ => .bool false) 7) 4)
    rw [show ((W.alloc (.cells (rowA (fun _ => .int .i64 0) 7) 3)).alloc (.cells (rowA (fun _ => .slice none 0 0) 7) 39)).heap.size = W.heap.size + 1 + 1 by simp] at e
    exact e

theorem addT_mem (a b : List Int) (x : Int) : ∀ k : Nat, x ∈ addT a b k ↔ (1 ≤ x ∧ x ≤ (k : Int) ∧ (x ∈ a ∨ x ∈ b))
  | 0 => by simp [addT]; omega
  | k + 1 => by
    unfold addT
    rw [List.mem_append, addT_mem a b x k]
    by_cases e : (k : Int) + 1 ∈ a ∨ (k : Int) + 1 ∈ b
    · rw [if_pos e]
      simp only [List.mem_singleton]
      constructor
      · rintro (⟨h1, h2, h3⟩ | rfl)
        · exact ⟨h1, by omega, h3⟩
        · exact ⟨by omega, by omega, e⟩
      · rintro ⟨h1, h2, h3⟩
        by_cases e2 : x = (k : Int) + 1
        · exact .inr e2
        · exact .inl ⟨h1, by omega, h3⟩
    · rw [if_neg e]
      simp only [List.not_mem_nil, or_false]
      constructor
      · rintro ⟨h1, h2, h3⟩; exact ⟨h1, by omega, h3⟩
      · rintro ⟨h1, h2, h3⟩
        refine ⟨h1, ?_, h3⟩
        by_cases e2 : x = (k : Int) + 1
        · subst e2; exact absurd h3 e
        · omega

theorem addT_asc (a b : List Int) : ∀ k : Nat, (addT a b k).Pairwise (· < ·)
  | 0 => by simp [addT]
  | k + 1 => by
    unfold addT
    rw [List.pairwise_append]
    refine ⟨addT_asc a b k, by split <;> simp, ?_⟩
    intro x hx y hy
    have h1 := (addT_mem a b x k).1 hx
    split at hy
    · simp at hy; omega
    · cases hy

theorem addL_mem {a b : List Int} {x : Int} : x ∈ addL a b ↔ (1 ≤ x ∧ x ≤ 6 ∧ (x ∈ a ∨ x ∈ b)) := addT_mem a b x 6

theorem addL_asc (a b : List Int) : (addL a b).Pairwise (· < ·) := addT_asc a b 6

theorem addL_len6 (a b : List Int) : (addL a b).length ≤ 6 := addT_len a b 6

/-- the hops of the way over u -/
def wayL (src : Nat) (h : Nat → List Int) (u v : Nat) : List Int := if u = src then [(v : Int)] else h u

theorem wayL_mem {src : Nat} {h : Nat → List Int} {u v : Nat} {x : Int} : x ∈ wayL src h u v ↔ OverHop src h u v x := by
  unfold wayL OverHop
  by_cases e : u = src
  · rw [if_pos e]; simp [e]
  · rw [if_neg e]; simp [e]

def relaxL (L : Nat → Nat → Int) (src : Nat) (c : Nat → Int) (h : Nat → List Int) (u v : Nat) : List Int :=
  if 0 < L u v then (if c v < 0 ∨ c u + L u v < c v then addL [] (wayL src h u v) else if c u + L u v = c v then addL (h v) (wayL src h u v) else h v) else h v

theorem relaxL_spec {L : Nat → Nat → Int} {K : Int} {src : Nat} {F : Nat → Bool} {c : Nat → Int} {h : Nat → List Int} (I : Inv L src F c h) (hL : Links L K) {u : Nat} (hu : 0 ≤ c u) (v : Nat) : RelaxH L src c h u v (relaxL L src c h u v) := by
  have hrng : ∀ x, 0 < L u v → OverHop src h u v x → 1 ≤ x ∧ x ≤ 6 := by
    intro x hl ho
    rcases ho with ⟨_, rfl⟩ | ⟨_, h2⟩
    · have := (hL.node u v hl).2; unfold IsNode at this; omega
    · exact I.rng u x h2
  have hneg : c v < 0 → ∀ x, x ∉ h v := by
    intro hc x hx
    by_cases e : v = src
    · subst e; rw [I.start0] at hx; cases hx
    · have := ((I.hop v e x).1 hx).1; omega
  unfold relaxL
  by_cases h1 : 0 < L u v
  · rw [if_pos h1]
    by_cases h2 : c v < 0 ∨ c u + L u v < c v
    · rw [if_pos h2]
      have e : relaxC L c u v = c u + L u v := by unfold relaxC; rw [if_pos ⟨h1, h2⟩]
      refine ⟨addL_asc _ _, fun x => ?_⟩
      rw [addL_mem, e, wayL_mem]
      constructor
      · rintro ⟨_, _, h5 | h5⟩
        · cases h5
        · exact .inr ⟨h1, rfl, h5⟩
      · rintro (⟨h5, h6⟩ | ⟨_, _, h5⟩)
        · omega
        · have := hrng x h1 h5; exact ⟨this.1, this.2, .inr h5⟩
    · rw [if_neg h2]
      have e : relaxC L c u v = c v := by unfold relaxC; rw [if_neg (fun hc => h2 hc.2)]
      by_cases h3 : c u + L u v = c v
      · rw [if_pos h3]
        refine ⟨addL_asc _ _, fun x => ?_⟩
        rw [addL_mem, e, wayL_mem]
        constructor
        · rintro ⟨_, _, h5 | h5⟩
          · exact .inl ⟨h5, rfl⟩
          · exact .inr ⟨h1, h3.symm, h5⟩
        · rintro (⟨h5, _⟩ | ⟨_, _, h5⟩)
          · have := I.rng v x h5; exact ⟨this.1, this.2, .inl h5⟩
          · have := hrng x h1 h5; exact ⟨this.1, this.2, .inr h5⟩
      · rw [if_neg h3]
        refine ⟨I.asc v, fun x => ?_⟩
        rw [e]
        constructor
        · intro h5; exact .inl ⟨h5, rfl⟩
        · rintro (⟨h5, _⟩ | ⟨_, h6, _⟩)
          · exact h5
          · omega
  · rw [if_neg h1]
    have e : relaxC L c u v = c v := by unfold relaxC; rw [if_neg (fun hc => h1 hc.1)]
    refine ⟨I.asc v, fun x => ?_⟩
    rw [e]
    constructor
    · intro h5; exact .inl ⟨h5, rfl⟩
    · rintro (⟨h5, _⟩ | ⟨h6, _⟩)
      · exact h5
      · exact absurd h6 h1

/-- costs behind going on to the nodes below j -/
def mixC (L : Nat → Nat → Int) (c : Nat → Int) (u j v : Nat) : Int := if v < j then relaxC L c u v else c v

def mixH (L : Nat → Nat → Int) (src : Nat) (c : Nat → Int) (h : Nat → List Int) (u j v : Nat) : List Int := if v < j then relaxL L src c h u v else h v

theorem mixC_one {L : Nat → Nat → Int} {K : Int} (hL : Links L K) (c : Nat → Int) (u : Nat) : mixC L c u 1 = c := by
  funext v
  unfold mixC
  by_cases e : v < 1
  · rw [if_pos e]
    unfold relaxC
    rw [if_neg (fun hc => by have := (hL.node u v hc.1).2; unfold IsNode at this; omega)]
  · rw [if_neg e]

theorem mixH_one {L : Nat → Nat → Int} {K : Int} (hL : Links L K) (src : Nat) (c : Nat → Int) (h : Nat → List Int) (u : Nat) : mixH L src c h u 1 = h := by
  funext v
  unfold mixH
  by_cases e : v < 1
  · rw [if_pos e]
    unfold relaxL
    rw [if_neg (fun hc => by have := (hL.node u v hc).2; unfold IsNode at this; omega)]
  · rw [if_neg e]

theorem mixC_step (L : Nat → Nat → Int) (c : Nat → Int) (u j : Nat) : mixC L c u (j + 1) = upd (mixC L c u j) j (relaxC L c u j) := by
  funext v
  unfold upd
  show (if v < j + 1 then relaxC L c u v else c v) = if v = j then relaxC L c u j else if v < j then relaxC L c u v else c v
  by_cases e : v = j
  · rw [if_pos (by omega), if_pos e, e]
  · rw [if_neg e]
    by_cases e2 : v < j
    · rw [if_pos e2, if_pos (by omega)]
    · rw [if_neg e2, if_neg (by omega)]

theorem mixH_step (L : Nat → Nat → Int) (src : Nat) (c : Nat → Int) (h : Nat → List Int) (u j : Nat) : mixH L src c h u (j + 1) = upd (mixH L src c h u j) j (relaxL L src c h u j) := by
  funext v
  unfold upd
  show (if v < j + 1 then relaxL L src c h u v else h v) = if v = j then relaxL L src c h u j else if v < j then relaxL L src c h u v else h v
  by_cases e : v = j
  · rw [if_pos (by omega), if_pos e, e]
  · rw [if_neg e]
    by_cases e2 : v < j
    · rw [if_pos e2, if_pos (by omega)]
    · rw [if_neg e2, if_neg (by omega)]

theorem mixC_next {L : Nat → Nat → Int} {c : Nat → Int} {u j : Nat} : mixC L c u j j = c j := by
  unfold mixC; rw [if_neg (by omega)]

theorem mixH_next {L : Nat → Nat → Int} {src : Nat} {c : Nat → Int} {h : Nat → List Int} {u j : Nat} : mixH L src c h u j j = h j := by
  unfold mixH; rw [if_neg (by omega)]

theorem upd_id {α : Type} (f : Nat → α) (v : Nat) : upd f v (f v) = f := by
  funext i
  unfold upd
  by_cases e : i = v
  · rw [if_pos e, e]
  · rw [if_neg e]

theorem mixC_keep {L : Nat → Nat → Int} {c : Nat → Int} {u j : Nat} (e : relaxC L c u j = c j) : mixC L c u (j + 1) = mixC L c u j := by
  rw [mixC_step, e, ← mixC_next (L := L) (c := c) (u := u) (j := j), upd_id]

theorem mixH_keep {L : Nat → Nat → Int} {src : Nat} {c : Nat → Int} {h : Nat → List Int} {u j : Nat} (e : relaxL L src c h u j = h j) : mixH L src c h u (j + 1) = mixH L src c h u j := by
  rw [mixH_step, e, ← mixH_next (L := L) (src := src) (c := c) (h := h) (u := u) (j := j), upd_id]

theorem mixC_all {L : Nat → Nat → Int} {K : Int} (hL : Links L K) (c : Nat → Int) (u : Nat) : mixC L c u 7 = fun v => relaxC L c u v := by
  funext v
  unfold mixC
  by_cases e : v < 7
  · rw [if_pos e]
  · rw [if_neg e]
    unfold relaxC
    rw [if_neg (fun hc => by have := (hL.node u v hc.1).2; unfold IsNode at this; omega)]

theorem mixH_all {L : Nat → Nat → Int} {K : Int} (hL : Links L K) (src : Nat) (c : Nat → Int) (h : Nat → List Int) (u : Nat) : mixH L src c h u 7 = fun v => relaxL L src c h u v := by
  funext v
  unfold mixH
  by_cases e : v < 7
  · rw [if_pos e]
  · rw [if_neg e]
    unfold relaxL
    rw [if_neg (fun hc => by have := (hL.node u v hc).2; unfold IsNode at this; omega)]

theorem relaxL_none {L : Nat → Nat → Int} {src : Nat} {c : Nat → Int} {h : Nat → List Int} {u v : Nat} (e : ¬ 0 < L u v) : relaxL L src c h u v = h v ∧ relaxC L c u v = c v := by
  unfold relaxL relaxC
  rw [if_neg e, if_neg (fun hc => e hc.1)]
  exact ⟨rfl, rfl⟩

theorem relaxL_dear {L : Nat → Nat → Int} {src : Nat} {c : Nat → Int} {h : Nat → List Int} {u v : Nat} (h0 : 0 ≤ c v) (e : c v < c u + L u v) : relaxL L src c h u v = h v ∧ relaxC L c u v = c v := by
  unfold relaxL relaxC
  constructor
  · split
    · rw [if_neg (by omega), if_neg (by omega)]
    · rfl
  · rw [if_neg (by omega)]

theorem relaxL_less {L : Nat → Nat → Int} {src : Nat} {c : Nat → Int} {h : Nat → List Int} {u v : Nat} (hl : 0 < L u v) (e : c v < 0 ∨ c u + L u v < c v) : relaxL L src c h u v = addL [] (wayL src h u v) ∧ relaxC L c u v = c u + L u v := by
  unfold relaxL relaxC
  rw [if_pos hl, if_pos e, if_pos ⟨hl, e⟩]
  exact ⟨rfl, rfl⟩

theorem relaxL_like {L : Nat → Nat → Int} {src : Nat} {c : Nat → Int} {h : Nat → List Int} {u v : Nat} (hl : 0 < L u v) (h0 : 0 ≤ c v) (e : c u + L u v = c v) : relaxL L src c h u v = addL (h v) (wayL src h u v) ∧ relaxC L c u v = c v := by
  unfold relaxL relaxC
  rw [if_pos hl, if_neg (by omega), if_pos e, if_neg (by omega)]
  exact ⟨rfl, rfl⟩
end Go.Proofs.Ytbknmgobmnjphaa
namespace Go.Proofs.Ytbknmgobmnjphaa
open Go.RowKit

set_option linter.unusedSimpArgs false

/-- a node's record of an area, whatever its key -/
def nodeM (area owner : Int) (x : RecD) : Bool := x.area == area && x.kind == 1 && x.owner == owner

def plN (xs : List RecD) (area owner : Int) : Option Nat := xs.findIdx? (nodeM area owner)

/-- what one end tells of a link, and whether it does -/
def toldD (xs : List RecD) (area owner to : Int) : Option Int := match plN xs area owner with
  | some k => match xs[k]? with
    | some x => (x.near.find? (fun n => n.to == to)).map (·.c)
    | none => none
  | none => none

theorem plN_at {xs : List RecD} {area owner : Int} {k : Nat} (h : plN xs area owner = some k) : ∃ x, xs[k]? = some x ∧ nodeM area owner x = true ∧ ∀ j, j < k → ∀ y, xs[j]? = some y → nodeM area owner y = false := by
  unfold plN at h
  obtain ⟨h1, h2, h3⟩ := List.findIdx?_eq_some_iff_getElem.1 h
  refine ⟨xs[k], List.getElem?_eq_getElem h1, h2, fun j hj y hy => ?_⟩
  have h4 := h3 j hj
  rw [List.getElem?_eq_getElem (by omega)] at hy
  cases hy
  simpa using h4

def linkedI (xs : List RecD) (area a b : Int) : Int := match toldD xs area b a with
  | some _ => match toldD xs area a b with
    | some c => c
    | none => 0
  | none => 0

end Go.Proofs.Ytbknmgobmnjphaa
namespace Go.Proofs.Ytbknmgobmnjphaa
open Go.RowKit

theorem recOk_node {x : RecD} (h : recOkB x = true) (hk : x.kind = 1) : x.key = 0 := by
  unfold recOkB at h
  simp only [Bool.and_eq_true] at h
  have h2 := h.2
  rw [if_pos hk] at h2
  simp only [Bool.and_eq_true, beq_iff_eq] at h2
  exact h2.1.1.1.2

theorem store_mem {xs : List RecD} (h : storeB xs = true) {x : RecD} (hx : x ∈ xs) : recOkB x = true := by
  unfold storeB at h
  simp only [Bool.and_eq_true] at h
  exact allOk_mem h.1.2 hx

/-- in a right store a node's record is found by its key -/
theorem nodeM_key {xs : List RecD} (h : storeB xs = true) {area owner : Int} {x : RecD} (hx : x ∈ xs) : nodeM area owner x = sameKeyB x (nodeR area owner) := by
  have hok := store_mem h hx
  unfold nodeM sameKeyB nodeR
  by_cases hk : x.kind = 1
  · have := recOk_node hok hk
    simp [this]
  · have hb : (x.kind == 1) = false := by simpa using hk
    simp [hb]

theorem plN_right {xs : List RecD} (h : storeB xs = true) (area owner : Int) : plN xs area owner = xs.findIdx? (fun x => sameKeyB x (nodeR area owner)) := by
  unfold plN
  cases e : xs.findIdx? (nodeM area owner) with
  | none =>
    rw [List.findIdx?_eq_none_iff] at e
    rw [Eq.comm, List.findIdx?_eq_none_iff]
    intro x hx
    rw [← nodeM_key h hx]
    exact e x hx
  | some k =>
    obtain ⟨h1, h2, h3⟩ := List.findIdx?_eq_some_iff_getElem.1 e
    rw [Eq.comm, List.findIdx?_eq_some_iff_getElem]
    refine ⟨h1, ?_, fun j hj => ?_⟩
    · rw [← nodeM_key h (List.getElem_mem _)]; exact h2
    · rw [← nodeM_key h (List.getElem_mem _)]; exact h3 j hj

theorem told_right {xs : List RecD} (h : storeB xs = true) (area owner to : Int) : toldD xs area owner to = ((nodeD xs area owner).near.find? (fun n => n.to == to)).map (·.c) := by
  unfold toldD nodeD findD atZ
  rw [← plN_right h]
  cases e : plN xs area owner with
  | none => rfl
  | some k =>
    obtain ⟨x, hx, _, _⟩ := plN_at e
    show (match xs[k]? with
      | some x => (x.near.find? (fun (n : Nr) => n.to == to)).map (fun (n : Nr) => n.c)
      | none => none) = _
    rw [hx]
    show _ = (((if ((k : Int) < 0) then zeroRD else xs.getD ((k : Int)).toNat zeroRD).near.find? (fun (n : Nr) => n.to == to)).map (fun (n : Nr) => n.c))
    rw [if_neg (by omega)]
    simp [hx]

def AscN (ns : List Nr) : Prop := ∀ (i j : Nat) (a b : Nr), i < j → ns[i]? = some a → ns[j]? = some b → a.to < b.to

theorem nearsB_asc {o : Int} {ns : List Nr} (h : nearsB o ns = true) : AscN ns := by
  unfold nearsB at h
  simp only [Bool.and_eq_true] at h
  have hasc := h.2
  unfold ascB at hasc
  rw [List.all_eq_true] at hasc
  have step : ∀ (j : Nat) (a b : Nr), ns[j]? = some a → ns[j + 1]? = some b → a.to < b.to := by
    intro j a b ha hb
    have hj : j + 1 < ns.length := (List.getElem?_eq_some_iff.1 hb).1
    have := hasc (j + 1) (by simpa using hj)
    unfold ascAt at this
    simp only [ha, hb] at this
    unfold ordN at this
    simp at this
    omega
  intro i j a b hij
  induction j generalizing b with
  | zero => omega
  | succ j ih =>
    intro ha hb
    have hj : j + 1 < ns.length := (List.getElem?_eq_some_iff.1 hb).1
    obtain ⟨m, hm⟩ : ∃ m, ns[j]? = some m := ⟨ns[j]'(by omega), List.getElem?_eq_getElem (by omega)⟩
    have s := step j m b hm hb
    by_cases e : i = j
    · subst e
      rw [ha] at hm
      cases hm
      exact s
    · have := ih m (by omega) ha hm; omega

/-- the table's entry, of neighbours that ascend -/
theorem linkT_find {ns : List Nr} {bk : Int → Int} {v : Nat} (hv : 1 ≤ v ∧ v ≤ 6) (hasc : AscN ns) : ∀ k, k ≤ ns.length → linkT ns bk v k = (if 0 < bk (v : Int) then (((ns.take k).find? (fun n => n.to == (v : Int))).map (·.c)).getD 0 else 0) := by
  intro k
  induction k with
  | zero => intro _; simp [linkT]
  | succ k ih =>
    intro hk
    have hlt : k < ns.length := by omega
    rw [linkT_step bk v (List.getElem?_eq_getElem hlt), ih (by omega), List.take_succ_eq_append_getElem hlt, List.find?_append]
    by_cases e : ns[k].to = (v : Int)
    · by_cases hb : 0 < bk (v : Int)
      · rw [if_pos ⟨e, by rw [e]; exact inB_iff.2 (by omega), by rw [e]; exact hb⟩, if_pos hb]
        have hno : (ns.take k).find? (fun n => n.to == (v : Int)) = none := by
          rw [List.find?_eq_none]
          intro x hx
          obtain ⟨i, hi, e2⟩ := List.mem_iff_getElem.1 hx
          rw [List.length_take] at hi
          rw [List.getElem_take] at e2
          have := hasc i k x ns[k] (by omega) (by rw [List.getElem?_eq_getElem (by omega), e2]) (List.getElem?_eq_getElem hlt)
          simp
          omega
        rw [hno]
        simp [e]
      · rw [if_neg (fun hc => by rw [e] at hc; exact hb hc.2.2), if_neg hb, if_neg hb]
    · rw [if_neg (fun hc => e hc.1)]
      have e2 : (ns[k].to == (v : Int)) = false := by simpa using e
      simp [e2]

theorem linked_right {xs : List RecD} (h : storeB xs = true) (area : Int) {u v : Nat} (hu : 1 ≤ u ∧ u ≤ 6) (hv : 1 ≤ v ∧ v ≤ 6) : linkedI xs area (u : Int) (v : Int) = linkN xs area u v := by
  unfold linkedI linkN
  rw [if_pos ⟨hu, hv⟩, told_right h, told_right h]
  unfold linkF
  have hasc : AscN (nodeD xs area (u : Int)).near := by
    unfold nodeD
    rcases findD_mem (xs := xs) (r := nodeR area (u : Int)) with hm | he
    · rcases recOk_nears (store_mem h hm) with e | ⟨_, e⟩
      · rw [e]; intro i j a b _ ha _; simp at ha
      · exact nearsB_asc e
    · rw [he]; intro i j a b _ ha _; simp [zeroRD] at ha
  rw [linkT_find hv hasc _ (Nat.le_refl _), List.take_length]
  have hback : ∀ c, ((nodeD xs area (v : Int)).near.find? (fun n => n.to == (u : Int))).map (·.c) = some c → 0 < c := by
    intro c hc
    obtain ⟨n, hn, rfl⟩ := Option.map_eq_some_iff.1 hc
    have := node_near (area := area) (node := (v : Int)) h n (List.mem_of_find?_eq_some hn)
    omega
  have htell : tellsD xs area (v : Int) (u : Int) = (((nodeD xs area (v : Int)).near.find? (fun n => n.to == (u : Int))).map (·.c)).getD 0 := by
    unfold tellsD tellsN
    cases (nodeD xs area (v : Int)).near.find? (fun n => n.to == (u : Int)) <;> rfl
  cases e : ((nodeD xs area (v : Int)).near.find? (fun n => n.to == (u : Int))).map (·.c) with
  | none =>
    rw [if_neg (by rw [htell, e]; simp)]
  | some c =>
    rw [if_pos (by rw [htell, e]; exact hback c e)]
    cases ((nodeD xs area (u : Int)).near.find? (fun n => n.to == (v : Int))) <;> rfl
end Go.Proofs.Ytbknmgobmnjphaa
