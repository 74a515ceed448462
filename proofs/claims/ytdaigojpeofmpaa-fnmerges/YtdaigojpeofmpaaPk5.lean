/-
  spec.RecordOk: its contract.
  spec.l04Record: some right record.
  laws.markNearS, heldNearS, markRecord, heldRecord: only the row's own memory turns; what was marked is held.
-/
import Derived.Test.YtdaigojpeofmpaaPk4
import Derived.Test.YtdaigojpeofmpaaPk3
import Derived.Test.YtdaigojpeofmpaaPk2
namespace Go.Proofs.Ytdaigojpeofmpaa
open Go.RowKit

def recOkB (x : RecD) : Bool := inB x.owner 1 6 && inB x.seq 1 100000 &&
  (if x.kind = 1 then inB x.area 0 2 && x.key == 0 && nearsB x.owner x.near && x.cost == 0 && !x.far
   else if x.kind = 2 then inB x.area 0 2 && inB x.key 1 6 && x.near.length == 0 && inB x.cost 0 60000 && !x.far
   else if x.kind = 3 then x.area == 9 && inB x.key 1 9 && x.near.length == 0 && (inB x.cost 1 1000 || x.cost == 60000)
   else false)

set_option maxRecDepth 100000 in
set_option maxHeartbeats 8000000 in
theorem srecOk_any (v1 : Value) (x : RecD) (w : World) (hl : x.near.length ≤ 1048576) (hv : NearsAt w v1 x.near w.heap.size) :
    Calls Try.prog 62 #[.agg (recC x v1)] w fun e w' => e = .returned (.bool (recOkB x)) ∧ Below w.heap.size w w' := by
  obtain ⟨p1, c1, rfl⟩ := hv.shape
  have HN := hide (fun W (h : Below w.heap.size w W) => snear_any (.slice p1 x.near.length c1) x W hl (hv.then h))
  obtain ⟨R, hR⟩ : ∃ R, R = recOkB x := ⟨_, rfl⟩
  rw [← hR]
  obtain ⟨qn, hqn⟩ : ∃ q, q = nearsB x.owner x.near := ⟨_, rfl⟩
  rw [← hqn] at HN
  unfold recOkB at hR
  rw [← hqn] at hR
  obtain ⟨area, kind, owner, key, seq, ns, cost, far⟩ := x
  unfold recC at HN ⊢
  simp only [] at HN hR hl hv ⊢
  have hnew := heap_alloc_new w (.cells #[.int .i64 area, .int .i64 kind, .int .i64 owner, .int .i64 key, .int .i64 seq, .slice p1 ns.length c1, .int .i64 cost, .bool far] 56)
  have B0 : Below w.heap.size w (w.alloc (.cells #[.int .i64 area, .int .i64 kind, .int .i64 owner, .int .i64 key, .int .i64 seq, .slice p1 ns.length c1, .int .i64 cost, .bool far] 56)) := (Below.refl _ _).alloc (Nat.le_refl _) _
  have H1 := hide (in_any owner 1 6)
  have H2 := hide (in_any seq 1 100000)
  obtain ⟨q1, hq1⟩ : ∃ q, q = inB owner 1 6 := ⟨_, rfl⟩
  obtain ⟨q2, hq2⟩ : ∃ q, q = inB seq 1 100000 := ⟨_, rfl⟩
  rw [← hq1] at H1 hR
  rw [← hq2] at H2 hR
  have NEW := hide hnew
  have HR := hide hR
  have HL := hide hl
  clear hnew hR hq1 hq2 hqn hv hl
  go_enter Try.func62, Try.ntmps62
  go_wp2_with fail
  refine (H1.out _).mono ?_
  rintro e w1 ⟨rfl, rfl⟩
  cases q1
  · go_wp2
    go_ret
    exact ⟨ret_bool (by rw [HR.out]; rfl), B0⟩
  go_wp2_with fail
  refine (H2.out _).mono ?_
  rintro e w1 ⟨rfl, rfl⟩
  cases q2
  · go_wp2
    go_ret
    exact ⟨ret_bool (by rw [HR.out]; rfl), B0⟩
  clear H1 H2
  by_cases hk1 : kind = 1
  · subst hk1
    have HR2 := hide (show R = (inB area 0 2 && key == 0 && qn && cost == 0 && !far) by have := HR.out; simpa using this)
    have H3 := hide (in_any area 0 2)
    obtain ⟨q3, hq3⟩ : ∃ q, q = inB area 0 2 := ⟨_, rfl⟩
    rw [← hq3] at H3 HR2
    clear hq3 HR
    go_wp2_with fail
    refine (H3.out _).mono ?_
    rintro e w1 ⟨rfl, rfl⟩
    cases q3
    · go_wp2
      go_ret
      exact ⟨ret_bool (by rw [HR2.out]; rfl), B0⟩
    by_cases hkey : key = 0
    case neg =>
      have hd : (key == 0) = false := by simpa using hkey
      rw [hd] at HR2
      go_wp2
      go_ret
      exact ⟨ret_bool (by rw [HR2.out]; rfl), B0⟩
    subst hkey
    go_wp2_with fail
    refine (HN.out _ B0).mono ?_
    rintro e w2 ⟨rfl, b2⟩
    have hx2 : w2.heap[w.heap.size]? = some (.cells #[.int .i64 area, .int .i64 1, .int .i64 owner, .int .i64 0, .int .i64 seq, .slice p1 ns.length c1, .int .i64 cost, .bool far] 56) := by rw [b2.block _ (by simp)]; exact NEW.out
    have f6 := cells_at hx2 6
    have f7 := cells_at hx2 7
    simp at f6 f7
    have B2 := B0.trans (b2.mono B0.size)
    clear hx2 b2 NEW B0
    cases qn
    · go_wp2
      go_ret
      exact ⟨ret_bool (by rw [HR2.out]; rfl), B2⟩
    by_cases hco : cost = 0
    case neg =>
      have hd : (cost == 0) = false := by simpa using hco
      rw [hd] at HR2
      go_wp2
      go_ret
      exact ⟨ret_bool (by rw [HR2.out]; rfl), B2⟩
    subst hco
    cases far
    · go_wp2
      go_ret
      exact ⟨ret_bool (by rw [HR2.out]; rfl), B2⟩
    · go_wp2
      go_ret
      exact ⟨ret_bool (by rw [HR2.out]; rfl), B2⟩
  have k1 : (kind == 1) = false := by simpa using hk1
  by_cases hk2 : kind = 2
  · subst hk2
    have HR2 := hide (show R = (inB area 0 2 && inB key 1 6 && ns.length == 0 && inB cost 0 60000 && !far) by have := HR.out; simpa using this)
    have H3 := hide (in_any area 0 2)
    obtain ⟨q3, hq3⟩ : ∃ q, q = inB area 0 2 := ⟨_, rfl⟩
    rw [← hq3] at H3 HR2
    have H4 := hide (in_any key 1 6)
    obtain ⟨q4, hq4⟩ : ∃ q, q = inB key 1 6 := ⟨_, rfl⟩
    rw [← hq4] at H4 HR2
    have H5 := hide (in_any cost 0 60000)
    obtain ⟨q5, hq5⟩ : ∃ q, q = inB cost 0 60000 := ⟨_, rfl⟩
    rw [← hq5] at H5 HR2
    clear hq3 hq4 hq5 HR hk1 k1
    go_wp2_with fail
    refine (H3.out _).mono ?_
    rintro e w1 ⟨rfl, rfl⟩
    cases q3
    · go_wp2
      go_ret
      exact ⟨ret_bool (by rw [HR2.out]; rfl), B0⟩
    go_wp2_with fail
    refine (H4.out _).mono ?_
    rintro e w1 ⟨rfl, rfl⟩
    cases q4
    · go_wp2
      go_ret
      exact ⟨ret_bool (by rw [HR2.out]; rfl), B0⟩
    by_cases hn0 : ns.length = 0
    case neg =>
      have hd : ((ns.length : Int) == 0) = false := by simp; intro h; rw [h] at hn0; exact hn0 rfl
      have hR2 : R = false := by rw [HR2.out, show (ns.length == 0) = false by simpa using hn0]; rfl
      have HR3 := hide hR2
      clear hR2 hn0 HR2
      go_wp2
      go_ret
      exact ⟨ret_bool HR3.out, B0⟩
    have hd : ((ns.length : Int) == 0) = true := by simp; exact List.length_eq_zero_iff.1 hn0
    have HR3 := hide (show R = (q5 && !far) by have := HR2.out; rw [show (ns.length == 0) = true by simpa using hn0] at this; simpa using this)
    clear hn0 HR2
    go_wp2_with fail
    refine (H5.out _).mono ?_
    rintro e w1 ⟨rfl, rfl⟩
    cases q5
    · go_wp2
      go_ret
      exact ⟨ret_bool (by rw [HR3.out]; rfl), B0⟩
    cases far
    · go_wp2
      go_ret
      exact ⟨ret_bool (by rw [HR3.out]; rfl), B0⟩
    · go_wp2
      go_ret
      exact ⟨ret_bool (by rw [HR3.out]; rfl), B0⟩
  have k2 : (kind == 2) = false := by simpa using hk2
  by_cases hk3 : kind = 3
  · subst hk3
    have HR2 := hide (show R = (area == 9 && inB key 1 9 && ns.length == 0 && (inB cost 1 1000 || cost == 60000)) by have := HR.out; simpa using this)
    have H4 := hide (in_any key 1 9)
    obtain ⟨q4, hq4⟩ : ∃ q, q = inB key 1 9 := ⟨_, rfl⟩
    rw [← hq4] at H4 HR2
    have H5 := hide (in_any cost 1 1000)
    obtain ⟨q5, hq5⟩ : ∃ q, q = inB cost 1 1000 := ⟨_, rfl⟩
    rw [← hq5] at H5 HR2
    clear hq4 hq5 HR hk1 k1 hk2 k2
    by_cases ha : area = 9
    case neg =>
      have hd : (area == 9) = false := by simpa using ha
      rw [hd] at HR2
      go_wp2
      go_ret
      exact ⟨ret_bool (by rw [HR2.out]; rfl), B0⟩
    subst ha
    go_wp2_with fail
    refine (H4.out _).mono ?_
    rintro e w1 ⟨rfl, rfl⟩
    cases q4
    · go_wp2
      go_ret
      exact ⟨ret_bool (by rw [HR2.out]; rfl), B0⟩
    by_cases hn0 : ns.length = 0
    case neg =>
      have hd : ((ns.length : Int) == 0) = false := by simp; intro h; rw [h] at hn0; exact hn0 rfl
      have hR2 : R = false := by rw [HR2.out, show (ns.length == 0) = false by simpa using hn0]; rfl
      have HR3 := hide hR2
      clear hR2 hn0 HR2
      go_wp2
      go_ret
      exact ⟨ret_bool HR3.out, B0⟩
    have hd : ((ns.length : Int) == 0) = true := by simp; exact List.length_eq_zero_iff.1 hn0
    have HR3 := hide (show R = (q5 || cost == 60000) by have := HR2.out; rw [show (ns.length == 0) = true by simpa using hn0] at this; simpa using this)
    clear hn0 HR2
    go_wp2_with fail
    refine (H5.out _).mono ?_
    rintro e w1 ⟨rfl, rfl⟩
    cases q5
    · go_wp2
      go_ret
      exact ⟨ret_bool (by rw [HR3.out]; rfl), B0⟩
    · go_wp2
      go_ret
      exact ⟨ret_bool (by rw [HR3.out]; rfl), B0⟩
  have k3 : (kind == 3) = false := by simpa using hk3
  have hR2 : R = false := by rw [HR.out, if_neg hk1, if_neg hk2, if_neg hk3]; rfl
  have HR2 := hide hR2
  clear hR2 HR hk1 hk2 hk3
  go_wp2
  go_ret
  exact ⟨ret_bool HR2.out, B0⟩
end Go.Proofs.Ytdaigojpeofmpaa
namespace Go.Proofs.Ytdaigojpeofmpaa
open Go.RowKit

set_option linter.unusedSimpArgs false

/-- neighbours that were drawn, up to k -/
def NearUp (l : List Nr) (k : Int) (o : Int) : Prop := (∀ n ∈ l, 1 ≤ n.to ∧ n.to < k ∧ n.to ≠ o ∧ 1 ≤ n.c ∧ n.c ≤ 4) ∧ l.Pairwise (fun a b => a.to < b.to)

theorem NearUp.more {l : List Nr} {k k' o : Int} (h : NearUp l k o) (hk : k ≤ k') : NearUp l k' o := ⟨fun n hn => by have := h.1 n hn; omega, h.2⟩

theorem NearUp.push {l : List Nr} {k o y : Int} (h : NearUp l k o) (h1 : 1 ≤ k) (ho : k ≠ o) (hy0 : 0 ≤ y) (hy1 : y < 4) : NearUp (l ++ [⟨k, 1 + y⟩]) (k + 1) o := by
  refine ⟨?_, ?_⟩
  · intro n hn
    rcases List.mem_append.1 hn with h2 | h2
    · have := h.1 n h2; omega
    · have : n = ⟨k, 1 + y⟩ := by simpa using h2
      subst this
      simp only
      omega
  · rw [List.pairwise_append]
    refine ⟨h.2, by simp, ?_⟩
    intro a ha b hb
    have : b = ⟨k, 1 + y⟩ := by simpa using hb
    subst this
    exact (h.1 a ha).2.1

theorem NearUp.ok {l : List Nr} {o : Int} (h : NearUp l 7 o) : nearsB o l = true := by
  unfold nearsB allOk ascB
  rw [Bool.and_eq_true]
  refine ⟨all_true fun j hj => ?_, all_true fun j hj => ?_⟩
  · unfold okAt
    rw [List.getElem?_eq_getElem hj]
    have h1 := h.1 l[j] (List.getElem_mem hj)
    unfold nearOkB inB
    simp only [Bool.and_eq_true, decide_eq_true_eq, Bool.not_eq_true', beq_eq_false_iff_ne]
    omega
  · cases j with
    | zero => rfl
    | succ k =>
      rw [ascAt_eq (List.getElem?_eq_getElem (by omega)) (List.getElem?_eq_getElem hj)]
      have h2 := List.pairwise_iff_getElem.1 h.2 k (k + 1) (by omega) hj (by omega)
      unfold ordN
      simp only [decide_eq_true_eq]
      omega

theorem right_node {y1 y2 y3 : Int} {l : List Nr} (a0 : 0 ≤ y1) (a1 : y1 < 4) (b0 : 0 ≤ y2) (b1 : y2 < 3) (c0 : 0 ≤ y3) (c1 : y3 < 5) (h : NearUp l 7 (1 + y1)) : recOkB ⟨y2, 1, 1 + y1, 0, 1 + y3, l, 0, false⟩ = true := by
  have h1 := h.ok
  unfold recOkB
  simp only [h1]
  unfold inB
  simp
  omega

theorem right_beyond {y1 y2 y3 y4 y5 : Int} (a0 : 0 ≤ y1) (a1 : y1 < 4) (b0 : 0 ≤ y2) (b1 : y2 < 3) (c0 : 0 ≤ y3) (c1 : y3 < 5) (d0 : 0 ≤ y4) (d1 : y4 < 5) (e0 : 0 ≤ y5) (e1 : y5 ≤ 60000) : recOkB ⟨y2, 2, 1 + y1, 1 + y4, 1 + y3, [], y5, false⟩ = true := by
  unfold recOkB inB
  simp
  omega

theorem right_thing {y1 y3 y4 y5 : Int} {b : Bool} (a0 : 0 ≤ y1) (a1 : y1 < 4) (c0 : 0 ≤ y3) (c1 : y3 < 5) (d0 : 0 ≤ y4) (d1 : y4 < 3) (e : (1 ≤ y5 ∧ y5 ≤ 1000) ∨ y5 = 60000) : recOkB ⟨9, 3, 1 + y1, 1 + y4, 1 + y3, [], y5, b⟩ = true := by
  unfold recOkB inB
  simp
  omega

theorem five_cellsR (w : World) : ∀ k, k < 5 → ∃ z : Int, (0 ≤ z ∧ z ≤ 60000) ∧ (w.alloc (.cells #[.int .i64 0, .int .i64 1, .int .i64 2, .int .i64 5, .int .i64 60000] 3)).cell? ⟨w.heap.size, k, none⟩ = some (.int .i64 z) := by
  intro k hk
  have h := cells_at (heap_alloc_new w (.cells #[.int .i64 0, .int .i64 1, .int .i64 2, .int .i64 5, .int .i64 60000] 3)) k
  match k, hk with
  | 0, _ => exact ⟨_, by omega, h⟩
  | 1, _ => exact ⟨_, by omega, h⟩
  | 2, _ => exact ⟨_, by omega, h⟩
  | 3, _ => exact ⟨_, by omega, h⟩
  | 4, _ => exact ⟨_, by omega, h⟩

theorem fourb_cellsR (w : World) : ∀ k, k < 4 → ∃ z : Int, ((1 ≤ z ∧ z ≤ 1000) ∨ z = 60000) ∧ (w.alloc (.cells #[.int .i64 1, .int .i64 2, .int .i64 5, .int .i64 60000] 3)).cell? ⟨w.heap.size, k, none⟩ = some (.int .i64 z) := by
  intro k hk
  have h := cells_at (heap_alloc_new w (.cells #[.int .i64 1, .int .i64 2, .int .i64 5, .int .i64 60000] 3)) k
  match k, hk with
  | 0, _ => exact ⟨_, by omega, h⟩
  | 1, _ => exact ⟨_, by omega, h⟩
  | 2, _ => exact ⟨_, by omega, h⟩
  | 3, _ => exact ⟨_, by omega, h⟩

set_option maxRecDepth 100000 in
set_option maxHeartbeats 2000000 in
theorem recR_any (p : Nat) (a : Option Addr) (len cap : Nat) (w : World) (hc : Cur w p a len cap) :
    Calls Try.prog 83 #[.pointer (some ⟨p, 0, none⟩)] w fun e w' => ∃ (x : RecD) (v : Value), e = .returned (.agg (recC x v)) ∧ w'.ownsRow (w.heap.size + 1) 120 2 v x.near.length (flat nrE x.near) ∧ x.near.length ≤ 6 ∧ recOkB x = true ∧ Cur w' p a len cap ∧ w.grownBy w' (some p) := by
  have hp := lt_of_cur hc
  have HC := hide hc
  clear hc
  go_enter Try.func83, Try.ntmps83
  go_wp2_with fail
  refine (below_any p a len cap 3 _ (cur_alloc HC.out _) (by omega) (by omega)).mono ?_
  rintro e w1 ⟨y0, rfl, hy0, hy0', hc1, hg1⟩
  have r1 := hg1.block w.heap.size (by simp) (by simp; omega)
  rw [heap_alloc_new] at r1
  have b1 : w.grownBy w1 (some p) := gro_same (gro_alloc (gro_refl w _) _) hg1
  have C1 := hide hc1
  have R1 := hide r1
  have D1 := hide b1
  clear hc1 r1 b1 hg1 HC
  go_wp2_with fail
  refine (below_any p a len cap 4 _ C1.out (by omega) (by omega)).mono ?_
  rintro e w2 ⟨y1, rfl, hy1, hy1', hc2, hg2⟩
  have R2 := hide ((hg2.block _ (lt_of_heap R1.out) (by simp; omega)).trans R1.out)
  have D2 := hide (gro_same D1.out hg2)
  have C2 := hide hc2
  clear hc2 hg2 C1 R1 D1
  go_wp2_with fail
  refine (below_any p a len cap 3 _ C2.out (by omega) (by omega)).mono ?_
  rintro e w3 ⟨y2, rfl, hy2, hy2', hc3, hg3⟩
  have R3 := hide ((hg3.block _ (lt_of_heap R2.out) (by simp; omega)).trans R2.out)
  have D3 := hide (gro_same D2.out hg3)
  have C3 := hide hc3
  clear hc3 hg3 C2 R2 D2
  go_wp2_with fail
  refine (below_any p a len cap 5 _ C3.out (by omega) (by omega)).mono ?_
  rintro e w4 ⟨y3, rfl, hy3, hy3', hc4, hg4⟩
  have R4 := hide ((hg4.block _ (lt_of_heap R3.out) (by simp; omega)).trans R3.out)
  have D4 := hide (gro_same D3.out hg4)
  have hsz4 : w.heap.size < w4.heap.size := lt_of_heap R4.out
  have wr0 : IntKind.i64.wrap (1 + y0) = 1 + y0 := wrap_fit _ (by omega) (by omega)
  have wr1 : IntKind.i64.wrap (1 + y1) = 1 + y1 := wrap_fit _ (by omega) (by omega)
  have wr3 : IntKind.i64.wrap (1 + y3) = 1 + y3 := wrap_fit _ (by omega) (by omega)
  obtain ⟨x0, hx0⟩ : ∃ x : RecD, x = ⟨y2, 1 + y0, 1 + y1, 0, 1 + y3, [], 0, false⟩ := ⟨_, rfl⟩
  have st0 : RcSt w (w4.alloc (.cells #[.int .i64 y2, .int .i64 (1 + y0), .int .i64 (1 + y1), .int .i64 0, .int .i64 (1 + y3), .slice none 0 0, .int .i64 0, .bool false] 56)) p w.heap.size w4.heap.size a len cap (.slice none 0 0) x0 :=
    { cur := cur_alloc hc4 _
      low := Nat.le_refl _
      gro := gro_alloc D4.out _
      box := by rw [hx0]; exact heap_alloc_new w4 _
      res := (Below.heap_alloc _ _ _ hsz4).trans R4.out
      own := by rw [hx0]; exact ⟨rfl, .inl ⟨rfl, rfl⟩⟩
      djn := by simp [Value.ownBlock] }
  have ST0 := hide st0
  have HX0 := hide hx0
  have g1 := heap_alloc_new w4 (.cells #[.int .i64 y2, .int .i64 (1 + y0), .int .i64 (1 + y1), .int .i64 0, .int .i64 (1 + y3), .slice none 0 0, .int .i64 0, .bool false] 56)
  clear st0 hx0 hc4 hg4 R4 D4 C3 R3 D3 g1
  rcases (show y0 = 0 ∨ y0 = 1 ∨ y0 = 2 by omega) with rfl | rfl | rfl
  · rw [show (1 : Int) + 0 = 1 from rfl] at ST0 HX0
    go_wp2
    obtain ⟨z, hz⟩ : ∃ z, z = w4.heap.size := ⟨_, rfl⟩
    rw [← hz] at ST0 hsz4 ⊢
    generalize w4.alloc (.cells #[.int .i64 y2, .int .i64 1, .int .i64 (1 + y1), .int .i64 0, .int .i64 (1 + y3), .slice none 0 0, .int .i64 0, .bool false] 56) = w5 at *
    clear hz
    have hw5 : p < w.heap.size := hp
    go_loopw [4] (fun i wr => ∃ (k : Nat) (l : List Nr) (va : Option Addr) (vc : Nat), 1 ≤ k ∧ k ≤ 7 ∧ i = .int .i64 k ∧ l.length + 1 ≤ k ∧ Hid (NearUp l k x0.owner) ∧ RcSt w wr p w.heap.size z a len cap (.slice va l.length vc) { x0 with near := l }) (fun i _ => 8 - (intOf i).toNat)
    case atStart =>
      refine ⟨1, [], none, 0, by omega, by omega, rfl, by simp, hide ⟨by simp, by simp⟩, ?_⟩
      have e := ST0.out
      rw [show x0 = { x0 with near := [] } by rw [HX0.out]] at e
      exact e
    case round =>
      clear ST0
      obtain ⟨k, l, va, vc, hk1, hk7, rfl, hll, HUP, st⟩ := hrel
      have c2 := cells_at st.box 2
      simp only [recC] at c2
      have c2' : wr.cell? ⟨z, 2, none⟩ = some (.int .i64 x0.owner) := c2
      clear c2
      have ST := hide st
      clear st
      by_cases hk : k < 7
      · have hk6 : (k : Int) ≤ 6 := by omega
        by_cases ho : (k : Int) = x0.owner
        · have hd : ((k : Int) != x0.owner) = false := by simpa using ho
          clear ho
          go_wp2
          exact ⟨⟨k + 1, l, va, vc, by omega, by omega, by go_num, by omega, hide (HUP.out.more (by omega)), ST.out⟩, by simp [intOf]; omega⟩
        · have hd : ((k : Int) != x0.owner) = true := by simpa using ho
          have HO := hide ho
          clear ho
          go_wp2_with fail
          refine (once_any p a len cap 3 _ ST.out.cur (by omega) (by omega)).mono ?_
          rintro e w6 ⟨b, rfl, hc6, hg6⟩
          have ST6 := hide (ST.out.grown hc6 hg6 hp hsz4)
          clear hc6 hg6 ST c2'
          cases b
          · go_wp2
            exact ⟨⟨k + 1, l, va, vc, by omega, by omega, by go_num, by omega, hide (HUP.out.more (by omega)), ST6.out⟩, by simp [intOf]; omega⟩
          · go_wp2
            refine wp_region_noPanic ?_
            refine wp_region_start (S := fun _ => True) (by kernel_rfl) 11 rfl trivial ?_
            intro ops hops _
            refine rec_dag _ _ _ _ _ _ _ _ _ _ _ _ _ _ _ _ _ _ _ _ _ _ _ _ _ _ _ _ _ _ _ _ _ _ _ _ _ _ _ _ _ _ _ _ _ _ _ _ _ _ _ _ _ _ _ _ _ _ _ _ _ _ _ _ _ w _ p w.heap.size z a len cap va vc { x0 with near := l } (k : Int) _ ops hops (fun _ _ _ _ h => h) hp hsz4 (by show l.length ≤ 1000; omega) ST6.out.drew ?_
            intro W y na nc l' hl' hy0 hy1 st' sb
            refine NoPanic.normal ?_
            have hl7 : l'.length = l.length + 1 := by rw [hl'.out]; simp
            have HU7 := hide (show NearUp l' ((k + 1 : Nat) : Int) x0.owner by rw [hl'.out]; exact (HUP.out.push (by omega) HO.out hy0 hy1).more (by omega))
            have ST7 := hide st'
            clear st' hops ops
            go_wp2
            exact ⟨⟨k + 1, l', na, nc, by omega, by omega, by go_num, by omega, HU7, ST7.out⟩, by simp [intOf]; omega⟩
      · have hk6 : ¬ (k : Int) ≤ 6 := by omega
        have HLL := hide hll
        have HRI := hide (show recOkB { x0 with near := l } = true by
          have h7 : NearUp l 7 x0.owner := HUP.out.more (by omega)
          rw [HX0.out] at h7 ⊢
          exact right_node hy1 hy1' hy2 hy2' hy3 hy3' h7)
        clear c2'
        have yb := ST.out.box
        have ub := ST.out.res
        unfold recC at yb
        unfold zeroC at ub
        (try simp only [] at yb)
        have y0 := cells_at yb 0
        have y1 := cells_at yb 1
        have y2 := cells_at yb 2
        have y3 := cells_at yb 3
        have y4 := cells_at yb 4
        have y5 := cells_at yb 5
        have y6 := cells_at yb 6
        have y7 := cells_at yb 7
        have u0 := cells_at ub 0
        have u1 := cells_at ub 1
        have u2 := cells_at ub 2
        have u3 := cells_at ub 3
        have u4 := cells_at ub 4
        have u5 := cells_at ub 5
        have u6 := cells_at ub 6
        have u7 := cells_at ub 7
        simp at y0 y1 y2 y3 y4 y5 y6 y7 u0 u1 u2 u3 u4 u5 u6 u7
        have fu := frozen_at ub
        clear yb ub
        go_wp2_with fail
        (try simp only [Exit.inBlock, Exit.then])
        have F := ST.out.fin hp (by have := lt_of_heap ST.out.box; omega)
        refine bodyPost_ret (results_cell_row rfl _ _ w.heap.size 56 (recC _ _) (0, 0) _ rfl F.1 Try.underlying56 rfl (by kernel_rfl)) rfl ?_
        exact ⟨_, _, rfl, F.2.2.2, (by show l.length ≤ 6; have := HLL.out; omega), HRI.out, F.2.1, F.2.2.1⟩
  · rw [show (1 : Int) + 1 = 2 from rfl] at ST0 HX0
    have hz0 : w4.heap.size = w4.heap.size := rfl
    go_wp2_with fail
    obtain ⟨z, hz⟩ : ∃ z, z = w4.heap.size := ⟨_, rfl⟩
    rw [← hz] at ST0 hsz4 ⊢
    generalize w4.alloc (.cells #[.int .i64 y2, .int .i64 2, .int .i64 (1 + y1), .int .i64 0, .int .i64 (1 + y3), .slice none 0 0, .int .i64 0, .bool false] 56) = w5 at *
    clear hz hz0
    refine (below_any p a len cap 5 _ ST0.out.cur (by omega) (by omega)).mono ?_
    rintro e w6 ⟨y4, rfl, hy4, hy4', hc6, hg6⟩
    have ST6 := hide (ST0.out.grown hc6 hg6 hp hsz4)
    have wr4 : IntKind.i64.wrap (1 + y4) = 1 + y4 := wrap_fit _ (by omega) (by omega)
    have sb := ST6.out.box
    unfold recC at sb
    have s3 := cells_at sb 3
    have f3 := frozen_at sb
    simp at s3
    have ST7 := hide (ST6.out.set 3 (.int .i64 (1 + y4)) { x0 with key := 1 + y4 } rfl rfl hp hsz4)
    clear hc6 hg6 ST0 ST6 sb
    have hs7 : (w6.setCell ⟨z, 3, none⟩ (.int .i64 (1 + y4))).heap.size = w6.heap.size := by simp
    have fc := five_cellsR (w6.setCell ⟨z, 3, none⟩ (.int .i64 (1 + y4)))
    rw [hs7] at fc
    have FC := hide fc
    have hp6 : p < w6.heap.size := by have := lt_of_cur ST7.out.cur; omega
    clear hs7 fc
    go_wp2_with fail
    refine (pickR_any (fun z => 0 ≤ z ∧ z ≤ 60000) p a len cap w6.heap.size 5 _ (cur_alloc ST7.out.cur _) (by omega) (by omega) (by omega) FC.out).mono ?_
    rintro e w8 ⟨y5, rfl, hp5, hc8, hg8⟩
    have ST8 := hide ((ST7.out.alloc _).grown hc8 hg8 hp hsz4)
    have sb := ST8.out.box
    unfold recC at sb
    have s6 := cells_at sb 6
    have f6 := frozen_at sb
    simp at s6
    have ST9 := hide (ST8.out.set 6 (.int .i64 y5) { x0 with key := 1 + y4, cost := y5 } rfl rfl hp hsz4)
    have HRI := hide (show recOkB { x0 with key := 1 + y4, cost := y5 } = true by rw [HX0.out]; exact right_beyond hy1 hy1' hy2 hy2' hy3 hy3' hy4 hy4' hp5.1 hp5.2)
    have HL0 := hide (show x0.near.length ≤ 6 by rw [HX0.out]; simp)
    clear hc8 hg8 ST7 ST8 sb s3 f3 FC
    have yb := ST9.out.box
    have ub := ST9.out.res
    unfold recC at yb
    unfold zeroC at ub
    (try simp only [] at yb)
    have y0 := cells_at yb 0
    have y1 := cells_at yb 1
    have y2 := cells_at yb 2
    have y3 := cells_at yb 3
    have y4 := cells_at yb 4
    have y5 := cells_at yb 5
    have y6 := cells_at yb 6
    have y7 := cells_at yb 7
    have u0 := cells_at ub 0
    have u1 := cells_at ub 1
    have u2 := cells_at ub 2
    have u3 := cells_at ub 3
    have u4 := cells_at ub 4
    have u5 := cells_at ub 5
    have u6 := cells_at ub 6
    have u7 := cells_at ub 7
    simp at y0 y1 y2 y3 y4 y5 y6 y7 u0 u1 u2 u3 u4 u5 u6 u7
    have fu := frozen_at ub
    clear yb ub
    go_wp2_with fail
    (try simp only [Exit.inBlock, Exit.then])
    have F := ST9.out.fin hp (by have := lt_of_heap ST9.out.box; omega)
    refine bodyPost_ret (results_cell_row rfl _ _ w.heap.size 56 (recC _ _) (0, 0) _ rfl F.1 Try.underlying56 rfl (by kernel_rfl)) rfl ?_
    exact ⟨_, _, rfl, F.2.2.2, HL0.out, HRI.out, F.2.1, F.2.2.1⟩
  · rw [show (1 : Int) + 2 = 3 from rfl] at ST0 HX0
    have hz0 : w4.heap.size = w4.heap.size := rfl
    have ST5 := hide (ST0.out.set 0 (.int .i64 9) { x0 with area := 9 } rfl rfl hp hsz4)
    rw [World.setCell_alloc_new] at ST5
    go_wp2_with fail
    obtain ⟨z, hz⟩ : ∃ z, z = w4.heap.size := ⟨_, rfl⟩
    rw [← hz] at ST0 ST5 hsz4 ⊢
    have ST5' : Hid (RcSt w (w4.alloc (.cells #[.int .i64 9, .int .i64 3, .int .i64 (1 + y1), .int .i64 0, .int .i64 (1 + y3), .slice none 0 0, .int .i64 0, .bool false] 56)) p w.heap.size z a len cap (.slice none 0 0) { x0 with area := 9 }) := ST5
    clear ST5
    have ST5 := ST5'
    clear ST5' ST0
    generalize w4.alloc (.cells #[.int .i64 9, .int .i64 3, .int .i64 (1 + y1), .int .i64 0, .int .i64 (1 + y3), .slice none 0 0, .int .i64 0, .bool false] 56) = w5 at *
    clear hz hz0
    refine (below_any p a len cap 3 _ ST5.out.cur (by omega) (by omega)).mono ?_
    rintro e w6 ⟨y4, rfl, hy4, hy4', hc6, hg6⟩
    have ST6 := hide (ST5.out.grown hc6 hg6 hp hsz4)
    have wr4 : IntKind.i64.wrap (1 + y4) = 1 + y4 := wrap_fit _ (by omega) (by omega)
    have sb := ST6.out.box
    unfold recC at sb
    have s3 := cells_at sb 3
    have f3 := frozen_at sb
    simp at s3
    have ST7 := hide (ST6.out.set 3 (.int .i64 (1 + y4)) { x0 with area := 9, key := 1 + y4 } rfl rfl hp hsz4)
    clear hc6 hg6 ST5 ST6 sb
    have hs7 : (w6.setCell ⟨z, 3, none⟩ (.int .i64 (1 + y4))).heap.size = w6.heap.size := by simp
    have fc := fourb_cellsR (w6.setCell ⟨z, 3, none⟩ (.int .i64 (1 + y4)))
    rw [hs7] at fc
    have FC := hide fc
    have hp6 : p < w6.heap.size := by have := lt_of_cur ST7.out.cur; omega
    clear hs7 fc
    go_wp2_with fail
    refine (pickR_any (fun z => (1 ≤ z ∧ z ≤ 1000) ∨ z = 60000) p a len cap w6.heap.size 4 _ (cur_alloc ST7.out.cur _) (by omega) (by omega) (by omega) FC.out).mono ?_
    rintro e w8 ⟨y5, rfl, hp5, hc8, hg8⟩
    have ST8 := hide ((ST7.out.alloc _).grown hc8 hg8 hp hsz4)
    have sb := ST8.out.box
    unfold recC at sb
    have s6 := cells_at sb 6
    have f6 := frozen_at sb
    simp at s6
    have ST9 := hide (ST8.out.set 6 (.int .i64 y5) { x0 with area := 9, key := 1 + y4, cost := y5 } rfl rfl hp hsz4)
    have HL0 := hide (show x0.near.length ≤ 6 by rw [HX0.out]; simp)
    clear hc8 hg8 ST7 ST8 sb s3 f3 FC
    go_wp2_with fail
    refine (once_any p a len cap 2 _ ST9.out.cur (by omega) (by omega)).mono ?_
    rintro e wA ⟨b, rfl, hcA, hgA⟩
    have STA := hide (ST9.out.grown hcA hgA hp hsz4)
    have sb := STA.out.box
    unfold recC at sb
    have s7 := cells_at sb 7
    have f7 := frozen_at sb
    simp at s7
    have STB := hide (STA.out.set 7 (.bool b) { x0 with area := 9, key := 1 + y4, cost := y5, far := b } rfl rfl hp hsz4)
    have HRI := hide (show recOkB { x0 with area := 9, key := 1 + y4, cost := y5, far := b } = true by rw [HX0.out]; exact right_thing hy1 hy1' hy3 hy3' hy4 hy4' hp5)
    clear hcA hgA ST9 STA sb s6 f6
    have yb := STB.out.box
    have ub := STB.out.res
    unfold recC at yb
    unfold zeroC at ub
    (try simp only [] at yb)
    have y0 := cells_at yb 0
    have y1 := cells_at yb 1
    have y2 := cells_at yb 2
    have y3 := cells_at yb 3
    have y4 := cells_at yb 4
    have y5 := cells_at yb 5
    have y6 := cells_at yb 6
    have y7 := cells_at yb 7
    have u0 := cells_at ub 0
    have u1 := cells_at ub 1
    have u2 := cells_at ub 2
    have u3 := cells_at ub 3
    have u4 := cells_at ub 4
    have u5 := cells_at ub 5
    have u6 := cells_at ub 6
    have u7 := cells_at ub 7
    simp at y0 y1 y2 y3 y4 y5 y6 y7 u0 u1 u2 u3 u4 u5 u6 u7
    have fu := frozen_at ub
    clear yb ub
    go_wp2_with fail
    (try simp only [Exit.inBlock, Exit.then])
    have F := STB.out.fin hp (by have := lt_of_heap STB.out.box; omega)
    refine bodyPost_ret (results_cell_row rfl _ _ w.heap.size 56 (recC _ _) (0, 0) _ rfl F.1 Try.underlying56 rfl (by kernel_rfl)) rfl ?_
    exact ⟨_, _, rfl, F.2.2.2, HL0.out, HRI.out, F.2.1, F.2.2.1⟩

end Go.Proofs.Ytdaigojpeofmpaa
namespace Go.Proofs.Ytdaigojpeofmpaa
open Go.RowKit

def mk (q : Int) (i : Nat) : Nr := ⟨q + 2 * (i : Int), q + 2 * (i : Int) + 1⟩

def marks (q : Int) (n : Nat) : List Nr := (List.range n).map (mk q)

theorem marks_len (q : Int) (n : Nat) : (marks q n).length = n := by simp [marks]

theorem marks_all {q : Int} {n : Nat} {ys : List Nr} (hl : ys.length = n) (h : ∀ j, j < n → ys[j]? = some (mk q j)) : ys = marks q n := by
  apply List.ext_getElem?
  intro i
  by_cases hi : i < n
  · rw [h i hi]
    simp [marks, hi]
  · rw [List.getElem?_eq_none (by omega), List.getElem?_eq_none (by rw [marks_len]; omega)]

theorem owns_shapeS {w : World} {base size : Nat} {e : TypeId} {v : Value} {n : Nat} {xs : List Value} (h : w.ownsRow base e size v n xs) (hn : 0 < n) :
    ∃ g cap, v = .slice (some ⟨g, 0, none⟩) n cap ∧ base ≤ g ∧ g < w.heap.size := by
  rcases h.2 with ⟨_, h0⟩ | ⟨g, cap, cur, hv, hb, hg, _⟩
  · omega
  · exact ⟨g, cap, hv, hb, lt_of_heap hg⟩

theorem own_cell {w : World} {base size g cap : Nat} {e : TypeId} {n : Nat} {xs : List Value} (h : w.ownsRow base e size (.slice (some ⟨g, 0, none⟩) n cap) n xs) (j : Nat) (hj : j < n * size) : ∃ u, w.cell? ⟨g, j, none⟩ = some u := by
  rw [h.cellAt j hj]
  have hl : j < xs.length := by rw [h.1]; exact hj
  exact ⟨_, List.getElem?_eq_getElem hl⟩

theorem grown_refl (w : World) (r : Option Nat) : w.grownBy w r := ⟨rfl, rfl, rfl, Nat.le_refl _, fun _ _ _ => rfl⟩

theorem ret_int1 {a b : Int} (h : a = b) : Ending.returned (.int .i64 a) = .returned (.int .i64 b) := by rw [h]

set_option maxRecDepth 100000 in
set_option maxHeartbeats 1000000 in
theorem markNearS_any (v : Value) (base n : Nat) (ns : List Nr) (q : Int) (w : World) (hn0 : ns.length = n) (h1 : w.ownsRow base 120 2 v n (flat nrE ns)) (hn : n ≤ 1048576) (hq : 0 ≤ q) (hq2 : q ≤ 1000000000) :
    Calls Try.prog 45 #[v, .int .i64 q] w fun e w' => e = .returned (.int .i64 (q + 2 * (n : Int))) ∧ w'.ownsRow base 120 2 v n (flat nrE (marks q n)) ∧ w.grownBy w' v.ownBlock := by
  by_cases h0 : n = 0
  · subst h0
    obtain ⟨a1, c1, rfl⟩ := owns_lenS h1
    have hnn : ns = [] := List.length_eq_zero_iff.1 hn0
    have H1 := hide h1
    rw [hnn] at H1
    clear h1 hn0 hnn
    go_enter Try.func45, Try.ntmps45
    go_wp2
    refine wp_loop_rounds 1 ?_
    rw [rounds_succ]
    go_wp2
    go_ret
    exact ⟨by simp, H1.out, grown_refl _ _⟩
  · obtain ⟨g1, c1, rfl, hg1, hl1⟩ := owns_shapeS h1 (by omega)
    have H1 := hide h1
    have HN0 := hide hn0
    clear h1 h0 hn0
    go_enter Try.func45, Try.ntmps45
    go_wp2
    go_loopw [5, 1] (fun i r wr => ∃ (k : Nat) (ys : List Nr), k ≤ n ∧ i = .int .i64 k ∧ r = .int .i64 (q + 2 * (k : Int)) ∧ ys.length = n ∧ (∀ j, j < k → ys[j]? = some (mk q j)) ∧ wr.ownsRow base 120 2 (.slice (some ⟨g1, 0, none⟩) n c1) n (flat nrE ys) ∧ w.grownBy wr (some g1)) (fun i _ _ => n - (intOf i).toNat)
    case atStart => exact ⟨0, ns, by omega, rfl, by simp, HN0.out, by omega, H1.out, grown_refl _ _⟩
    case round =>
      clear H1
      obtain ⟨k, ys, hk, rfl, rfl, hyl, hys, hown, hnx⟩ := hrel
      by_cases hlt : k < n
      · have hki : (0 : Int) ≤ (k : Int) := by omega
        have hkj : (k : Int) < (n : Int) := by omega
        obtain ⟨u0, d0⟩ := own_cell hown (k * 2) (by omega)
        obtain ⟨u1, d1⟩ := own_cell hown (k * 2 + 1) (by omega)
        have f0 := hown.frozenAt (k * 2)
        have f1 := hown.frozenAt (k * 2 + 1)
        have st := ((hown.stored (k * 2) (.int .i64 (q + 2 * (k : Int)))).1.stored (k * 2 + 1) (.int .i64 (q + 2 * (k : Int) + 1))).1
        have e1 : ((flat nrE ys).set (k * 2) (.int .i64 (q + 2 * (k : Int)))).set (k * 2 + 1) (.int .i64 (q + 2 * (k : Int) + 1)) = flat nrE (ys.set k (mk q k)) := flat_set nrE_len ys k (mk q k) (by omega)
        rw [e1] at st
        have ST := hide st
        have HYL := hide hyl
        have HYS := hide hys
        clear hown st e1 hyl hys
        go_wp2
        refine ⟨⟨k + 1, ys.set k (mk q k), by omega, by go_num, by go_num, by simp [HYL.out], ?_, ST.out, grown_trans (grown_trans hnx (grown_set _ _ _ _)) (grown_set _ _ _ _)⟩, by simp [intOf]; omega⟩
        intro j hj
        by_cases e : j = k
        · subst e
          rw [List.getElem?_set_self (by rw [HYL.out]; exact hlt)]
        · rw [List.getElem?_set_ne (by omega)]
          exact HYS.out j (by omega)
      · have hkn : k = n := by omega
        have hm : ys = marks q n := marks_all hyl (by rw [← hkn]; exact hys)
        have OW := hide hown
        have HM := hide hm
        have KN := hide hkn
        clear hkn hown hm hyl hys
        go_wp2
        go_ret
        exact ⟨ret_int1 (by rw [KN.out]), by rw [← HM.out]; exact OW.out, hnx⟩

set_option maxRecDepth 100000 in
set_option maxHeartbeats 1000000 in
theorem heldNearS_any (v : Value) (n : Nat) (q : Int) (w : World) (h1 : NearsAt w v (marks q n) w.heap.size) (hn : n ≤ 1048576) (hq : 0 ≤ q) (hq2 : q ≤ 1000000000) :
    Calls Try.prog 46 #[v, .int .i64 q] w fun e w' => e = .returned (.int .i64 (q + 2 * (n : Int))) ∧ w = w' := by
  obtain ⟨a, cap, rfl⟩ := h1.shape
  rw [marks_len] at *
  have H1 := hide h1
  clear h1
  go_enter Try.func46, Try.ntmps46
  go_wp2
  go_loop [5, 1] (fun i r => ∃ k : Nat, k ≤ n ∧ i = .int .i64 k ∧ r = .int .i64 (q + 2 * (k : Int))) (fun i _ => n - (intOf i).toNat)
  case atStart => exact ⟨0, by omega, rfl, by simp⟩
  case round =>
    obtain ⟨k, hk, rfl, rfl⟩ := hrel
    by_cases hlt : k < n
    · have hki : (0 : Int) ≤ (k : Int) := by omega
      have hkj : (k : Int) < (n : Int) := by omega
      obtain ⟨b, off, cap', hve, hbb, s0, s1⟩ := H1.out.cells k (mk q k) (by simp [marks, hlt])
      rw [marks_len] at hve
      cases hve
      simp only [mk] at s0 s1
      go_wp2
      go_round
      case rel => exact ⟨k + 1, by omega, by go_num, by go_num⟩
      case measure => simp [intOf]; omega
    · have hkn : k = n := by omega
      have KN := hide hkn
      clear hkn
      go_wp2
      go_ret
      exact ⟨ret_int1 (by rw [KN.out]), rfl⟩
end Go.Proofs.Ytdaigojpeofmpaa
