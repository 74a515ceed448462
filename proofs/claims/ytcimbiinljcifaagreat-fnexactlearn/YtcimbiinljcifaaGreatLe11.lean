/-
  spec.RecordOk: its contract.
-/
import Derived.Test.YtcimbiinljcifaaGreatLe10
namespace Go.Proofs.YtcimbiinljcifaaGreat
open Go.RowKit

def recOkB (x : RecD) : Bool := inB x.owner 1 6 && inB x.seq 1 100000 &&
  (if x.kind = 1 then inB x.area 0 2 && x.key == 0 && nearsB x.owner x.near && x.cost == 0 && !x.far
   else if x.kind = 2 then inB x.area 0 2 && inB x.key 1 6 && x.near.length == 0 && inB x.cost 0 60000 && !x.far
   else if x.kind = 3 then x.area == 9 && inB x.key 1 9 && x.near.length == 0 && (inB x.cost 1 1000 || x.cost == 60000)
   else false)

set_option maxRecDepth 100000 in
set_option maxHeartbeats 8000000 in
theorem srecOk_any (v1 : Value) (x : RecD) (w : World) (hl : x.near.length ≤ 1048576) (hv : NearsAt w v1 x.near w.heap.size) :
    Calls Tryz.prog 73 #[.agg (recC x v1)] w fun e w' => e = .returned (.bool (recOkB x)) ∧ Below w.heap.size w w' := by
  obtain ⟨p1, c1, rfl⟩ := hv.shape
  have HN := hide (fun W (h : Below w.heap.size w W) => snear_any (.slice p1 x.near.length c1) x W hl (hv.then h))
  obtain ⟨R, hR⟩ : ∃ R, R = recOkB x := ⟨_, rfl⟩
  rw [← hR]
  obtain ⟨qn, hqn⟩ : ∃ q, q = nearsB x.owner x.near := ⟨_, rfl⟩
  rw [← hqn] at HN
  unfold recOkB at hR
  rw [← hqn] at hR
  obtain ⟨area, kind, owner, key, seq, ns, cost, far⟩ := x
  unfold recC at HN ⊢
  simp only [] at HN hR hl hv ⊢
  have hnew := heap_alloc_new w (.cells #[.int .i64 area, .int .i64 kind, .int .i64 owner, .int .i64 key, .int .i64 seq, .slice p1 ns.length c1, .int .i64 cost, .bool far] 40)
  have B0 : Below w.heap.size w (w.alloc (.cells #[.int .i64 area, .int .i64 kind, .int .i64 owner, .int .i64 key, .int .i64 seq, .slice p1 ns.length c1, .int .i64 cost, .bool far] 40)) := (Below.refl _ _).alloc (Nat.le_refl _) _
  have H1 := hide (in_any owner 1 6)
  have H2 := hide (in_any seq 1 100000)
  obtain ⟨q1, hq1⟩ : ∃ q, q = inB owner 1 6 := ⟨_, rfl⟩
  obtain ⟨q2, hq2⟩ : ∃ q, q = inB seq 1 100000 := ⟨_, rfl⟩
  rw [← hq1] at H1 hR
  rw [← hq2] at H2 hR
  have NEW := hide hnew
  have HR := hide hR
  have HL := hide hl
  clear hnew hR hq1 hq2 hqn hv hl
  go_enter Tryz.func73, Tryz.ntmps73
  go_wp2_with fail
  refine (H1.out _).mono ?_
  rintro e w1 ⟨rfl, rfl⟩
  cases q1
  · go_wp2
    go_ret
    exact ⟨ret_bool (by rw [HR.out]; rfl), B0⟩
  go_wp2_with fail
  refine (H2.out _).mono ?_
  rintro e w1 ⟨rfl, rfl⟩
  cases q2
  · go_wp2
    go_ret
    exact ⟨ret_bool (by rw [HR.out]; rfl), B0⟩
  clear H1 H2
  by_cases hk1 : kind = 1
  · subst hk1
    have HR2 := hide (show R = (inB area 0 2 && key == 0 && qn && cost == 0 && !far) by have := HR.out; simpa using this)
    have H3 := hide (in_any area 0 2)
    obtain ⟨q3, hq3⟩ : ∃ q, q = inB area 0 2 := ⟨_, rfl⟩
    rw [← hq3] at H3 HR2
    clear hq3 HR
    go_wp2_with fail
    refine (H3.out _).mono ?_
    rintro e w1 ⟨rfl, rfl⟩
    cases q3
    · go_wp2
      go_ret
      exact ⟨ret_bool (by rw [HR2.out]; rfl), B0⟩
    by_cases hkey : key = 0
    case neg =>
      have hd : (key == 0) = false := by simpa using hkey
      rw [hd] at HR2
      go_wp2
      go_ret
      exact ⟨ret_bool (by rw [HR2.out]; rfl), B0⟩
    subst hkey
    go_wp2_with fail
    refine (HN.out _ B0).mono ?_
    rintro e w2 ⟨rfl, b2⟩
    have hx2 : w2.heap[w.heap.size]? = some (.cells #[.int .i64 area, .int .i64 1, .int .i64 owner, .int .i64 0, .int .i64 seq, .slice p1 ns.length c1, .int .i64 cost, .bool far] 40) := by rw [b2.block _ (by simp)]; exact NEW.out
    have f6 := cells_at hx2 6
    have f7 := cells_at hx2 7
    simp at f6 f7
    have B2 := B0.trans (b2.mono B0.size)
    clear hx2 b2 NEW B0
    cases qn
    · go_wp2
      go_ret
      exact ⟨ret_bool (by rw [HR2.out]; rfl), B2⟩
    by_cases hco : cost = 0
    case neg =>
      have hd : (cost == 0) = false := by simpa using hco
      rw [hd] at HR2
      go_wp2
      go_ret
      exact ⟨ret_bool (by rw [HR2.out]; rfl), B2⟩
    subst hco
    cases far
    · go_wp2
      go_ret
      exact ⟨ret_bool (by rw [HR2.out]; rfl), B2⟩
    · go_wp2
      go_ret
      exact ⟨ret_bool (by rw [HR2.out]; rfl), B2⟩
  have k1 : (kind == 1) = false := by simpa using hk1
  by_cases hk2 : kind = 2
  · subst hk2
    have HR2 := hide (show R = (inB area 0 2 && inB key 1 6 && ns.length == 0 && inB cost 0 60000 && !far) by have := HR.out; simpa using this)
    have H3 := hide (in_any area 0 2)
    obtain ⟨q3, hq3⟩ : ∃ q, q = inB area 0 2 := ⟨_, rfl⟩
    rw [← hq3] at H3 HR2
    have H4 := hide (in_any key 1 6)
    obtain ⟨q4, hq4⟩ : ∃ q, q = inB key 1 6 := ⟨_, rfl⟩
    rw [← hq4] at H4 HR2
    have H5 := hide (in_any cost 0 60000)
    obtain ⟨q5, hq5⟩ : ∃ q, q = inB cost 0 60000 := ⟨_, rfl⟩
    rw [← hq5] at H5 HR2
    clear hq3 hq4 hq5 HR hk1 k1
    go_wp2_with fail
    refine (H3.out _).mono ?_
    rintro e w1 ⟨rfl, rfl⟩
    cases q3
    · go_wp2
      go_ret
      exact ⟨ret_bool (by rw [HR2.out]; rfl), B0⟩
    go_wp2_with fail
    refine (H4.out _).mono ?_
    rintro e w1 ⟨rfl, rfl⟩
    cases q4
    · go_wp2
      go_ret
      exact ⟨ret_bool (by rw [HR2.out]; rfl), B0⟩
    by_cases hn0 : ns.length = 0
    case neg =>
      have hd : ((ns.length : Int) == 0) = false := by simp; intro h; rw [h] at hn0; exact hn0 rfl
      have hR2 : R = false := by rw [HR2.out, show (ns.length == 0) = false by simpa using hn0]; rfl
      have HR3 := hide hR2
      clear hR2 hn0 HR2
      go_wp2
      go_ret
      exact ⟨ret_bool HR3.out, B0⟩
    have hd : ((ns.length : Int) == 0) = true := by simp; exact List.length_eq_zero_iff.1 hn0
    have HR3 := hide (show R = (q5 && !far) by have := HR2.out; rw [show (ns.length == 0) = true by simpa using hn0] at this; simpa using this)
    clear hn0 HR2
    go_wp2_with fail
    refine (H5.out _).mono ?_
    rintro e w1 ⟨rfl, rfl⟩
    cases q5
    · go_wp2
      go_ret
      exact ⟨ret_bool (by rw [HR3.out]; rfl), B0⟩
    cases far
    · go_wp2
      go_ret
      exact ⟨ret_bool (by rw [HR3.out]; rfl), B0⟩
    · go_wp2
      go_ret
      exact ⟨ret_bool (by rw [HR3.out]; rfl), B0⟩
  have k2 : (kind == 2) = false := by simpa using hk2
  by_cases hk3 : kind = 3
  · subst hk3
    have HR2 := hide (show R = (area == 9 && inB key 1 9 && ns.length == 0 && (inB cost 1 1000 || cost == 60000)) by have := HR.out; simpa using this)
    have H4 := hide (in_any key 1 9)
    obtain ⟨q4, hq4⟩ : ∃ q, q = inB key 1 9 := ⟨_, rfl⟩
    rw [← hq4] at H4 HR2
    have H5 := hide (in_any cost 1 1000)
    obtain ⟨q5, hq5⟩ : ∃ q, q = inB cost 1 1000 := ⟨_, rfl⟩
    rw [← hq5] at H5 HR2
    clear hq4 hq5 HR hk1 k1 hk2 k2
    by_cases ha : area = 9
    case neg =>
      have hd : (area == 9) = false := by simpa using ha
      rw [hd] at HR2
      go_wp2
      go_ret
      exact ⟨ret_bool (by rw [HR2.out]; rfl), B0⟩
    subst ha
    go_wp2_with fail
    refine (H4.out _).mono ?_
    rintro e w1 ⟨rfl, rfl⟩
    cases q4
    · go_wp2
      go_ret
      exact ⟨ret_bool (by rw [HR2.out]; rfl), B0⟩
    by_cases hn0 : ns.length = 0
    case neg =>
      have hd : ((ns.length : Int) == 0) = false := by simp; intro h; rw [h] at hn0; exact hn0 rfl
      have hR2 : R = false := by rw [HR2.out, show (ns.length == 0) = false by simpa using hn0]; rfl
      have HR3 := hide hR2
      clear hR2 hn0 HR2
      go_wp2
      go_ret
      exact ⟨ret_bool HR3.out, B0⟩
    have hd : ((ns.length : Int) == 0) = true := by simp; exact List.length_eq_zero_iff.1 hn0
    have HR3 := hide (show R = (q5 || cost == 60000) by have := HR2.out; rw [show (ns.length == 0) = true by simpa using hn0] at this; simpa using this)
    clear hn0 HR2
    go_wp2_with fail
    refine (H5.out _).mono ?_
    rintro e w1 ⟨rfl, rfl⟩
    cases q5
    · go_wp2
      go_ret
      exact ⟨ret_bool (by rw [HR3.out]; rfl), B0⟩
    · go_wp2
      go_ret
      exact ⟨ret_bool (by rw [HR3.out]; rfl), B0⟩
  have k3 : (kind == 3) = false := by simpa using hk3
  have hR2 : R = false := by rw [HR.out, if_neg hk1, if_neg hk2, if_neg hk3]; rfl
  have HR2 := hide hR2
  clear hR2 HR hk1 hk2 hk3
  go_wp2
  go_ret
  exact ⟨ret_bool HR2.out, B0⟩
end Go.Proofs.YtcimbiinljcifaaGreat
