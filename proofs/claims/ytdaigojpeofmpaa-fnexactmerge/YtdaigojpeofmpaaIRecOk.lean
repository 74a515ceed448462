/-
  impl.RecordOk: its contract.
-/
import Derived.Test.YtdaigojpeofmpaaIBodyOk
namespace Go.Proofs.Ytdaigojpeofmpaa
open Go.RowKit

set_option maxRecDepth 100000 in
set_option maxHeartbeats 4000000 in
theorem irecOk_any (v1 : Value) (x : RecD) (w : World) (hl : x.near.length ≤ 1048576) (hv : NearsAt w v1 x.near w.heap.size) :
    Calls Try.prog 49 #[.agg (recC x v1)] w fun e w' => e = .returned (.bool (recOkB x)) ∧ Below w.heap.size w w' := by
  obtain ⟨p1, c1, rfl⟩ := hv.shape
  have HK := hide (kind_any (.slice p1 x.near.length c1) x)
  obtain ⟨R, hR⟩ : ∃ R, R = recOkB x := ⟨_, rfl⟩
  rw [← hR]
  unfold recOkB at hR
  have H1 := hide (isIn_any x.owner 1 6)
  have H2 := hide (isIn_any x.seq 1 100000)
  obtain ⟨q1, hq1⟩ : ∃ q, q = inB x.owner 1 6 := ⟨_, rfl⟩
  obtain ⟨q2, hq2⟩ : ∃ q, q = inB x.seq 1 100000 := ⟨_, rfl⟩
  rw [← hq1] at H1 hR
  rw [← hq2] at H2 hR
  clear hq1 hq2
  have B0 : Below w.heap.size w (w.alloc (.cells (recC x (.slice p1 x.near.length c1)) 56)) := (Below.refl _ _).alloc (Nat.le_refl _) _
  have hnew := heap_alloc_new w (.cells (recC x (.slice p1 x.near.length c1)) 56)
  by_cases hk1 : x.kind = 1
  · rw [if_pos hk1] at hR
    have hkv : kindV x (.slice p1 x.near.length c1) = .tuple #[.iface 152 (.agg (recC x (.slice p1 x.near.length c1))), .bool true] := by unfold kindV; rw [if_pos hk1]
    rw [hkv] at HK
    have HR := hide hR
    have HV := hide hv
    have NEW := hide hnew
    have HKEY := hide (nodeKey_any (.slice p1 x.near.length c1) x)
    have HBODY := hide (fun W (h : Below w.heap.size w W) => bodyNode_any (.slice p1 x.near.length c1) x W hl (hv.then h))
    obtain ⟨q3, hq3⟩ : ∃ q, q = (inB x.area 0 2 && x.key == 0) := ⟨_, rfl⟩
    obtain ⟨q4, hq4⟩ : ∃ q, q = (nearsB x.owner x.near && x.cost == 0 && !x.far) := ⟨_, rfl⟩
    rw [← hq3] at HKEY
    rw [← hq4] at HBODY
    have HR2 := hide (show R = (q1 && q2 && q3 && q4) by rw [HR.out, hq3, hq4]; simp only [Bool.and_assoc])
    clear hR hkv hv hnew hq3 hq4 HR hk1
    unfold recC at *
    go_enter Try.func49, Try.ntmps49
    go_wp2_with fail
    refine (HK.out _).mono ?_
    rintro e w1 ⟨rfl, b1⟩
    have hx1 : w1.heap[w.heap.size]? = some (.cells #[.int .i64 x.area, .int .i64 x.kind, .int .i64 x.owner, .int .i64 x.key, .int .i64 x.seq, .slice p1 x.near.length c1, .int .i64 x.cost, .bool x.far] 56) := by rw [b1.block _ (by simp)]; exact NEW.out
    have f2 := cells_at hx1 2
    have f4 := cells_at hx1 4
    simp at f2 f4
    have B1 := B0.trans (b1.mono B0.size)
    clear hx1 b1
    go_wp2_with fail
    refine (H1.out _).mono ?_
    rintro e w2 ⟨rfl, rfl⟩
    cases q1
    · go_wp2
      go_ret
      exact ⟨ret_bool (by rw [HR2.out]; rfl), B1⟩
    go_wp2_with fail
    refine (H2.out _).mono ?_
    rintro e w2 ⟨rfl, rfl⟩
    cases q2
    · go_wp2
      go_ret
      exact ⟨ret_bool (by rw [HR2.out]; rfl), B1⟩
    go_wp2_with fail
    refine (HKEY.out _).mono ?_
    rintro e w2 ⟨rfl, b2⟩
    have B2 := B1.trans (b2.mono B1.size)
    clear b2
    cases q3
    · go_wp2
      go_ret
      exact ⟨ret_bool (by rw [HR2.out]; rfl), B2⟩
    go_wp2_with fail
    refine (HBODY.out _ B2).mono ?_
    rintro e w3 ⟨rfl, b3⟩
    have B3 := B2.trans (b3.mono B2.size)
    clear b3
    go_wp2
    go_ret
    exact ⟨ret_bool (by rw [HR2.out]; rfl), B3⟩
  rw [if_neg hk1] at hR
  by_cases hk2 : x.kind = 2
  · rw [if_pos hk2] at hR
    have hkv : kindV x (.slice p1 x.near.length c1) = .tuple #[.iface 153 (.agg (recC x (.slice p1 x.near.length c1))), .bool true] := by unfold kindV; rw [if_neg hk1, if_pos hk2]
    rw [hkv] at HK
    have HR := hide hR
    have HV := hide hv
    have NEW := hide hnew
    have HKEY := hide (beyondKey_any (.slice p1 x.near.length c1) x)
    have HBODY := hide (fun W (h : Below w.heap.size w W) => bodyBeyond_any (.slice p1 x.near.length c1) x W hl (hv.then h))
    obtain ⟨q3, hq3⟩ : ∃ q, q = (inB x.area 0 2 && inB x.key 1 6) := ⟨_, rfl⟩
    obtain ⟨q4, hq4⟩ : ∃ q, q = (x.near.length == 0 && inB x.cost 0 60000 && !x.far) := ⟨_, rfl⟩
    rw [← hq3] at HKEY
    rw [← hq4] at HBODY
    have HR2 := hide (show R = (q1 && q2 && q3 && q4) by rw [HR.out, hq3, hq4]; simp only [Bool.and_assoc])
    clear hR hkv hv hnew hq3 hq4 HR hk1 hk2
    unfold recC at *
    go_enter Try.func49, Try.ntmps49
    go_wp2_with fail
    refine (HK.out _).mono ?_
    rintro e w1 ⟨rfl, b1⟩
    have hx1 : w1.heap[w.heap.size]? = some (.cells #[.int .i64 x.area, .int .i64 x.kind, .int .i64 x.owner, .int .i64 x.key, .int .i64 x.seq, .slice p1 x.near.length c1, .int .i64 x.cost, .bool x.far] 56) := by rw [b1.block _ (by simp)]; exact NEW.out
    have f2 := cells_at hx1 2
    have f4 := cells_at hx1 4
    simp at f2 f4
    have B1 := B0.trans (b1.mono B0.size)
    clear hx1 b1
    go_wp2_with fail
    refine (H1.out _).mono ?_
    rintro e w2 ⟨rfl, rfl⟩
    cases q1
    · go_wp2
      go_ret
      exact ⟨ret_bool (by rw [HR2.out]; rfl), B1⟩
    go_wp2_with fail
    refine (H2.out _).mono ?_
    rintro e w2 ⟨rfl, rfl⟩
    cases q2
    · go_wp2
      go_ret
      exact ⟨ret_bool (by rw [HR2.out]; rfl), B1⟩
    go_wp2_with fail
    refine (HKEY.out _).mono ?_
    rintro e w2 ⟨rfl, b2⟩
    have B2 := B1.trans (b2.mono B1.size)
    clear b2
    cases q3
    · go_wp2
      go_ret
      exact ⟨ret_bool (by rw [HR2.out]; rfl), B2⟩
    go_wp2_with fail
    refine (HBODY.out _ B2).mono ?_
    rintro e w3 ⟨rfl, b3⟩
    have B3 := B2.trans (b3.mono B2.size)
    clear b3
    go_wp2
    go_ret
    exact ⟨ret_bool (by rw [HR2.out]; rfl), B3⟩
  rw [if_neg hk2] at hR
  by_cases hk3 : x.kind = 3
  · rw [if_pos hk3] at hR
    have hkv : kindV x (.slice p1 x.near.length c1) = .tuple #[.iface 154 (.agg (recC x (.slice p1 x.near.length c1))), .bool true] := by unfold kindV; rw [if_neg hk1, if_neg hk2, if_pos hk3]
    rw [hkv] at HK
    have HR := hide hR
    have HV := hide hv
    have NEW := hide hnew
    have HKEY := hide (thingKey_any (.slice p1 x.near.length c1) x)
    have HBODY := hide (fun W (h : Below w.heap.size w W) => bodyThing_any (.slice p1 x.near.length c1) x W hl (hv.then h))
    obtain ⟨q3, hq3⟩ : ∃ q, q = (x.area == 9 && inB x.key 1 9) := ⟨_, rfl⟩
    obtain ⟨q4, hq4⟩ : ∃ q, q = (x.near.length == 0 && (inB x.cost 1 1000 || x.cost == 60000)) := ⟨_, rfl⟩
    rw [← hq3] at HKEY
    rw [← hq4] at HBODY
    have HR2 := hide (show R = (q1 && q2 && q3 && q4) by rw [HR.out, hq3, hq4]; simp only [Bool.and_assoc])
    clear hR hkv hv hnew hq3 hq4 HR hk1 hk2 hk3
    unfold recC at *
    go_enter Try.func49, Try.ntmps49
    go_wp2_with fail
    refine (HK.out _).mono ?_
    rintro e w1 ⟨rfl, b1⟩
    have hx1 : w1.heap[w.heap.size]? = some (.cells #[.int .i64 x.area, .int .i64 x.kind, .int .i64 x.owner, .int .i64 x.key, .int .i64 x.seq, .slice p1 x.near.length c1, .int .i64 x.cost, .bool x.far] 56) := by rw [b1.block _ (by simp)]; exact NEW.out
    have f2 := cells_at hx1 2
    have f4 := cells_at hx1 4
    simp at f2 f4
    have B1 := B0.trans (b1.mono B0.size)
    clear hx1 b1
    go_wp2_with fail
    refine (H1.out _).mono ?_
    rintro e w2 ⟨rfl, rfl⟩
    cases q1
    · go_wp2
      go_ret
      exact ⟨ret_bool (by rw [HR2.out]; rfl), B1⟩
    go_wp2_with fail
    refine (H2.out _).mono ?_
    rintro e w2 ⟨rfl, rfl⟩
    cases q2
    · go_wp2
      go_ret
      exact ⟨ret_bool (by rw [HR2.out]; rfl), B1⟩
    go_wp2_with fail
    refine (HKEY.out _).mono ?_
    rintro e w2 ⟨rfl, b2⟩
    have B2 := B1.trans (b2.mono B1.size)
    clear b2
    cases q3
    · go_wp2
      go_ret
      exact ⟨ret_bool (by rw [HR2.out]; rfl), B2⟩
    go_wp2_with fail
    refine (HBODY.out _ B2).mono ?_
    rintro e w3 ⟨rfl, b3⟩
    have B3 := B2.trans (b3.mono B2.size)
    clear b3
    go_wp2
    go_ret
    exact ⟨ret_bool (by rw [HR2.out]; rfl), B3⟩
  rw [if_neg hk3] at hR
  have hkv : kindV x (.slice p1 x.near.length c1) = .tuple #[.nilIface, .bool false] := by unfold kindV; rw [if_neg hk1, if_neg hk2, if_neg hk3]
  rw [hkv] at HK
  have hR2 : R = false := by rw [hR]; simp
  have HR2 := hide hR2
  clear hR hkv hv hnew hR2 H1 H2 hk1 hk2 hk3
  unfold recC at *
  go_enter Try.func49, Try.ntmps49
  go_wp2_with fail
  refine (HK.out _).mono ?_
  rintro e w1 ⟨rfl, b1⟩
  have B1 := B0.trans (b1.mono B0.size)
  clear b1
  go_wp2
  go_ret
  exact ⟨ret_bool HR2.out, B1⟩
end Go.Proofs.Ytdaigojpeofmpaa
