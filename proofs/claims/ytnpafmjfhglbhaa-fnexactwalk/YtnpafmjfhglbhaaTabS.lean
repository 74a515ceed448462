/-
  spec.l11At: its contract.
-/
import Derived.Test.YtnpafmjfhglbhaaTabM
namespace Go.Proofs.Ytnpafmjfhglbhaa
open Go.RowKit

set_option linter.unusedSimpArgs false

set_option maxRecDepth 100000 in
set_option maxHeartbeats 2000000 in
theorem l11At_any (v : Value) (ps : List JP) (x : LnD) (u : Value) (w : World) (hv : LnsAt w v ps w.heap.size) (hn : ps.length ≤ 1048576) :
    Calls Try.prog 25 #[v, .agg (lnC x u)] w fun e w' => e = .returned (.int .i64 (idxZ (fstsJ ps) x.thing x.to)) ∧ Below w.heap.size w w' := by
  obtain ⟨a, cap, rfl⟩ := hv.shape
  obtain ⟨R, hR⟩ : ∃ R, R = idxZ (fstsJ ps) x.thing x.to := ⟨_, rfl⟩
  rw [← hR]
  have HR := hide hR
  have HV := hide hv
  clear hR hv
  unfold lnC
  go_enter Try.func25, Try.ntmps25
  go_wp2
  have bw := (Below.refl w.heap.size w).alloc (Nat.le_refl _) (.cells #[.bool x.thing, .int .i64 x.to, u] 51)
  have hb0 := heap_alloc_new w (.cells #[.bool x.thing, .int .i64 x.to, u] 51)
  generalize w.alloc (.cells #[.bool x.thing, .int .i64 x.to, u] 51) = W0 at *
  have l0 := lt_of_heap hb0
  have HB0 := hide hb0
  clear hb0
  go_loopw [5] (fun i wr => ∃ k : Nat, k ≤ ps.length ∧ i = .int .i64 k ∧ Hid (∀ y ∈ (fstsJ ps).take k, isLn x.thing x.to y = false) ∧ Below W0.heap.size W0 wr) (fun i _ => ps.length - (intOf i).toNat)
  case atStart => exact ⟨0, by omega, rfl, hide (by simp), Below.refl _ _⟩
  case round =>
    obtain ⟨k, hk, rfl, HNO, hnx⟩ := hrel
    have bwr : Below w.heap.size w wr := bw.trans (hnx.mono bw.size)
    by_cases hlt : k < ps.length
    · obtain ⟨p, hp⟩ : ∃ p, ps[k]? = some p := ⟨ps[k], List.getElem?_eq_getElem hlt⟩
      obtain ⟨b, off, cp, hve, hbb, c0, c1, c2, _⟩ := HV.out.cells k p hp
      cases hve
      rw [← bwr.cell (p := ⟨b, off + k * 3, none⟩) hbb] at c0
      rw [← bwr.cell (p := ⟨b, off + k * 3 + 1, none⟩) hbb] at c1
      have hx := (hnx.block _ l0).trans HB0.out
      have x0 := cells_at hx 0
      have x1 := cells_at hx 1
      simp at x0 x1
      have hki : (0 : Int) ≤ (k : Int) := by omega
      have hkj : (k : Int) < (ps.length : Int) := by omega
      have hfk := fstsJ_at hp
      have HNX := hide (fun (e : isLn x.thing x.to p.1 = false) => take_noJ hfk HNO.out e)
      have HHIT := hide (fun (e : isLn x.thing x.to p.1 = true) => HR.out.trans (idxZ_hit hfk e HNO.out))
      have HIS := hide (show isLn x.thing x.to p.1 = (p.1.thing == x.thing && p.1.to == x.to) from rfl)
      clear hp hx hfk c2
      obtain ⟨p0, hp0⟩ : ∃ b, p.1.thing = b := ⟨_, rfl⟩
      obtain ⟨q0, hq0⟩ : ∃ b, x.thing = b := ⟨_, rfl⟩
      obtain ⟨p1, hp1⟩ : ∃ b, p.1.to = b := ⟨_, rfl⟩
      obtain ⟨q1, hq1⟩ : ∃ b, x.to = b := ⟨_, rfl⟩
      rw [hp0] at c0
      rw [hp1] at c1
      rw [hq0] at x0
      rw [hq1] at x1
      have HIS2 := HIS.out
      rw [hp0, hp1] at HIS2
      obtain ⟨T, hT⟩ : ∃ b, (p0 == x.thing) = b := ⟨_, rfl⟩
      have hT2 : (p0 == q0) = T := by rw [← hq0]; exact hT
      cases T
      · have HN := hide (HNX.out (by rw [HIS2, hT]; rfl))
        clear HIS2 hT HIS hp0 hq0 hp1 hq1
        go_wp2
        go_quiet (fail)
        go_wp2
        go_roundw
        case rel => exact ⟨k + 1, by omega, by go_num, HN, below_drewN hnx _⟩
        case measure => simp [intOf]; omega
      · by_cases h1 : p1 = q1
        · have hd : (p1 == q1) = true := by simpa using h1
          have he := HHIT.out (by rw [HIS2, hT, hq1, hd]; rfl)
          subst he
          clear HIS2 hT HIS hp0 hq0 hp1 hq1 h1
          go_wp2
          go_quiet (fail)
          go_wp2
          go_ret
          exact ⟨rfl, below_drewN bwr _⟩
        · have hd : (p1 == q1) = false := by simpa using h1
          have HN := hide (HNX.out (by rw [HIS2, hT, hq1, hd]; rfl))
          clear HIS2 hT HIS hp0 hq0 hp1 hq1 h1
          go_wp2
          go_quiet (fail)
          go_wp2
          go_roundw
          case rel => exact ⟨k + 1, by omega, by go_num, HN, below_drewN hnx _⟩
          case measure => simp [intOf]; omega
    · have hkn : k = ps.length := by omega
      have he : R = -1 := HR.out.trans (idxZ_none (fun y hy => by
        have := HNO.out
        rw [hkn, List.take_of_length_le (by simp [fstsJ])] at this
        exact this y hy))
      subst he
      clear hkn
      go_wp2
      go_ret
      exact ⟨rfl, bwr⟩
end Go.Proofs.Ytnpafmjfhglbhaa
