/-
  spec.HopsTo, impl.HopsTo: their contracts.
-/
import Derived.Test.YtidoieolejkflaaHopsToS
import Derived.Test.YtidoieolejkflaaIntsK
namespace Go.Proofs.Ytidoieolejkflaa
open Go.RowKit

set_option linter.unusedSimpArgs false

set_option maxRecDepth 100000 in
set_option maxHeartbeats 2000000 in
theorem shopsTo_any (v : Value) (ps : List QP) (lo hi : Nat) (t : Bool) (z : Int) (w : World) (hv : RtsOwn w lo hi v ps) (hhi : hi ≤ w.heap.size) (hn : totQ ps ≤ 1048576) :
    Calls Try.prog 8 #[v, .bool t, .int .i64 z] w fun e w' => ∃ u, e = .returned u ∧ IntsOwn w' w.heap.size w'.heap.size u (hopsToD (fstsQ ps) t z) ∧ Below w.heap.size w w' := by
  have hnl := totQ_len ps
  obtain ⟨D, hD⟩ : ∃ D, D = hopsToD (fstsQ ps) t z := ⟨_, rfl⟩
  rw [← hD]
  have HD := hide hD
  clear hD
  obtain ⟨a1, c1, rfl⟩ := owns_lenS hv.row
  have HV := hide hv
  clear hv
  go_enter Try.func8, Try.ntmps8
  go_wp2
  go_loopw [7] (fun i wr => ∃ k : Nat, k ≤ ps.length ∧ i = .int .i64 k ∧ Hid (∀ q ∈ ps.take k, isThere t z q.1 = false) ∧ Below w.heap.size w wr) (fun i _ => ps.length - (intOf i).toNat)
  case atStart => exact ⟨0, by omega, rfl, hide (by simp), Below.refl _ _⟩
  case round =>
    obtain ⟨k, hk, rfl, HNO, hnx⟩ := hrel
    have hsz := hnx.size
    by_cases hlt : k < ps.length
    · obtain ⟨p, hp⟩ : ∃ p, ps[k]? = some p := ⟨ps[k], List.getElem?_eq_getElem hlt⟩
      obtain ⟨b, off, cp, hve, hbb, c0, c1, c2, c3, c4, c5, _⟩ := HV.out.at.cells k p hp
      cases hve
      have hbw : b < w.heap.size := by omega
      have hno := HV.out.nears p (List.mem_of_getElem? hp)
      obtain ⟨pa, pc, hpn⟩ := owns_lenS hno.1
      have hpl : p.1.hops.length ≤ 1048576 := by have := totQ_mem (List.mem_of_getElem? hp); omega
      have OW := hide (fun W (hb : Below w.heap.size w W) => owns_below hno.1 hb (Nat.le_refl _))
      rw [hpn] at c5 OW
      rw [← hnx.cell (p := ⟨b, off + k * 6, none⟩) hbw] at c0
      rw [← hnx.cell (p := ⟨b, off + k * 6 + 1, none⟩) hbw] at c1
      rw [← hnx.cell (p := ⟨b, off + k * 6 + 2, none⟩) hbw] at c2
      rw [← hnx.cell (p := ⟨b, off + k * 6 + 3, none⟩) hbw] at c3
      rw [← hnx.cell (p := ⟨b, off + k * 6 + 4, none⟩) hbw] at c4
      rw [← hnx.cell (p := ⟨b, off + k * 6 + 5, none⟩) hbw] at c5
      have hki : (0 : Int) ≤ (k : Int) := by omega
      have hkj : (k : Int) < (ps.length : Int) := by omega
      have HT := hide (fun (b : Bool) (e : p.1.thing = b) => show isThere t z p.1 = (b == t && p.1.to == z) by rw [← e]; rfl)
      have HNX := hide (fun (e : isThere t z p.1 = false) => takeQ_all hp HNO.out e)
      have HHIT := hide (fun (e : isThere t z p.1 = true) => HD.out.trans (hopsTo_hit hp HNO.out e))
      clear hp hno hpn
      obtain ⟨tv, htv⟩ : ∃ b, p.1.thing = b := ⟨_, rfl⟩
      rw [htv] at c0
      have HTV := hide (HT.out tv htv)
      clear HT htv
      cases tv <;> cases t
      · by_cases hzz : p.1.to = z
        · have hd : (p.1.to == z) = true := by simpa using hzz
          have hDe : D = p.1.hops := HHIT.out (by rw [HTV.out, hd]; rfl)
          subst hDe
          clear hzz
          have hbr : b < wr.heap.size := by omega
          rw [← ((Below.refl wr.heap.size wr).alloc (Nat.le_refl _) (.cells #[] 3)).cell (p := ⟨b, off + k * 6 + 5, none⟩) hbr] at c5
          go_wp2_with (first
            | (at_builtin; refine append_row5 int_flat1 (by omega) intE_one (by omega) _ rfl _ _ 24 rfl wr.heap.size 3 Try.underlying24 (.int .i64 0) rfl Try.info3 _ [] rfl ?own0 lo _ p.1.hops rfl ((OW.out _ hnx).alloc _) (by simp; omega) (by simp) ?_))
          case own0 => exact own_litI _ _ _ (by simp) (by simp)
          intro v' w4 hown' hgrow
          obtain ⟨na, nc, rfl⟩ := owns_lenS hown'
          simp only [Value.ownBlock] at hgrow
          have hb4 := hide ((hnx.alloc (by omega) _).grown hgrow (by simp; omega) (fun k hk => by simp at hk; omega))
          have H1 := hide (owns_baseS (b0 := w.heap.size) hown' (by omega))
          clear hown' hgrow
          go_wp2
          go_ret
          exact ⟨_, rfl, IntsOwn.of (by simpa using H1.out), hb4.out⟩
        · have hd : (p.1.to == z) = false := by simpa using hzz
          have HN := hide (HNX.out (by rw [HTV.out, hd]; rfl))
          go_wp2
          go_roundw
          case rel => exact ⟨k + 1, by omega, by go_num, HN, hnx⟩
          case measure => simp [intOf]; omega
      · have HN := hide (HNX.out (by rw [HTV.out]; rfl))
        go_wp2
        go_roundw
        case rel => exact ⟨k + 1, by omega, by go_num, HN, hnx⟩
        case measure => simp [intOf]; omega
      · have HN := hide (HNX.out (by rw [HTV.out]; rfl))
        go_wp2
        go_roundw
        case rel => exact ⟨k + 1, by omega, by go_num, HN, hnx⟩
        case measure => simp [intOf]; omega
      · by_cases hzz : p.1.to = z
        · have hd : (p.1.to == z) = true := by simpa using hzz
          have hDe : D = p.1.hops := HHIT.out (by rw [HTV.out, hd]; rfl)
          subst hDe
          clear hzz
          have hbr : b < wr.heap.size := by omega
          rw [← ((Below.refl wr.heap.size wr).alloc (Nat.le_refl _) (.cells #[] 3)).cell (p := ⟨b, off + k * 6 + 5, none⟩) hbr] at c5
          go_wp2_with (first
            | (at_builtin; refine append_row5 int_flat1 (by omega) intE_one (by omega) _ rfl _ _ 24 rfl wr.heap.size 3 Try.underlying24 (.int .i64 0) rfl Try.info3 _ [] rfl ?own0 lo _ p.1.hops rfl ((OW.out _ hnx).alloc _) (by simp; omega) (by simp) ?_))
          case own0 => exact own_litI _ _ _ (by simp) (by simp)
          intro v' w4 hown' hgrow
          obtain ⟨na, nc, rfl⟩ := owns_lenS hown'
          simp only [Value.ownBlock] at hgrow
          have hb4 := hide ((hnx.alloc (by omega) _).grown hgrow (by simp; omega) (fun k hk => by simp at hk; omega))
          have H1 := hide (owns_baseS (b0 := w.heap.size) hown' (by omega))
          clear hown' hgrow
          go_wp2
          go_ret
          exact ⟨_, rfl, IntsOwn.of (by simpa using H1.out), hb4.out⟩
        · have hd : (p.1.to == z) = false := by simpa using hzz
          have HN := hide (HNX.out (by rw [HTV.out, hd]; rfl))
          go_wp2
          go_roundw
          case rel => exact ⟨k + 1, by omega, by go_num, HN, hnx⟩
          case measure => simp [intOf]; omega
    · have hDe : D = [] := HD.out.trans (hopsTo_none (by have h := HNO.out; rw [List.take_of_length_le (by omega)] at h; exact h))
      subst hDe
      go_wp2
      go_ret
      exact ⟨_, rfl, IntsOwn.of (own_litI _ _ _ rfl (by omega)), hnx.alloc (by omega) _⟩

set_option maxRecDepth 100000 in
set_option maxHeartbeats 2000000 in
theorem ihopsTo_any (v : Value) (ps : List QP) (lo hi : Nat) (t : Bool) (z : Int) (w : World) (hv : RtsOwn w lo hi v ps) (hhi : hi ≤ w.heap.size) (hn : totQ ps ≤ 1048576) :
    Calls Try.prog 10 #[v, .bool t, .int .i64 z] w fun e w' => ∃ u, e = .returned u ∧ IntsOwn w' w.heap.size w'.heap.size u (hopsToD (fstsQ ps) t z) ∧ Below w.heap.size w w' := by
  have hnl := totQ_len ps
  obtain ⟨D, hD⟩ : ∃ D, D = hopsToD (fstsQ ps) t z := ⟨_, rfl⟩
  rw [← hD]
  have HD := hide hD
  clear hD
  obtain ⟨a1, c1, rfl⟩ := owns_lenS hv.row
  have HV := hide hv
  clear hv
  go_enter Try.func10, Try.ntmps10
  go_wp2
  go_loopw [11] (fun i wr => ∃ k : Nat, k ≤ ps.length ∧ i = .int .i64 k ∧ Hid (∀ q ∈ ps.take k, isThere t z q.1 = false) ∧ Below w.heap.size w wr) (fun i _ => ps.length - (intOf i).toNat)
  case atStart => exact ⟨0, by omega, rfl, hide (by simp), Below.refl _ _⟩
  case round =>
    obtain ⟨k, hk, rfl, HNO, hnx⟩ := hrel
    have hsz := hnx.size
    by_cases hlt : k < ps.length
    · obtain ⟨p, hp⟩ : ∃ p, ps[k]? = some p := ⟨ps[k], List.getElem?_eq_getElem hlt⟩
      obtain ⟨b, off, cp, hve, hbb, c0, c1, c2, c3, c4, c5, _⟩ := HV.out.at.cells k p hp
      cases hve
      have hbw : b < w.heap.size := by omega
      have hno := HV.out.nears p (List.mem_of_getElem? hp)
      obtain ⟨pa, pc, hpn⟩ := owns_lenS hno.1
      have hpl : p.1.hops.length ≤ 1048576 := by have := totQ_mem (List.mem_of_getElem? hp); omega
      have OW := hide (fun W (hb : Below w.heap.size w W) => owns_below hno.1 hb (Nat.le_refl _))
      rw [hpn] at c5 OW
      rw [← hnx.cell (p := ⟨b, off + k * 6, none⟩) hbw] at c0
      rw [← hnx.cell (p := ⟨b, off + k * 6 + 1, none⟩) hbw] at c1
      rw [← hnx.cell (p := ⟨b, off + k * 6 + 2, none⟩) hbw] at c2
      rw [← hnx.cell (p := ⟨b, off + k * 6 + 3, none⟩) hbw] at c3
      rw [← hnx.cell (p := ⟨b, off + k * 6 + 4, none⟩) hbw] at c4
      rw [← hnx.cell (p := ⟨b, off + k * 6 + 5, none⟩) hbw] at c5
      have hki : (0 : Int) ≤ (k : Int) := by omega
      have hkj : (k : Int) < (ps.length : Int) := by omega
      have HT := hide (fun (b : Bool) (e : p.1.thing = b) => show isThere t z p.1 = (b == t && p.1.to == z) by rw [← e]; rfl)
      have HNX := hide (fun (e : isThere t z p.1 = false) => takeQ_all hp HNO.out e)
      have HHIT := hide (fun (e : isThere t z p.1 = true) => HD.out.trans (hopsTo_hit hp HNO.out e))
      clear hp hno hpn
      obtain ⟨tv, htv⟩ : ∃ b, p.1.thing = b := ⟨_, rfl⟩
      rw [htv] at c0
      have HTV := hide (HT.out tv htv)
      clear HT htv
      cases tv <;> cases t
      · by_cases hzz : p.1.to = z
        · have hd : (p.1.to == z) = true := by simpa using hzz
          have hDe : D = p.1.hops := HHIT.out (by rw [HTV.out, hd]; rfl)
          subst hDe
          clear hzz
          go_wp2_with fail
          refine (ownHops_any p.1.hops (.slice pa p.1.hops.length pc) lo _ (OW.out _ (hnx.alloc (by omega) _)) hpl).mono ?_
          rintro e w2 ⟨v1, rfl, ho, b2⟩
          obtain ⟨na, nc, rfl⟩ := owns_lenS ho
          have H1 := hide (owns_baseS (b0 := w.heap.size) ho (by simp; omega))
          have hb4 := hide ((hnx.alloc (by omega) _).trans (b2.mono (by simp; omega)))
          clear ho b2
          go_wp2
          go_ret
          exact ⟨_, rfl, IntsOwn.of H1.out, hb4.out⟩
        · have hd : (p.1.to == z) = false := by simpa using hzz
          have HN := hide (HNX.out (by rw [HTV.out, hd]; rfl))
          go_wp2
          go_roundw
          case rel => exact ⟨k + 1, by omega, by go_num, HN, (hnx.alloc (by omega) _)⟩
          case measure => simp [intOf]; omega
      · have HN := hide (HNX.out (by rw [HTV.out]; rfl))
        go_wp2
        go_roundw
        case rel => exact ⟨k + 1, by omega, by go_num, HN, (hnx.alloc (by omega) _)⟩
        case measure => simp [intOf]; omega
      · have HN := hide (HNX.out (by rw [HTV.out]; rfl))
        go_wp2
        go_roundw
        case rel => exact ⟨k + 1, by omega, by go_num, HN, (hnx.alloc (by omega) _)⟩
        case measure => simp [intOf]; omega
      · by_cases hzz : p.1.to = z
        · have hd : (p.1.to == z) = true := by simpa using hzz
          have hDe : D = p.1.hops := HHIT.out (by rw [HTV.out, hd]; rfl)
          subst hDe
          clear hzz
          go_wp2_with fail
          refine (ownHops_any p.1.hops (.slice pa p.1.hops.length pc) lo _ (OW.out _ (hnx.alloc (by omega) _)) hpl).mono ?_
          rintro e w2 ⟨v1, rfl, ho, b2⟩
          obtain ⟨na, nc, rfl⟩ := owns_lenS ho
          have H1 := hide (owns_baseS (b0 := w.heap.size) ho (by simp; omega))
          have hb4 := hide ((hnx.alloc (by omega) _).trans (b2.mono (by simp; omega)))
          clear ho b2
          go_wp2
          go_ret
          exact ⟨_, rfl, IntsOwn.of H1.out, hb4.out⟩
        · have hd : (p.1.to == z) = false := by simpa using hzz
          have HN := hide (HNX.out (by rw [HTV.out, hd]; rfl))
          go_wp2
          go_roundw
          case rel => exact ⟨k + 1, by omega, by go_num, HN, (hnx.alloc (by omega) _)⟩
          case measure => simp [intOf]; omega
    · have hDe : D = [] := HD.out.trans (hopsTo_none (by have h := HNO.out; rw [List.take_of_length_le (by omega)] at h; exact h))
      subst hDe
      go_wp2
      go_ret
      exact ⟨_, rfl, IntsOwn.of (own_litI _ _ _ rfl (by omega)), hnx.alloc (by omega) _⟩

end Go.Proofs.Ytidoieolejkflaa
