/-
  spec.Headers, impl.Headers: their contracts.
-/
import Derived.Test.YtnfockhbcneegaaHeadK
import Derived.Test.YtnfockhbcneegaaScopeJ
import Derived.Test.YtnfockhbcneegaaPutP
import Derived.Test.YtnfockhbcneegaaLaw5K
namespace Go.Proofs.Ytnfockhbcneegaa
open Go.RowKit

set_option linter.unusedSimpArgs false

theorem head_step {L : List RecD} {qs : List RP} {k : Nat} {p : RP} {v' : Value} (h : fsts qs = (L.take k).map headD ++ L.drop k) (hp : qs[k]? = some p) : fsts (qs.set k (headD p.1, v')) = (L.take (k + 1)).map headD ++ L.drop (k + 1) := by
  have h1 : (fsts qs)[k]? = some p.1 := fsts_at hp
  have hkq : k < qs.length := (List.getElem?_eq_some_iff.1 hp).1
  have hkl : k < L.length := by
    have e := congrArg List.length h
    simp [fsts] at e
    omega
  have hmin : min k L.length = k := by omega
  rw [h, List.getElem?_append_right (by simp; omega)] at h1
  simp [hmin] at h1
  have h2 : p.1 = L[k] := by rw [List.getElem?_eq_getElem hkl] at h1; exact (Option.some.inj h1).symm
  rw [fsts_set, h, List.set_append_right _ _ (by simp; omega)]
  simp only [List.length_map, List.length_take, hmin, Nat.sub_self]
  rw [List.drop_eq_getElem_cons hkl, List.set_cons_zero, List.take_succ_eq_append_getElem hkl, List.map_append, h2]
  simp

theorem none_near (W : World) (lo hi : Nat) (x : RecD) (h : x.near = []) : NearOwn W lo hi (x, .slice none 0 0) := by
  refine ⟨?_, fun k hk => by simp [Value.ownBlock] at hk⟩
  simp only [h]
  exact World.ownsRow_nil _ _ _ _

theorem headD_near (x : RecD) : (headD x).near = [] := rfl

set_option maxRecDepth 100000 in
set_option maxHeartbeats 2000000 in
theorem iheaders_any (v : Value) (ps : List RP) (hi : Nat) (a : Int) (w : World) (hv : RecsIn w hi v ps) (hhi : hi ≤ w.heap.size) (hn : tot ps ≤ 1048576) :
    Calls Try.prog 8 #[v, .int .i64 a] w fun e w' => ∃ x qs, e = .returned x ∧ fsts qs = ((fsts ps).filter (inScope a)).map headD ∧ RecsOwn w' w.heap.size w'.heap.size x qs ∧ Below w.heap.size w w' := by
  have HSC := hide (iscopeI_any v ps hi a w hv hhi hn)
  have hnl := tot_len ps
  obtain ⟨a1, c1, rfl⟩ := owns_lenS hv.row
  clear hv
  obtain ⟨L, hL⟩ : ∃ L, L = (fsts ps).filter (inScope a) := ⟨_, rfl⟩
  rw [← hL] at HSC ⊢
  go_enter Try.func8, Try.ntmps8
  go_wp2_with fail
  refine HSC.out.mono ?_
  rintro e w1 ⟨x, q0, rfl, f0, o0, b0⟩
  obtain ⟨xa, xc, rfl⟩ := owns_lenS o0.row
  have hLl : L.length ≤ ps.length := by
    rw [hL]
    have := List.length_filter_le (inScope a) (fsts ps)
    simpa [fsts] using this
  have hq0 : q0.length = L.length := by rw [← f0]; simp [fsts]
  rw [hq0] at o0 ⊢
  obtain ⟨n, hnn⟩ : ∃ n, n = L.length := ⟨_, rfl⟩
  rw [← hnn] at o0 hLl ⊢
  have O0 := hide o0
  have F0 := hide f0
  have HN := hide hnn
  have HQ0 := hide hq0
  clear o0 f0 hL hnn hq0 HSC
  go_wp2
  go_loopw [13] (fun i wr => ∃ (k : Nat) (qs : List RP), k ≤ n ∧ i = .int .i64 k ∧ Hid (qs.length = n) ∧ fsts qs = (L.take k).map headD ++ L.drop k ∧ RecsOwn wr w.heap.size wr.heap.size (.slice xa n xc) qs ∧ Below w.heap.size w wr) (fun i _ => n - (intOf i).toNat)
  case atStart => exact ⟨0, q0, by omega, rfl, hide (HQ0.out.trans HN.out.symm), by simpa using F0.out, O0.out, b0⟩
  case round =>
    obtain ⟨k, qs, hk, rfl, hql, hf, hown, hnx⟩ := hrel
    have hsz := hnx.size
    clear O0 F0 HQ0
    by_cases hlt : k < n
    · obtain ⟨p, hp⟩ : ∃ p, qs[k]? = some p := ⟨qs[k]'(by rw [hql.out]; exact hlt), List.getElem?_eq_getElem _⟩
      rcases hown.row.2 with ⟨_, h0⟩ | ⟨g, cap, cur, hve, hrr⟩
      · have := hql.out; omega
      simp only [Value.slice.injEq] at hve
      obtain ⟨rfl, hnq, rfl⟩ := hve
      clear hnq hrr
      obtain ⟨b, off, cap', hve, hbb, c0, c1, c2, c3, c4, c5, c6, c7, _⟩ := hown.at.cells k p hp
      simp only [Value.slice.injEq, Option.some.injEq, Addr.mk.injEq] at hve
      obtain ⟨⟨rfl, rfl, hnq0⟩, hnq, rfl⟩ := hve
      clear hnq hnq0
      obtain ⟨pa, pc, hpn⟩ := owns_lenS (hown.nears p (List.mem_of_getElem? hp)).1
      rw [hpn] at c5
      simp only [Nat.zero_add] at c0 c1 c2 c3 c4 c5 c6 c7
      have HI := ihead_any p.1 pa p.1.near.length pc
      obtain ⟨y, hy⟩ : ∃ y, y = headD p.1 := ⟨_, rfl⟩
      rw [← hy] at HI
      have hyn : y.near = [] := by rw [hy]; rfl
      unfold recC at HI
      have HIH := hide HI
      have HST := hide (head_step (v' := .slice none 0 0) hf hp)
      rw [← hy] at HST
      have HYN := hide hyn
      have OW := hide hown
      clear hf hp hown hpn HI hy hyn
      have hki : (0 : Int) ≤ (k : Int) := by omega
      have hkj : (k : Int) < (n : Int) := by omega
      go_wp2_with fail
      refine (HIH.out _).mono ?_
      rintro e w2 ⟨rfl, b2⟩
      have b2' : Below wr.heap.size wr w2 := ((Below.refl _ _).alloc (Nat.le_refl _) _).trans (b2.mono (by simp))
      have o2 := (OW.out.below b2' (Nat.le_refl _)).wide (Nat.le_refl _) b2'.size
      have hg2 := o2.row.lt g rfl
      have o2r := o2.row
      rw [hql.out] at o2r
      obtain ⟨y0, f0⟩ := own_cell o2r (k * 8) (by omega)
      obtain ⟨y1, f1⟩ := own_cell o2r (k * 8 + 1) (by omega)
      obtain ⟨y2, f2⟩ := own_cell o2r (k * 8 + 2) (by omega)
      obtain ⟨y3, f3⟩ := own_cell o2r (k * 8 + 3) (by omega)
      obtain ⟨y4, f4⟩ := own_cell o2r (k * 8 + 4) (by omega)
      obtain ⟨y5, f5⟩ := own_cell o2r (k * 8 + 5) (by omega)
      obtain ⟨y6, f6⟩ := own_cell o2r (k * 8 + 6) (by omega)
      obtain ⟨y7, f7⟩ := own_cell o2r (k * 8 + 7) (by omega)
      have fz := fun j => o2r.frozenAt j
      have hfin := RecsOwn.put (i := k) (r := (y, .slice none 0 0)) o2 hql.out.symm (none_near _ _ _ _ HYN.out) (fun q _ j _ he => by simp [Value.ownBlock] at he) (by have := hql.out; omega)
      have hB : Below w.heap.size w (putP w2 g (k * 8) (y, .slice none 0 0)) := (hnx.trans (b2'.mono hsz)).grown (putP_grown w2 g (k * 8) _) (by omega) (fun j hj => by simp at hj; omega)
      have HF := hide hfin
      have HB := hide hB
      clear hfin hB b2 b2' o2 o2r c0 c1 c2 c3 c4 c5 c6 c7 OW
      go_wp2
      go_roundw
      case rel => exact ⟨k + 1, _, by omega, by go_num, hide (by rw [List.length_set]; exact hql.out), HST.out, HF.out, HB.out⟩
      case measure => simp [intOf]; omega
    · have hkn : k = n := by omega
      have KN := hide hkn
      have OW := hide hown
      have HM := hide hf
      clear hkn hown hf
      go_wp2
      go_ret
      have h1 := HM.out
      rw [KN.out, HN.out, List.take_length, List.drop_length, List.append_nil] at h1
      first
        | exact ⟨_, qs, rfl, h1, OW.out, hnx⟩
        | exact ⟨_, rfl, qs, h1, OW.out, hnx⟩
theorem own_near {W : World} {lo : Nat} {x : RecD} {v : Value} (h : W.ownsRow lo 75 2 v 0 (flat nrE [])) (hx : x.near = []) : NearOwn W lo W.heap.size (x, v) := by
  refine ⟨?_, fun k hk => (h.lt k hk).2⟩
  simp only [hx]
  exact h

set_option maxRecDepth 100000 in
set_option maxHeartbeats 2000000 in
theorem sheaders_any (v : Value) (ps : List RP) (hi : Nat) (a : Int) (w : World) (hv : RecsIn w hi v ps) (hhi : hi ≤ w.heap.size) (hn : tot ps ≤ 1048576) :
    Calls Try.prog 17 #[v, .int .i64 a] w fun e w' => ∃ x qs, e = .returned x ∧ fsts qs = ((fsts ps).filter (inScope a)).map headD ∧ RecsOwn w' w.heap.size w'.heap.size x qs ∧ Below w.heap.size w w' := by
  have HSC := hide (sscopeI_any v ps hi a w hv hhi hn)
  have hnl := tot_len ps
  obtain ⟨a1, c1, rfl⟩ := owns_lenS hv.row
  clear hv
  obtain ⟨L, hL⟩ : ∃ L, L = (fsts ps).filter (inScope a) := ⟨_, rfl⟩
  rw [← hL] at HSC ⊢
  go_enter Try.func17, Try.ntmps17
  go_wp2_with fail
  refine HSC.out.mono ?_
  rintro e w1 ⟨x, q0, rfl, f0, o0, b0⟩
  obtain ⟨xa, xc, rfl⟩ := owns_lenS o0.row
  have hLl : L.length ≤ ps.length := by
    rw [hL]
    have := List.length_filter_le (inScope a) (fsts ps)
    simpa [fsts] using this
  have hq0 : q0.length = L.length := by rw [← f0]; simp [fsts]
  rw [hq0] at o0 ⊢
  obtain ⟨n, hnn⟩ : ∃ n, n = L.length := ⟨_, rfl⟩
  rw [← hnn] at o0 hLl ⊢
  have O0 := hide o0
  have F0 := hide f0
  have HN := hide hnn
  have HQ0 := hide hq0
  clear o0 f0 hL hnn hq0 HSC
  go_wp2
  go_loopw [6] (fun i wr => ∃ (k : Nat) (qs : List RP), k ≤ n ∧ i = .int .i64 k ∧ Hid (qs.length = n) ∧ fsts qs = (L.take k).map headD ++ L.drop k ∧ RecsOwn wr w.heap.size wr.heap.size (.slice xa n xc) qs ∧ Below w.heap.size w wr) (fun i _ => n - (intOf i).toNat)
  case atStart => exact ⟨0, q0, by omega, rfl, hide (HQ0.out.trans HN.out.symm), by simpa using F0.out, O0.out, b0⟩
  case round =>
    obtain ⟨k, qs, hk, rfl, hql, hf, hown, hnx⟩ := hrel
    have hsz := hnx.size
    clear O0 F0 HQ0
    by_cases hlt : k < n
    · obtain ⟨p, hp⟩ : ∃ p, qs[k]? = some p := ⟨qs[k]'(by rw [hql.out]; exact hlt), List.getElem?_eq_getElem _⟩
      rcases hown.row.2 with ⟨_, h0⟩ | ⟨g, cap, cur, hve, hrr⟩
      · have := hql.out; omega
      simp only [Value.slice.injEq] at hve
      obtain ⟨rfl, hnq, rfl⟩ := hve
      clear hnq hrr
      obtain ⟨b, off, cap', hve, hbb, c0, c1, c2, c3, c4, c5, c6, c7, _⟩ := hown.at.cells k p hp
      simp only [Value.slice.injEq, Option.some.injEq, Addr.mk.injEq] at hve
      obtain ⟨⟨rfl, rfl, hnq0⟩, hnq, rfl⟩ := hve
      clear hnq hnq0
      obtain ⟨pa, pc, hpn⟩ := owns_lenS (hown.nears p (List.mem_of_getElem? hp)).1
      rw [hpn] at c5
      simp only [Nat.zero_add] at c0 c1 c2 c3 c4 c5 c6 c7
      have HI := shead_any p.1 pa p.1.near.length pc
      obtain ⟨y, hy⟩ : ∃ y, y = headD p.1 := ⟨_, rfl⟩
      rw [← hy] at HI
      have hyn : y.near = [] := by rw [hy]; rfl
      unfold recC at HI
      have HIH := hide HI
      have HST := hide (fun v' => head_step (v' := v') hf hp)
      rw [← hy] at HST
      have HYN := hide hyn
      have OW := hide hown
      clear hf hp hown hpn HI hy hyn
      have hki : (0 : Int) ≤ (k : Int) := by omega
      have hkj : (k : Int) < (n : Int) := by omega
      go_wp2_with fail
      refine (HIH.out _).mono ?_
      rintro e w2 ⟨v', rfl, hn2, b2'⟩
      obtain ⟨va, vc, rfl⟩ := owns_lenS hn2
      have o2 := (OW.out.below b2' (Nat.le_refl _)).wide (Nat.le_refl _) b2'.size
      have hg2 := o2.row.lt g rfl
      have o2r := o2.row
      rw [hql.out] at o2r
      obtain ⟨y0, f0⟩ := own_cell o2r (k * 8) (by omega)
      obtain ⟨y1, f1⟩ := own_cell o2r (k * 8 + 1) (by omega)
      obtain ⟨y2, f2⟩ := own_cell o2r (k * 8 + 2) (by omega)
      obtain ⟨y3, f3⟩ := own_cell o2r (k * 8 + 3) (by omega)
      obtain ⟨y4, f4⟩ := own_cell o2r (k * 8 + 4) (by omega)
      obtain ⟨y5, f5⟩ := own_cell o2r (k * 8 + 5) (by omega)
      obtain ⟨y6, f6⟩ := own_cell o2r (k * 8 + 6) (by omega)
      obtain ⟨y7, f7⟩ := own_cell o2r (k * 8 + 7) (by omega)
      have fz := fun j => o2r.frozenAt j
      have hfin := RecsOwn.put (i := k) (r := (y, .slice va 0 vc)) o2 hql.out.symm (own_near (owns_baseS hn2 hsz) HYN.out) (fun q hq j hj he => by have h1 := (OW.out.nears q hq).2 j hj; have h2 := (hn2.lt j he).1; omega) (by have := hql.out; omega)
      have hB : Below w.heap.size w (putP w2 g (k * 8) (y, .slice va 0 vc)) := (hnx.trans (b2'.mono hsz)).grown (putP_grown w2 g (k * 8) _) (by omega) (fun j hj => by simp at hj; omega)
      have HF := hide hfin
      have HB := hide hB
      clear hfin hB hn2 b2' o2 o2r c0 c1 c2 c3 c4 c5 c6 c7 OW
      go_wp2
      go_roundw
      case rel => exact ⟨k + 1, _, by omega, by go_num, hide (by rw [List.length_set]; exact hql.out), HST.out _, HF.out, HB.out⟩
      case measure => simp [intOf]; omega
    · have hkn : k = n := by omega
      have KN := hide hkn
      have OW := hide hown
      have HM := hide hf
      clear hkn hown hf
      go_wp2
      go_ret
      have h1 := HM.out
      rw [KN.out, HN.out, List.take_length, List.drop_length, List.append_nil] at h1
      first
        | exact ⟨_, qs, rfl, h1, OW.out, hnx⟩
        | exact ⟨_, rfl, qs, h1, OW.out, hnx⟩
end Go.Proofs.Ytnfockhbcneegaa
