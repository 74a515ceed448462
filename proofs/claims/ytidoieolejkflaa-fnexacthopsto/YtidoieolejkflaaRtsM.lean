/-
  laws.markRouteS, heldRouteS: only the list's own memory turns; what was marked is held.
-/
import Derived.Test.YtidoieolejkflaaRtsL
namespace Go.Proofs.Ytidoieolejkflaa
open Go.RowKit

/-- the numbers of a record that is marked from c on -/
def mkQ (c : Int) (p : QP) : QP := (⟨c % 3 == 0, c + 1, c + 1 + 1, c + 1 + 1 + 1, c + 1 + 1 + 1 + 1, marksI (c + 1 + 1 + 1 + 1 + 1) p.1.hops.length⟩, p.2)

def nxQ (c : Int) (p : QP) : Int := c + 1 + 1 + 1 + 1 + 1 + (p.1.hops.length : Int)

def mkQL : Int → List QP → List QP
  | _, [] => []
  | c, p :: ps => mkQ c p :: mkQL (nxQ c p) ps

def mkQE : Int → List QP → Int
  | c, [] => c
  | c, p :: ps => mkQE (nxQ c p) ps

theorem mkQL_len (c : Int) (ps : List QP) : (mkQL c ps).length = ps.length := by
  induction ps generalizing c with
  | nil => rfl
  | cons p ps ih => simp [mkQL, ih]

theorem mkQE_append (c : Int) (a b : List QP) : mkQE c (a ++ b) = mkQE (mkQE c a) b := by
  induction a generalizing c with
  | nil => rfl
  | cons p a ih => exact ih _

theorem mkQL_append (c : Int) (a b : List QP) : mkQL c (a ++ b) = mkQL c a ++ mkQL (mkQE c a) b := by
  induction a generalizing c with
  | nil => rfl
  | cons p a ih => simp only [List.cons_append, mkQL, mkQE, ih]

theorem mkQE_step {ps : List QP} {k : Nat} {p : QP} (c : Int) (h : ps[k]? = some p) : mkQE c (ps.take (k + 1)) = nxQ (mkQE c (ps.take k)) p := by
  obtain ⟨hk, e⟩ := List.getElem?_eq_some_iff.1 h
  rw [List.take_succ_eq_append_getElem hk, mkQE_append, e]
  rfl

theorem mkQL_step {ps : List QP} {k : Nat} {p : QP} (c : Int) (h : ps[k]? = some p) : mkQL c (ps.take (k + 1)) = mkQL c (ps.take k) ++ [mkQ (mkQE c (ps.take k)) p] := by
  obtain ⟨hk, e⟩ := List.getElem?_eq_some_iff.1 h
  rw [List.take_succ_eq_append_getElem hk, mkQL_append, e]
  rfl

theorem mkQE_tot (c : Int) (ps : List QP) : c + (totQ ps : Int) ≤ mkQE c ps ∧ mkQE c ps ≤ c + 5 * (totQ ps : Int) := by
  induction ps generalizing c with
  | nil => simp [mkQE, totQ]
  | cons p ps ih =>
    have h := ih (nxQ c p)
    rw [totQ_cons]
    simp only [mkQE]
    unfold nxQ at h ⊢
    omega

theorem totQ_takeLe (ps : List QP) (k : Nat) : totQ (ps.take k) ≤ totQ ps := by
  have h := totQ_append (ps.take k) (ps.drop k)
  rw [List.take_append_drop] at h
  omega

theorem mkQL_at {ps : List QP} {k : Nat} {p : QP} (c : Int) (h : ps[k]? = some p) : (mkQL c ps)[k]? = some (mkQ (mkQE c (ps.take k)) p) := by
  obtain ⟨hk, e⟩ := List.getElem?_eq_some_iff.1 h
  have e2 : ps = ps.take k ++ (p :: ps.drop (k + 1)) := by
    rw [← e]
    simp
  have e3 : mkQL c ps = mkQL c (ps.take k) ++ (mkQ (mkQE c (ps.take k)) p :: mkQL (nxQ (mkQE c (ps.take k)) p) (ps.drop (k + 1))) := by
    conv => lhs; rw [e2]
    rw [mkQL_append]
    rfl
  rw [e3, List.getElem?_append_right (by rw [mkQL_len, List.length_take]; omega), mkQL_len, List.length_take, Nat.min_eq_left (by omega), Nat.sub_self]
  rfl

theorem apartQ_snd (ps : List QP) : ps.Pairwise ApartQ ↔ (ps.map (·.2)).Pairwise (fun a b : Value => ∀ k, a.ownBlock = some k → b.ownBlock ≠ some k) := by
  rw [List.pairwise_map]
  exact Iff.rfl

theorem apartQ_at {ps : List QP} (h : ps.Pairwise ApartQ) {i k : Nat} {p q : QP} (hi : ps[i]? = some p) (hk : ps[k]? = some q) (hne : i ≠ k) : ApartQ p q := by
  obtain ⟨h1, e1⟩ := List.getElem?_eq_some_iff.1 hi
  obtain ⟨h2, e2⟩ := List.getElem?_eq_some_iff.1 hk
  rw [List.pairwise_iff_getElem] at h
  rcases Nat.lt_or_ge i k with hl | hl
  · have := h i k h1 h2 hl
    rw [e1, e2] at this
    exact this
  · have := h k i h2 h1 (by omega)
    rw [e1, e2] at this
    exact fun j hj he => this j he hj

theorem setQ_snd {ps : List QP} {k : Nat} {p q : QP} (hk : ps[k]? = some p) (h : q.2 = p.2) : (ps.set k q).map (·.2) = ps.map (·.2) := by
  apply List.ext_getElem?
  intro i
  by_cases e : i = k
  · subst e
    obtain ⟨h1, e1⟩ := List.getElem?_eq_some_iff.1 hk
    rw [List.getElem?_map, List.getElem?_set_self h1, List.getElem?_map, hk]
    simp [h]
  · simp [List.getElem?_set_ne (Ne.symm e)]

/-- one record turned within its list -/
theorem RtsOwn.turn {W W8 : World} {lo hi g n cap k : Nat} {xs : List QP} {p q : QP} (h : RtsOwn W lo hi (.slice (some ⟨g, 0, none⟩) n cap) xs) (hn : xs.length = n) (hk : xs[k]? = some p) (hq : q.2 = p.2)
    (row : W8.ownsRow lo 59 6 (.slice (some ⟨g, 0, none⟩) n cap) n (flat encQ (xs.set k q))) (near : W8.ownsRow lo 3 1 q.2 q.1.hops.length (flat intE q.1.hops))
    (hkeep : ∀ j, j < W.heap.size → j ≠ g → some j ≠ p.2.ownBlock → W8.heap[j]? = W.heap[j]?) : RtsOwn W8 lo hi (.slice (some ⟨g, 0, none⟩) n cap) (xs.set k q) where
  row := by rw [List.length_set, hn]; exact row
  top := h.top
  apart := by rw [apartQ_snd, setQ_snd hk hq, ← apartQ_snd]; exact h.apart
  nears := by
    intro r hr
    obtain ⟨i, hi, e⟩ := List.getElem_of_mem hr
    have hr2 : (xs.set k q)[i]? = some r := by rw [← e]; exact List.getElem?_eq_getElem hi
    by_cases ek : i = k
    · subst ek
      rw [List.getElem?_set_self (by simpa using hi)] at hr2
      cases hr2
      refine ⟨near, ?_⟩
      rw [hq]
      exact (h.nears p (List.mem_of_getElem? hk)).2
    · rw [List.getElem?_set_ne (Ne.symm ek)] at hr2
      have ho := h.nears r (List.mem_of_getElem? hr2)
      refine ⟨owns_keepB ho.1 (fun j hj => ?_), ho.2⟩
      refine hkeep j (ho.1.lt j hj).2 ?_ ?_
      · rintro rfl
        obtain ⟨cur, hh⟩ : ∃ cur, W.heap[j]? = some (.cells cur 59 (0, 0)) := by
          rcases h.row.2 with ⟨h0, _⟩ | ⟨g', cap', cur', hv', _, hh', _⟩
          · cases h0
          · cases hv'; exact ⟨cur', hh'⟩
        rcases ho.1.2 with ⟨h0, _⟩ | ⟨g', cap', cur', hv', _, hh', _⟩
        · rw [h0] at hj; simp [Value.ownBlock] at hj
        · rw [hv'] at hj
          simp [Value.ownBlock] at hj
          subst hj
          rw [hh] at hh'
          simp at hh'
      · intro he
        exact apartQ_at h.apart hr2 hk ek j hj he.symm

theorem setQ5 {xs : List QP} {k : Nat} {p q : QP} (hk : xs[k]? = some p) (hq : q.2 = p.2) : ((((((flat encQ xs).set (k * 6) (.bool q.1.thing)).set (k * 6 + 1) (.int .i64 q.1.to)).set (k * 6 + 2) (.int .i64 q.1.kind)).set (k * 6 + 3) (.int .i64 q.1.cost)).set (k * 6 + 4) (.int .i64 q.1.far)) = flat encQ (xs.set k q) := by
  obtain ⟨hlt, _⟩ := List.getElem?_eq_some_iff.1 hk
  have e : ((((((flat encQ xs).set (k * 6) (.bool q.1.thing)).set (k * 6 + 1) (.int .i64 q.1.to)).set (k * 6 + 2) (.int .i64 q.1.kind)).set (k * 6 + 3) (.int .i64 q.1.cost)).set (k * 6 + 4) (.int .i64 q.1.far)).set (k * 6 + 5) q.2 = flat encQ (xs.set k q) := flat_set encQ_len xs k q hlt
  rw [← e]
  have h5 : ((((((flat encQ xs).set (k * 6) (.bool q.1.thing)).set (k * 6 + 1) (.int .i64 q.1.to)).set (k * 6 + 2) (.int .i64 q.1.kind)).set (k * 6 + 3) (.int .i64 q.1.cost)).set (k * 6 + 4) (.int .i64 q.1.far))[k * 6 + 5]? = some q.2 := by
    rw [List.getElem?_set_ne (by omega), List.getElem?_set_ne (by omega), List.getElem?_set_ne (by omega), List.getElem?_set_ne (by omega), List.getElem?_set_ne (by omega), flat_get encQ_len xs k 5 p hk (by omega), hq]
    rfl
  obtain ⟨h6, e6⟩ := List.getElem?_eq_some_iff.1 h5
  rw [← e6]
  exact (List.set_getElem_self h6).symm

abbrev setQM (W : World) (g o : Nat) (z : Int) : World := (((((W.setCell ⟨g, o, none⟩ (.bool (z % 3 == 0))).setCell ⟨g, o + 1, none⟩ (.int .i64 (z + 1))).setCell ⟨g, o + 2, none⟩ (.int .i64 (z + 1 + 1))).setCell ⟨g, o + 3, none⟩ (.int .i64 (z + 1 + 1 + 1))).setCell ⟨g, o + 4, none⟩ (.int .i64 (z + 1 + 1 + 1 + 1)))

theorem setQM_grown (W : World) (g o : Nat) (z : Int) : W.grownBy (setQM W g o z) (some g) := grown_trans (grown_trans (grown_trans (grown_trans (grown_set W g _ _) (grown_set _ g _ _)) (grown_set _ g _ _)) (grown_set _ g _ _)) (grown_set _ g _ _)

set_option maxRecDepth 100000 in
set_option maxHeartbeats 2000000 in
theorem markRouteS_any (v : Value) (lo hi : Nat) (ps : List QP) (c : Int) (w : World) (h : RtsOwn w lo hi v ps) (hn : totQ ps ≤ 1048576) (hc : 0 ≤ c) (hc2 : c ≤ 10000000) :
    Calls Try.prog 13 #[v, .int .i64 c] w fun e w' => e = .returned (.int .i64 (mkQE c ps)) ∧ RtsOwn w' lo hi v (mkQL c ps) ∧ Frame lo hi w w' := by
  have hnl := totQ_len ps
  by_cases h0 : ps.length = 0
  · have hps : ps = [] := List.length_eq_zero_iff.1 h0
    subst hps
    obtain ⟨a1, c1, rfl⟩ := owns_lenS h.row
    have H1 := hide h
    clear h
    go_enter Try.func13, Try.ntmps13
    go_wp2
    refine wp_loop_rounds 1 ?_
    rw [rounds_succ]
    go_wp2
    go_ret
    exact ⟨rfl, H1.out, Frame.refl _ _ _⟩
  · obtain ⟨g, cap, rfl, hg1, hl1⟩ := owns_shapeS h.row (by omega)
    have H1 := hide h
    have HG := hide (h.top g rfl)
    clear h h0
    go_enter Try.func13, Try.ntmps13
    go_wp2
    go_loopw [5, 1] (fun i r wr => ∃ (k : Nat), k ≤ ps.length ∧ i = .int .i64 k ∧ r = .int .i64 (mkQE c (ps.take k)) ∧ RtsOwn wr lo hi (.slice (some ⟨g, 0, none⟩) ps.length cap) (mkQL c (ps.take k) ++ ps.drop k) ∧ Frame lo hi w wr) (fun i _ _ => ps.length - (intOf i).toNat)
    case atStart => exact ⟨0, by omega, rfl, rfl, H1.out, Frame.refl _ _ _⟩
    case round =>
      clear H1
      obtain ⟨k, hk, rfl, rfl, hown, hnx⟩ := hrel
      by_cases hlt : k < ps.length
      · obtain ⟨p, hp⟩ : ∃ p, ps[k]? = some p := ⟨ps[k], List.getElem?_eq_getElem hlt⟩
        have hki : (0 : Int) ≤ (k : Int) := by omega
        have hkj : (k : Int) < (ps.length : Int) := by omega
        have ht1 := totQ_takeLe ps k
        have ht2 := mkQE_tot c (ps.take k)
        have hpl := totQ_mem (List.mem_of_getElem? hp)
        obtain ⟨z, hz⟩ : ∃ z, z = mkQE c (ps.take k) := ⟨_, rfl⟩
        rw [← hz] at ht2 ⊢
        have hz0 : 0 ≤ z := by omega
        have hz2 : z ≤ 100000000 := by omega
        obtain ⟨xs, hxs⟩ : ∃ xs, xs = mkQL c (ps.take k) ++ ps.drop k := ⟨_, rfl⟩
        rw [← hxs] at hown
        have hxl : xs.length = ps.length := by rw [hxs]; simp [mkQL_len]; omega
        have hxk : xs[k]? = some p := by
          rw [hxs, List.getElem?_append_right (by rw [mkQL_len, List.length_take]; omega), mkQL_len, List.length_take, Nat.min_eq_left (by omega), Nat.sub_self, List.getElem?_drop, Nat.add_zero]
          exact hp
        have hstep : xs.set k (mkQ z p) = mkQL c (ps.take (k + 1)) ++ ps.drop (k + 1) := by
          have ed : ps.drop k = p :: ps.drop (k + 1) := by
            obtain ⟨h1, e1⟩ := List.getElem?_eq_some_iff.1 hp
            rw [List.drop_eq_getElem_cons h1, e1]
          rw [hxs, mkQL_step c hp, ← hz, List.set_append_right _ _ (by rw [mkQL_len, List.length_take]; omega), mkQL_len, List.length_take, Nat.min_eq_left (by omega), Nat.sub_self, ed, List.set_cons_zero]
          simp
        have hnext : mkQE c (ps.take (k + 1)) = nxQ z p := by rw [mkQE_step c hp, hz]
        have hrow := hown.row
        rw [hxl] at hrow
        have hex : ∀ r, r < 6 → ∃ u, wr.cell? ⟨g, k * 6 + r, none⟩ = some u := fun r hr => own_cell hrow _ (by omega)
        obtain ⟨u0, d0⟩ := hex 0 (by omega)
        obtain ⟨u1, d1⟩ := hex 1 (by omega)
        obtain ⟨u2, d2⟩ := hex 2 (by omega)
        obtain ⟨u3, d3⟩ := hex 3 (by omega)
        obtain ⟨u4, d4⟩ := hex 4 (by omega)
        rw [Nat.add_zero] at d0
        have d5 : wr.cell? ⟨g, k * 6 + 5, none⟩ = some p.2 := by
          rw [hrow.cellAt _ (by omega), flat_get encQ_len xs k 5 p hxk (by omega)]
          rfl
        have f0 := hrow.frozenAt (k * 6)
        have f1 := hrow.frozenAt (k * 6 + 1)
        have f2 := hrow.frozenAt (k * 6 + 2)
        have f3 := hrow.frozenAt (k * 6 + 3)
        have f4 := hrow.frozenAt (k * 6 + 4)
        have f5 := hrow.frozenAt (k * 6 + 5)
        have hnear := (hown.nears p (List.mem_of_getElem? hxk)).1
        obtain ⟨na, nc, hpn⟩ := owns_lenS hnear
        rw [hpn] at d5
        have hzr : w.heap.size ≤ wr.heap.size := hnx.size
        obtain ⟨curg, hcurg⟩ : ∃ cur, wr.heap[g]? = some (.cells cur 59 (0, 0)) := by
          rcases hrow.2 with ⟨h0, _⟩ | ⟨g', cap', cur', hv', _, hh', _⟩
          · cases h0
          · cases hv'; exact ⟨cur', hh'⟩
        have hgne : some g ≠ p.2.ownBlock := own_type_ne2 hnear hcurg (by decide)
        rw [hpn] at hnear hgne
        have row5 := (((((hrow.stored (k * 6) (.bool (z % 3 == 0))).1.stored (k * 6 + 1) (.int .i64 (z + 1))).1.stored (k * 6 + 2) (.int .i64 (z + 1 + 1))).1.stored (k * 6 + 3) (.int .i64 (z + 1 + 1 + 1))).1.stored (k * 6 + 4) (.int .i64 (z + 1 + 1 + 1 + 1))).1
        have e5 := setQ5 (q := mkQ z p) hxk rfl
        have row5 : (setQM wr g (k * 6) z).ownsRow lo 59 6 (.slice (some ⟨g, 0, none⟩) ps.length cap) ps.length (flat encQ (xs.set k (mkQ z p))) := by
          rw [← e5]
          exact row5
        have gr5 := setQM_grown wr g (k * 6) z
        have near5 : (setQM wr g (k * 6) z).ownsRow lo 3 1 (.slice na p.1.hops.length nc) p.1.hops.length (flat intE p.1.hops) := owns_keepB hnear (fun j hj => gr5.block j (hnear.lt j hj).2 (fun e => hgne (by rw [hj, e])))
        have HMN := hide (markG_any (.slice na p.1.hops.length nc) lo p.1.hops (z + 1 + 1 + 1 + 1 + 1) (setQM wr g (k * 6) z) near5 (by omega) (by omega) (by omega))
        have HOWN := hide hown
        have HROW5 := hide row5
        have HGR5 := hide gr5
        have HXL := hide hxl
        have HXK := hide hxk
        have HSTEP := hide hstep
        have HNEXT := hide hnext
        have HPN := hide hpn
        have HGNE := hide hgne
        have HZ := hide hz
        have HTK := hide ht2
        clear hown hrow hxl hxk hstep hnext hpn hnear hex hcurg hxs hz hp row5 gr5 near5 hgne ht2 ht1 e5
        go_wp2_with fail
        refine HMN.out.mono ?_
        rintro e w6 ⟨rfl, near6, gr6⟩
        have row6 : w6.ownsRow lo 59 6 (.slice (some ⟨g, 0, none⟩) ps.length cap) ps.length (flat encQ (xs.set k (mkQ z p))) := owns_keepB HROW5.out (fun j hj => gr6.block j (HROW5.out.lt j hj).2 (fun e => HGNE.out (by cases hj; exact e)))
        have fr : Frame lo hi wr w6 := (Frame.grown HGR5.out (fun j hj => by simp at hj; have := HG.out; omega)).trans (Frame.grown gr6 (fun j hj => ⟨(near6.lt j hj).1, by have := (HOWN.out.nears p (List.mem_of_getElem? HXK.out)).2 j (by rw [HPN.out]; exact hj); exact this⟩))
        have fin := HOWN.out.turn (W8 := w6) (q := mkQ z p) HXL.out HXK.out rfl row6 (by
            have h9 := near6
            show World.ownsRow _ lo 3 1 p.2 (marksI _ _).length (flat intE (marksI _ _))
            rw [HPN.out, marksI_length]
            exact h9) (fun j h1 h2 h3 => by
            have g5 := HGR5.out.size
            have g6 := gr6.size
            rw [gr6.block j (by omega) (by rw [← HPN.out]; exact h3), HGR5.out.block j h1 (by simp; omega)])
        rw [HSTEP.out] at fin
        have FIN := hide fin
        have FR := hide fr
        clear row6 fr fin near6 gr6 HOWN HROW5 HMN HGR5
        go_wp2
        refine ⟨⟨k + 1, by omega, by go_num, ?_, FIN.out, hnx.trans FR.out⟩, by simp [intOf]; omega⟩
        rw [HNEXT.out]
        rfl
      · have hkn : k = ps.length := by omega
        have KN := hide hkn
        have OW := hide hown
        clear hkn hown
        go_wp2
        go_ret
        have h1 := OW.out
        rw [KN.out, List.take_length, List.drop_length, List.append_nil] at h1
        exact ⟨ret_int1 (by rw [KN.out, List.take_length]), h1, hnx⟩

end Go.Proofs.Ytidoieolejkflaa
