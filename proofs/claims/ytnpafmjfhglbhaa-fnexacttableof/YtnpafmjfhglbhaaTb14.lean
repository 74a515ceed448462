/-
  laws.markRouteS, heldRouteS: only the list's own memory turns; what was marked is held.
  What the laws of routes want.
  laws.FnExactTableOf: its walk.
-/
import Derived.Test.YtnpafmjfhglbhaaTb12
import Derived.Test.YtnpafmjfhglbhaaTb13
namespace Go.Proofs.Ytnpafmjfhglbhaa
open Go.RowKit

/-- the numbers of a record that is marked from c on -/
def mkQ (c : Int) (p : QP) : QP := (⟨c % 3 == 0, c + 1, c + 1 + 1, c + 1 + 1 + 1, c + 1 + 1 + 1 + 1, marksI (c + 1 + 1 + 1 + 1 + 1) p.1.hops.length⟩, p.2)

def nxQ (c : Int) (p : QP) : Int := c + 1 + 1 + 1 + 1 + 1 + (p.1.hops.length : Int)

def mkQL : Int → List QP → List QP
  | _, [] => []
  | c, p :: ps => mkQ c p :: mkQL (nxQ c p) ps

def mkQE : Int → List QP → Int
  | c, [] => c
  | c, p :: ps => mkQE (nxQ c p) ps

theorem mkQL_len (c : Int) (ps : List QP) : (mkQL c ps).length = ps.length := by
  induction ps generalizing c with
  | nil => rfl
  | cons p ps ih => simp [mkQL, ih]

theorem mkQE_append (c : Int) (a b : List QP) : mkQE c (a ++ b) = mkQE (mkQE c a) b := by
  induction a generalizing c with
  | nil => rfl
  | cons p a ih => exact ih _

theorem mkQL_append (c : Int) (a b : List QP) : mkQL c (a ++ b) = mkQL c a ++ mkQL (mkQE c a) b := by
  induction a generalizing c with
  | nil => rfl
  | cons p a ih => simp only [List.cons_append, mkQL, mkQE, ih]

theorem mkQE_step {ps : List QP} {k : Nat} {p : QP} (c : Int) (h : ps[k]? = some p) : mkQE c (ps.take (k + 1)) = nxQ (mkQE c (ps.take k)) p := by
  obtain ⟨hk, e⟩ := List.getElem?_eq_some_iff.1 h
  rw [List.take_succ_eq_append_getElem hk, mkQE_append, e]
  rfl

theorem mkQL_step {ps : List QP} {k : Nat} {p : QP} (c : Int) (h : ps[k]? = some p) : mkQL c (ps.take (k + 1)) = mkQL c (ps.take k) ++ [mkQ (mkQE c (ps.take k)) p] := by
  obtain ⟨hk, e⟩ := List.getElem?_eq_some_iff.1 h
  rw [List.take_succ_eq_append_getElem hk, mkQL_append, e]
  rfl

theorem mkQE_tot (c : Int) (ps : List QP) : c + (totQ ps : Int) ≤ mkQE c ps ∧ mkQE c ps ≤ c + 5 * (totQ ps : Int) := by
  induction ps generalizing c with
  | nil => simp [mkQE, totQ]
  | cons p ps ih =>
    have h := ih (nxQ c p)
    rw [totQ_cons]
    simp only [mkQE]
    unfold nxQ at h ⊢
    omega

theorem totQ_takeLe (ps : List QP) (k : Nat) : totQ (ps.take k) ≤ totQ ps := by
  have h := totQ_append (ps.take k) (ps.drop k)
  rw [List.take_append_drop] at h
  omega

theorem mkQL_at {ps : List QP} {k : Nat} {p : QP} (c : Int) (h : ps[k]? = some p) : (mkQL c ps)[k]? = some (mkQ (mkQE c (ps.take k)) p) := by
  obtain ⟨hk, e⟩ := List.getElem?_eq_some_iff.1 h
  have e2 : ps = ps.take k ++ (p :: ps.drop (k + 1)) := by
    rw [← e]
    simp
  have e3 : mkQL c ps = mkQL c (ps.take k) ++ (mkQ (mkQE c (ps.take k)) p :: mkQL (nxQ (mkQE c (ps.take k)) p) (ps.drop (k + 1))) := by
    conv => lhs; rw [e2]
    rw [mkQL_append]
    rfl
  rw [e3, List.getElem?_append_right (by rw [mkQL_len, List.length_take]; omega), mkQL_len, List.length_take, Nat.min_eq_left (by omega), Nat.sub_self]
  rfl

theorem apartQ_snd (ps : List QP) : ps.Pairwise ApartQ ↔ (ps.map (·.2)).Pairwise (fun a b : Value => ∀ k, a.ownBlock = some k → b.ownBlock ≠ some k) := by
  rw [List.pairwise_map]
  exact Iff.rfl

theorem apartQ_at {ps : List QP} (h : ps.Pairwise ApartQ) {i k : Nat} {p q : QP} (hi : ps[i]? = some p) (hk : ps[k]? = some q) (hne : i ≠ k) : ApartQ p q := by
  obtain ⟨h1, e1⟩ := List.getElem?_eq_some_iff.1 hi
  obtain ⟨h2, e2⟩ := List.getElem?_eq_some_iff.1 hk
  rw [List.pairwise_iff_getElem] at h
  rcases Nat.lt_or_ge i k with hl | hl
  · have := h i k h1 h2 hl
    rw [e1, e2] at this
    exact this
  · have := h k i h2 h1 (by omega)
    rw [e1, e2] at this
    exact fun j hj he => this j he hj

theorem setQ_snd {ps : List QP} {k : Nat} {p q : QP} (hk : ps[k]? = some p) (h : q.2 = p.2) : (ps.set k q).map (·.2) = ps.map (·.2) := by
  apply List.ext_getElem?
  intro i
  by_cases e : i = k
  · subst e
    obtain ⟨h1, e1⟩ := List.getElem?_eq_some_iff.1 hk
    rw [List.getElem?_map, List.getElem?_set_self h1, List.getElem?_map, hk]
    simp [h]
  · simp [List.getElem?_set_ne (Ne.symm e)]

/-- one record turned within its list -/
theorem RtsOwn.turn {W W8 : World} {lo hi g n cap k : Nat} {xs : List QP} {p q : QP} (h : RtsOwn W lo hi (.slice (some ⟨g, 0, none⟩) n cap) xs) (hn : xs.length = n) (hk : xs[k]? = some p) (hq : q.2 = p.2)
    (row : W8.ownsRow lo 49 6 (.slice (some ⟨g, 0, none⟩) n cap) n (flat encQ (xs.set k q))) (near : W8.ownsRow lo 3 1 q.2 q.1.hops.length (flat intE q.1.hops))
    (hkeep : ∀ j, j < W.heap.size → j ≠ g → some j ≠ p.2.ownBlock → W8.heap[j]? = W.heap[j]?) : RtsOwn W8 lo hi (.slice (some ⟨g, 0, none⟩) n cap) (xs.set k q) where
  row := by rw [List.length_set, hn]; exact row
  top := h.top
  apart := by rw [apartQ_snd, setQ_snd hk hq, ← apartQ_snd]; exact h.apart
  nears := by
    intro r hr
    obtain ⟨i, hi, e⟩ := List.getElem_of_mem hr
    have hr2 : (xs.set k q)[i]? = some r := by rw [← e]; exact List.getElem?_eq_getElem hi
    by_cases ek : i = k
    · subst ek
      rw [List.getElem?_set_self (by simpa using hi)] at hr2
      cases hr2
      refine ⟨near, ?_⟩
      rw [hq]
      exact (h.nears p (List.mem_of_getElem? hk)).2
    · rw [List.getElem?_set_ne (Ne.symm ek)] at hr2
      have ho := h.nears r (List.mem_of_getElem? hr2)
      refine ⟨owns_keepB ho.1 (fun j hj => ?_), ho.2⟩
      refine hkeep j (ho.1.lt j hj).2 ?_ ?_
      · rintro rfl
        obtain ⟨cur, hh⟩ : ∃ cur, W.heap[j]? = some (.cells cur 49 (0, 0)) := by
          rcases h.row.2 with ⟨h0, _⟩ | ⟨g', cap', cur', hv', _, hh', _⟩
          · cases h0
          · cases hv'; exact ⟨cur', hh'⟩
        rcases ho.1.2 with ⟨h0, _⟩ | ⟨g', cap', cur', hv', _, hh', _⟩
        · rw [h0] at hj; simp [Value.ownBlock] at hj
        · rw [hv'] at hj
          simp [Value.ownBlock] at hj
          subst hj
          rw [hh] at hh'
          simp at hh'
      · intro he
        exact apartQ_at h.apart hr2 hk ek j hj he.symm

theorem setQ5 {xs : List QP} {k : Nat} {p q : QP} (hk : xs[k]? = some p) (hq : q.2 = p.2) : ((((((flat encQ xs).set (k * 6) (.bool q.1.thing)).set (k * 6 + 1) (.int .i64 q.1.to)).set (k * 6 + 2) (.int .i64 q.1.kind)).set (k * 6 + 3) (.int .i64 q.1.cost)).set (k * 6 + 4) (.int .i64 q.1.far)) = flat encQ (xs.set k q) := by
  obtain ⟨hlt, _⟩ := List.getElem?_eq_some_iff.1 hk
  have e : ((((((flat encQ xs).set (k * 6) (.bool q.1.thing)).set (k * 6 + 1) (.int .i64 q.1.to)).set (k * 6 + 2) (.int .i64 q.1.kind)).set (k * 6 + 3) (.int .i64 q.1.cost)).set (k * 6 + 4) (.int .i64 q.1.far)).set (k * 6 + 5) q.2 = flat encQ (xs.set k q) := flat_set encQ_len xs k q hlt
  rw [← e]
  have h5 : ((((((flat encQ xs).set (k * 6) (.bool q.1.thing)).set (k * 6 + 1) (.int .i64 q.1.to)).set (k * 6 + 2) (.int .i64 q.1.kind)).set (k * 6 + 3) (.int .i64 q.1.cost)).set (k * 6 + 4) (.int .i64 q.1.far))[k * 6 + 5]? = some q.2 := by
    rw [List.getElem?_set_ne (by omega), List.getElem?_set_ne (by omega), List.getElem?_set_ne (by omega), List.getElem?_set_ne (by omega), List.getElem?_set_ne (by omega), flat_get encQ_len xs k 5 p hk (by omega), hq]
    rfl
  obtain ⟨h6, e6⟩ := List.getElem?_eq_some_iff.1 h5
  rw [← e6]
  exact (List.set_getElem_self h6).symm

abbrev setQM (W : World) (g o : Nat) (z : Int) : World := (((((W.setCell ⟨g, o, none⟩ (.bool (z % 3 == 0))).setCell ⟨g, o + 1, none⟩ (.int .i64 (z + 1))).setCell ⟨g, o + 2, none⟩ (.int .i64 (z + 1 + 1))).setCell ⟨g, o + 3, none⟩ (.int .i64 (z + 1 + 1 + 1))).setCell ⟨g, o + 4, none⟩ (.int .i64 (z + 1 + 1 + 1 + 1)))

theorem setQM_grown (W : World) (g o : Nat) (z : Int) : W.grownBy (setQM W g o z) (some g) := grown_trans (grown_trans (grown_trans (grown_trans (grown_set W g _ _) (grown_set _ g _ _)) (grown_set _ g _ _)) (grown_set _ g _ _)) (grown_set _ g _ _)

set_option maxRecDepth 100000 in
set_option maxHeartbeats 2000000 in
theorem markRouteS_any (v : Value) (lo hi : Nat) (ps : List QP) (c : Int) (w : World) (h : RtsOwn w lo hi v ps) (hn : totQ ps ≤ 1048576) (hc : 0 ≤ c) (hc2 : c ≤ 10000000) :
    Calls Try.prog 11 #[v, .int .i64 c] w fun e w' => e = .returned (.int .i64 (mkQE c ps)) ∧ RtsOwn w' lo hi v (mkQL c ps) ∧ Frame lo hi w w' := by
  have hnl := totQ_len ps
  by_cases h0 : ps.length = 0
  · have hps : ps = [] := List.length_eq_zero_iff.1 h0
    subst hps
    obtain ⟨a1, c1, rfl⟩ := owns_lenS h.row
    have H1 := hide h
    clear h
    go_enter Try.func11, Try.ntmps11
    go_wp2
    refine wp_loop_rounds 1 ?_
    rw [rounds_succ]
    go_wp2
    go_ret
    exact ⟨rfl, H1.out, Frame.refl _ _ _⟩
  · obtain ⟨g, cap, rfl, hg1, hl1⟩ := owns_shapeS h.row (by omega)
    have H1 := hide h
    have HG := hide (h.top g rfl)
    clear h h0
    go_enter Try.func11, Try.ntmps11
    go_wp2
    go_loopw [5, 1] (fun i r wr => ∃ (k : Nat), k ≤ ps.length ∧ i = .int .i64 k ∧ r = .int .i64 (mkQE c (ps.take k)) ∧ RtsOwn wr lo hi (.slice (some ⟨g, 0, none⟩) ps.length cap) (mkQL c (ps.take k) ++ ps.drop k) ∧ Frame lo hi w wr) (fun i _ _ => ps.length - (intOf i).toNat)
    case atStart => exact ⟨0, by omega, rfl, rfl, H1.out, Frame.refl _ _ _⟩
    case round =>
      clear H1
      obtain ⟨k, hk, rfl, rfl, hown, hnx⟩ := hrel
      by_cases hlt : k < ps.length
      · obtain ⟨p, hp⟩ : ∃ p, ps[k]? = some p := ⟨ps[k], List.getElem?_eq_getElem hlt⟩
        have hki : (0 : Int) ≤ (k : Int) := by omega
        have hkj : (k : Int) < (ps.length : Int) := by omega
        have ht1 := totQ_takeLe ps k
        have ht2 := mkQE_tot c (ps.take k)
        have hpl := totQ_mem (List.mem_of_getElem? hp)
        obtain ⟨z, hz⟩ : ∃ z, z = mkQE c (ps.take k) := ⟨_, rfl⟩
        rw [← hz] at ht2 ⊢
        have hz0 : 0 ≤ z := by omega
        have hz2 : z ≤ 100000000 := by omega
        obtain ⟨xs, hxs⟩ : ∃ xs, xs = mkQL c (ps.take k) ++ ps.drop k := ⟨_, rfl⟩
        rw [← hxs] at hown
        have hxl : xs.length = ps.length := by rw [hxs]; simp [mkQL_len]; omega
        have hxk : xs[k]? = some p := by
          rw [hxs, List.getElem?_append_right (by rw [mkQL_len, List.length_take]; omega), mkQL_len, List.length_take, Nat.min_eq_left (by omega), Nat.sub_self, List.getElem?_drop, Nat.add_zero]
          exact hp
        have hstep : xs.set k (mkQ z p) = mkQL c (ps.take (k + 1)) ++ ps.drop (k + 1) := by
          have ed : ps.drop k = p :: ps.drop (k + 1) := by
            obtain ⟨h1, e1⟩ := List.getElem?_eq_some_iff.1 hp
            rw [List.drop_eq_getElem_cons h1, e1]
          rw [hxs, mkQL_step c hp, ← hz, List.set_append_right _ _ (by rw [mkQL_len, List.length_take]; omega), mkQL_len, List.length_take, Nat.min_eq_left (by omega), Nat.sub_self, ed, List.set_cons_zero]
          simp
        have hnext : mkQE c (ps.take (k + 1)) = nxQ z p := by rw [mkQE_step c hp, hz]
        have hrow := hown.row
        rw [hxl] at hrow
        have hex : ∀ r, r < 6 → ∃ u, wr.cell? ⟨g, k * 6 + r, none⟩ = some u := fun r hr => own_cell hrow _ (by omega)
        obtain ⟨u0, d0⟩ := hex 0 (by omega)
        obtain ⟨u1, d1⟩ := hex 1 (by omega)
        obtain ⟨u2, d2⟩ := hex 2 (by omega)
        obtain ⟨u3, d3⟩ := hex 3 (by omega)
        obtain ⟨u4, d4⟩ := hex 4 (by omega)
        rw [Nat.add_zero] at d0
        have d5 : wr.cell? ⟨g, k * 6 + 5, none⟩ = some p.2 := by
          rw [hrow.cellAt _ (by omega), flat_get encQ_len xs k 5 p hxk (by omega)]
          rfl
        have f0 := hrow.frozenAt (k * 6)
        have f1 := hrow.frozenAt (k * 6 + 1)
        have f2 := hrow.frozenAt (k * 6 + 2)
        have f3 := hrow.frozenAt (k * 6 + 3)
        have f4 := hrow.frozenAt (k * 6 + 4)
        have f5 := hrow.frozenAt (k * 6 + 5)
        have hnear := (hown.nears p (List.mem_of_getElem? hxk)).1
        obtain ⟨na, nc, hpn⟩ := owns_lenS hnear
        rw [hpn] at d5
        have hzr : w.heap.size ≤ wr.heap.size := hnx.size
        obtain ⟨curg, hcurg⟩ : ∃ cur, wr.heap[g]? = some (.cells cur 49 (0, 0)) := by
          rcases hrow.2 with ⟨h0, _⟩ | ⟨g', cap', cur', hv', _, hh', _⟩
          · cases h0
          · cases hv'; exact ⟨cur', hh'⟩
        have hgne : some g ≠ p.2.ownBlock := own_type_ne2 hnear hcurg (by decide)
        rw [hpn] at hnear hgne
        have row5 := (((((hrow.stored (k * 6) (.bool (z % 3 == 0))).1.stored (k * 6 + 1) (.int .i64 (z + 1))).1.stored (k * 6 + 2) (.int .i64 (z + 1 + 1))).1.stored (k * 6 + 3) (.int .i64 (z + 1 + 1 + 1))).1.stored (k * 6 + 4) (.int .i64 (z + 1 + 1 + 1 + 1))).1
        have e5 := setQ5 (q := mkQ z p) hxk rfl
        have row5 : (setQM wr g (k * 6) z).ownsRow lo 49 6 (.slice (some ⟨g, 0, none⟩) ps.length cap) ps.length (flat encQ (xs.set k (mkQ z p))) := by
          rw [← e5]
          exact row5
        have gr5 := setQM_grown wr g (k * 6) z
        have near5 : (setQM wr g (k * 6) z).ownsRow lo 3 1 (.slice na p.1.hops.length nc) p.1.hops.length (flat intE p.1.hops) := owns_keepB hnear (fun j hj => gr5.block j (hnear.lt j hj).2 (fun e => hgne (by rw [hj, e])))
        have HMN := hide (markG_any (.slice na p.1.hops.length nc) lo p.1.hops (z + 1 + 1 + 1 + 1 + 1) (setQM wr g (k * 6) z) near5 (by omega) (by omega) (by omega))
        have HOWN := hide hown
        have HROW5 := hide row5
        have HGR5 := hide gr5
        have HXL := hide hxl
        have HXK := hide hxk
        have HSTEP := hide hstep
        have HNEXT := hide hnext
        have HPN := hide hpn
        have HGNE := hide hgne
        have HZ := hide hz
        have HTK := hide ht2
        clear hown hrow hxl hxk hstep hnext hpn hnear hex hcurg hxs hz hp row5 gr5 near5 hgne ht2 ht1 e5
        go_wp2_with fail
        refine HMN.out.mono ?_
        rintro e w6 ⟨rfl, near6, gr6⟩
        have row6 : w6.ownsRow lo 49 6 (.slice (some ⟨g, 0, none⟩) ps.length cap) ps.length (flat encQ (xs.set k (mkQ z p))) := owns_keepB HROW5.out (fun j hj => gr6.block j (HROW5.out.lt j hj).2 (fun e => HGNE.out (by cases hj; exact e)))
        have fr : Frame lo hi wr w6 := (Frame.grown HGR5.out (fun j hj => by simp at hj; have := HG.out; omega)).trans (Frame.grown gr6 (fun j hj => ⟨(near6.lt j hj).1, by have := (HOWN.out.nears p (List.mem_of_getElem? HXK.out)).2 j (by rw [HPN.out]; exact hj); exact this⟩))
        have fin := HOWN.out.turn (W8 := w6) (q := mkQ z p) HXL.out HXK.out rfl row6 (by
            have h9 := near6
            show World.ownsRow _ lo 3 1 p.2 (marksI _ _).length (flat intE (marksI _ _))
            rw [HPN.out, marksI_length]
            exact h9) (fun j h1 h2 h3 => by
            have g5 := HGR5.out.size
            have g6 := gr6.size
            rw [gr6.block j (by omega) (by rw [← HPN.out]; exact h3), HGR5.out.block j h1 (by simp; omega)])
        rw [HSTEP.out] at fin
        have FIN := hide fin
        have FR := hide fr
        clear row6 fr fin near6 gr6 HOWN HROW5 HMN HGR5
        go_wp2
        refine ⟨⟨k + 1, by omega, by go_num, ?_, FIN.out, hnx.trans FR.out⟩, by simp [intOf]; omega⟩
        rw [HNEXT.out]
        rfl
      · have hkn : k = ps.length := by omega
        have KN := hide hkn
        have OW := hide hown
        clear hkn hown
        go_wp2
        go_ret
        have h1 := OW.out
        rw [KN.out, List.take_length, List.drop_length, List.append_nil] at h1
        exact ⟨ret_int1 (by rw [KN.out, List.take_length]), h1, hnx⟩

end Go.Proofs.Ytnpafmjfhglbhaa
namespace Go.Proofs.Ytnpafmjfhglbhaa
open Go.RowKit

def totQD (xs : List RtD) : Nat := (xs.map (fun x => 1 + x.hops.length)).sum

theorem totQ_D (ps : List QP) : totQ ps = totQD (fstsQ ps) := by simp [totQ, totQD, fstsQ, List.map_map, Function.comp_def]

theorem totQD_cons (x : RtD) (xs : List RtD) : totQD (x :: xs) = 1 + x.hops.length + totQD xs := by simp [totQD]

theorem totQD_append (a b : List RtD) : totQD (a ++ b) = totQD a + totQD b := by simp [totQD]

theorem totQD_filter (f : RtD → Bool) (xs : List RtD) : totQD (xs.filter f) ≤ totQD xs := by
  induction xs with
  | nil => simp [totQD]
  | cons x xs ih =>
    rw [List.filter_cons]
    split
    · rw [totQD_cons, totQD_cons]; omega
    · rw [totQD_cons]; omega

theorem eqRouteS_own (v1 v2 : Value) (ps qs : List QP) (l1 h1 l2 h2 : Nat) (w : World) (k1 : RtsOwn w l1 h1 v1 ps) (k2 : RtsOwn w l2 h2 v2 qs) (he : fstsQ ps = fstsQ qs) (hn : totQ ps ≤ 1048576) (g1 : h1 ≤ w.heap.size) (g2 : h2 ≤ w.heap.size) :
    Calls Try.prog 10 #[v1, v2] w fun e w' => e = .returned (.bool true) ∧ Below w.heap.size w w' := by
  have h := eqRouteS_any v1 v2 ps qs w (k1.at.more g1) (k2.at.more g2) (Nat.le_trans (totQ_len ps) hn) (fun _ hp => Nat.le_trans (totQ_mem hp) hn)
  rw [decide_eq_true he] at h
  exact h

theorem toRouteS_own (v : Value) (ps : List QP) (w W : World) (h0 : RtsAt w v ps w.heap.size) (hb : Below w.heap.size w W) (hn : totQ ps ≤ 1048576) :
    Calls Try.prog 7 #[v] W fun e w' => ∃ x qs, e = .returned x ∧ fstsQ qs = fstsQ ps ∧ RtsOwn w' W.heap.size w'.heap.size x qs ∧ Below W.heap.size W w' :=
  toRouteS_any v ps W (Nat.le_trans (totQ_len ps) hn) (fun _ hp => Nat.le_trans (totQ_mem hp) hn) ((h0.later hb (Nat.le_refl _)).more hb.size)

theorem totQ_eq {ps qs : List QP} (h : fstsQ ps = fstsQ qs) : totQ ps = totQ qs := by rw [totQ_D, totQ_D, h]

theorem mkQE_pos (ps : List QP) : ¬ mkQE 1 ps < 0 := by have := mkQE_tot 1 ps; omega

end Go.Proofs.Ytnpafmjfhglbhaa
namespace Go.Proofs.Ytnpafmjfhglbhaa
open Go.RowKit

theorem tabF_tot : ∀ (xs acc : List LnD), totJD (xs.foldl tabS acc) ≤ totJD acc + totJD xs
  | [], acc => by simp [totJD]
  | x :: xs, acc => by
    have h := tabF_tot xs (tabS acc x)
    rw [List.foldl_cons, totJD_cons]
    have h2 : totJD (tabS acc x) ≤ totJD acc + (1 + x.hops.length) := by
      unfold tabS
      split
      · rw [totJD_append, totJD_cons]; simp [totJD]
      · omega
    omega

theorem tabD_tot (xs : List LnD) : totJD (tabD xs) ≤ totJD xs := by
  have h := tabF_tot xs []
  have h0 : totJD [] = 0 := rfl
  unfold tabD
  omega

theorem lnR_tot (ps : List QP) : totJD ((fstsQ ps).map lnR) = totQ ps := by
  rw [totQ_D]
  unfold totJD totQD
  rw [List.map_map]
  rfl

theorem map_fsts (ps : List QP) : ps.map (fun p => lnR p.1) = (fstsQ ps).map lnR := by
  unfold fstsQ
  rw [List.map_map]
  rfl

set_option maxRecDepth 100000 in
set_option maxHeartbeats 4000000 in
theorem fnExactTableOf_walk (v0 : Value) (ps0 : List QP) (w : World) (hx0 : RtsAt w v0 ps0 w.heap.size ∧ ps0.length ≤ maxLen ∧ ∀ p ∈ ps0, p.1.hops.length ≤ maxLen) :
    Calls Try.prog 3 #[v0] w fun e w' => e = .returned (.bool true) ∧ Below w.heap.size w w' := by
  obtain ⟨hx0, hl0, hm0⟩ := hx0
  obtain ⟨xa0, xc0, rfl⟩ := hx0.shape
  have HX0 := hide hx0
  clear hx0
  have HS0 := hide (fun W q => szRouteS_any (.slice xa0 ps0.length xc0) ps0 q W hl0 hm0)
  clear hm0 hl0
  have BW0 : Below w.heap.size w w := Below.refl _ _
  go_enter Try.func3, Try.ntmps3
  go_wp2_with fail
  refine (HS0.out _ 1048576 (by omega) (by omega) ((HX0.out.later BW0 (Nat.le_refl _)).more BW0.size)).mono ?_
  rintro e w1 ⟨z0, rfl, hz0, b1⟩
  have hs1 := b1.size
  have BW1 : Below w.heap.size w w1 := b1
  clear b1
  rcases hz0 with hz0 | ⟨hz0, hy0⟩
  · go_wp2
    go_ret
    exact ⟨rfl, BW1⟩
  have hT0 : totQ ps0 ≤ 1048576 := by omega
  clear hy0
  have HTO0 := hide (fun W hb => toRouteS_own (.slice xa0 ps0.length xc0) ps0 w W HX0.out hb hT0)
  obtain ⟨R, hR⟩ : ∃ R, R = tabD ((fstsQ ps0).map lnR) := ⟨_, rfl⟩
  have hTR : totJD R ≤ 1048576 := by rw [hR]; exact Nat.le_trans (tabD_tot _) (by rw [lnR_tot]; exact hT0)
  have HSP := hide (fun v qs lo hi (hf : fstsQ qs = fstsQ ps0) W (hv : RtsOwn W lo hi v qs) (hh : hi ≤ W.heap.size) => by have h := stable_any v qs lo hi W hv hh (by rw [totQ_eq hf]; exact hT0); rw [map_fsts, hf, ← hR] at h; exact h)
  have HIM := hide (fun v qs lo hi (hf : fstsQ qs = fstsQ ps0) W (hv : RtsOwn W lo hi v qs) (hh : hi ≤ W.heap.size) => by have h := itable_any v qs lo hi W hv hh (by rw [totQ_eq hf]; exact hT0); rw [map_fsts, hf, ← hR] at h; exact h)
  clear HX0 HS0 hR
  go_wp2_with fail
  refine (HTO0.out _ BW1).mono ?_
  rintro e w2 ⟨vA0, qA0, rfl, fA0, oA0, b2⟩
  obtain ⟨aA0, cA0, rfl⟩ := owns_lenS oA0.row
  have hs2 := b2.size
  have BW2 : Below w.heap.size w w2 := BW1.trans (b2.mono BW1.size)
  clear b2 BW1
  have KA02 := hide oA0
  have TA0 : totQ qA0 ≤ 1048576 := by rw [totQ_eq fA0]; exact hT0
  have FA0 := hide fA0
  clear oA0 fA0
  go_wp2_with fail
  refine (HSP.out _ _ _ _ FA0.out _ KA02.out (by omega)).mono ?_
  rintro e w3 ⟨vW, qW, rfl, fW, oW, b3⟩
  obtain ⟨aW, cW, rfl⟩ := owns_lenS oW.row
  have hs3 := b3.size
  have BW3 : Below w.heap.size w w3 := BW2.trans (b3.mono BW2.size)
  have KA03 := hide (KA02.out.below b3 (by omega))
  clear b3 BW2 KA02
  have KW3 := hide oW
  have TW : totJ qW ≤ 1048576 := by rw [totJ_D, fW]; exact hTR
  have FW := hide fW
  clear oW fW
  clear KA03
  go_wp2_with fail
  refine (HTO0.out _ BW3).mono ?_
  rintro e w4 ⟨vX0, qX0, rfl, fX0, oX0, b4⟩
  obtain ⟨aX0, cX0, rfl⟩ := owns_lenS oX0.row
  have hs4 := b4.size
  have BW4 : Below w.heap.size w w4 := BW3.trans (b4.mono BW3.size)
  have KW4 := hide (KW3.out.below b4 (by omega))
  clear b4 BW3 KW3
  have KX04 := hide oX0
  have TX0 : totQ qX0 ≤ 1048576 := by rw [totQ_eq fX0]; exact hT0
  have FX0 := hide fX0
  clear oX0 fX0
  go_wp2_with fail
  refine (HIM.out _ _ _ _ FX0.out _ KX04.out (by omega)).mono ?_
  rintro e w5 ⟨vG, qG, rfl, fG, oG, b5⟩
  obtain ⟨aG, cG, rfl⟩ := owns_lenS oG.row
  have hs5 := b5.size
  have BW5 : Below w.heap.size w w5 := BW4.trans (b5.mono BW4.size)
  have KW5 := hide (KW4.out.below b5 (by omega))
  have KX05 := hide (KX04.out.below b5 (by omega))
  clear b5 BW4 KW4 KX04
  have KG5 := hide oG
  have TG : totJ qG ≤ 1048576 := by rw [totJ_D, fG]; exact hTR
  have FG := hide fG
  clear oG fG
  go_wp2_with fail
  refine (eqLineS_own _ _ _ _ _ _ _ _ _ KG5.out KW5.out (FG.out.trans FW.out.symm) TG (by omega) (by omega)).mono ?_
  rintro e w6 ⟨rfl, b6⟩
  have hs6 := b6.size
  have BW6 : Below w.heap.size w w6 := BW5.trans (b6.mono BW5.size)
  have KW6 := hide (KW5.out.below b6 (by omega))
  have KX06 := hide (KX05.out.below b6 (by omega))
  have KG6 := hide (KG5.out.below b6 (by omega))
  clear b6 BW5 KW5 KX05 KG5
  go_wp2_with fail
  refine (HTO0.out _ BW6).mono ?_
  rintro e w7 ⟨vY0, qY0, rfl, fY0, oY0, b7⟩
  obtain ⟨aY0, cY0, rfl⟩ := owns_lenS oY0.row
  have hs7 := b7.size
  have BW7 : Below w.heap.size w w7 := BW6.trans (b7.mono BW6.size)
  have KW7 := hide (KW6.out.below b7 (by omega))
  have KX07 := hide (KX06.out.below b7 (by omega))
  have KG7 := hide (KG6.out.below b7 (by omega))
  clear b7 BW6 KW6 KX06 KG6
  have KY07 := hide oY0
  have TY0 : totQ qY0 ≤ 1048576 := by rw [totQ_eq fY0]; exact hT0
  have FY0 := hide fY0
  clear oY0 fY0
  go_wp2_with fail
  refine (eqRouteS_own _ _ _ _ _ _ _ _ _ KX07.out KY07.out (FX0.out.trans FY0.out.symm) TX0 (by omega) (by omega)).mono ?_
  rintro e w8 ⟨rfl, b8⟩
  have hs8 := b8.size
  have BW8 : Below w.heap.size w w8 := BW7.trans (b8.mono BW7.size)
  have KW8 := hide (KW7.out.below b8 (by omega))
  have KX08 := hide (KX07.out.below b8 (by omega))
  have KG8 := hide (KG7.out.below b8 (by omega))
  have KY08 := hide (KY07.out.below b8 (by omega))
  clear b8 BW7 KW7 KX07 KG7 KY07
  clear KY08
  go_wp2_with fail
  refine (markRouteS_any _ _ _ _ 1 _ KX08.out TX0 (by omega) (by omega)).mono ?_
  rintro e w9 ⟨rfl, oX0, b9⟩
  have hs9 := b9.size
  have BW9 : Below w.heap.size w w9 := BW8.trans ((b9.below (by omega)).mono (by omega))
  have KW9 := hide (KW8.out.frame b9 (by omega))
  have KG9 := hide (KG8.out.frame b9 (by omega))
  clear b9 BW8 KW8 KG8
  have KX09 := hide oX0
  clear oX0
  have hpos := mkQE_pos qX0
  go_wp2_with fail
  refine (eqLineS_own _ _ _ _ _ _ _ _ _ KG9.out KW9.out (FG.out.trans FW.out.symm) TG (by omega) (by omega)).mono ?_
  rintro e w10 ⟨rfl, b10⟩
  have hs10 := b10.size
  have BW10 : Below w.heap.size w w10 := BW9.trans (b10.mono BW9.size)
  have KW10 := hide (KW9.out.below b10 (by omega))
  have KX010 := hide (KX09.out.below b10 (by omega))
  have KG10 := hide (KG9.out.below b10 (by omega))
  clear b10 BW9 KW9 KX09 KG9
  clear KX010
  go_wp2_with fail
  refine (markLineS_any _ _ _ _ 1 _ KG10.out TG (by omega) (by omega)).mono ?_
  rintro e w11 ⟨rfl, oG, b11⟩
  have hs11 := b11.size
  have BW11 : Below w.heap.size w w11 := BW10.trans ((b11.below (by omega)).mono (by omega))
  have KW11 := hide (KW10.out.frame b11 (by omega))
  clear b11 BW10 KW10
  have KG11 := hide oG
  clear oG
  have hposG := mkJE_pos qG
  go_wp2_with fail
  refine (heldJS_own _ _ _ _ _ KG11.out TG (by omega)).mono ?_
  rintro e w12 ⟨rfl, rfl⟩
  go_wp2_with fail
  refine (HTO0.out _ BW11).mono ?_
  rintro e w12 ⟨vB0, qB0, rfl, fB0, oB0, b12⟩
  obtain ⟨aB0, cB0, rfl⟩ := owns_lenS oB0.row
  have hs12 := b12.size
  have BW12 : Below w.heap.size w w12 := BW11.trans (b12.mono BW11.size)
  have KW12 := hide (KW11.out.below b12 (by omega))
  have KG12 := hide (KG11.out.below b12 (by omega))
  clear b12 BW11 KW11 KG11
  have KB012 := hide oB0
  have TB0 : totQ qB0 ≤ 1048576 := by rw [totQ_eq fB0]; exact hT0
  have FB0 := hide fB0
  clear oB0 fB0
  go_wp2_with fail
  refine (HIM.out _ _ _ _ FB0.out _ KB012.out (by omega)).mono ?_
  rintro e w13 ⟨vH, qH, rfl, fH, oH, b13⟩
  obtain ⟨aH, cH, rfl⟩ := owns_lenS oH.row
  have hs13 := b13.size
  have BW13 : Below w.heap.size w w13 := BW12.trans (b13.mono BW12.size)
  have KW13 := hide (KW12.out.below b13 (by omega))
  have KG13 := hide (KG12.out.below b13 (by omega))
  have KB013 := hide (KB012.out.below b13 (by omega))
  clear b13 BW12 KW12 KG12 KB012
  have KH13 := hide oH
  have TH : totJ qH ≤ 1048576 := by rw [totJ_D, fH]; exact hTR
  have FH := hide fH
  clear oH fH
  clear KB013
  go_wp2_with fail
  refine (eqLineS_own _ _ _ _ _ _ _ _ _ KH13.out KW13.out (FH.out.trans FW.out.symm) TH (by omega) (by omega)).mono ?_
  rintro e w14 ⟨rfl, b14⟩
  have hs14 := b14.size
  have BW14 : Below w.heap.size w w14 := BW13.trans (b14.mono BW13.size)
  have KW14 := hide (KW13.out.below b14 (by omega))
  have KG14 := hide (KG13.out.below b14 (by omega))
  have KH14 := hide (KH13.out.below b14 (by omega))
  clear b14 BW13 KW13 KG13 KH13
  go_wp2_with fail
  refine (heldJS_own _ _ _ _ _ KG14.out TG (by omega)).mono ?_
  rintro e w15 ⟨rfl, rfl⟩
  go_wp2
  go_ret
  exact ⟨rfl, BW14⟩
end Go.Proofs.Ytnpafmjfhglbhaa
