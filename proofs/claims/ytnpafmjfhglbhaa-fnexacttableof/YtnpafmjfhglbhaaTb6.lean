/-
  laws.markLineS, heldLineS: only the list's own memory turns; what was marked is held.
  What the laws of lines want.
  Lines in a map by where they lead to: the map's operations.
  Tables: the place of a line, the hops to a node, and who follows them, as mathematics.
-/
import Derived.Test.YtnpafmjfhglbhaaTb5
import Derived.Maps.RangeRun
import Derived.Laws.StructEq
import Derived.WideKeyRuns
namespace Go.Proofs.Ytnpafmjfhglbhaa
open Go.RowKit

/-- the numbers of a record that is marked from c on -/
def mkJ (c : Int) (p : JP) : JP := (⟨c % 3 == 0, c + 1, marksI (c + 1 + 1) p.1.hops.length⟩, p.2)

def nxJ (c : Int) (p : JP) : Int := c + 1 + 1 + (p.1.hops.length : Int)

def mkJL : Int → List JP → List JP
  | _, [] => []
  | c, p :: ps => mkJ c p :: mkJL (nxJ c p) ps

def mkJE : Int → List JP → Int
  | c, [] => c
  | c, p :: ps => mkJE (nxJ c p) ps

theorem mkJL_len (c : Int) (ps : List JP) : (mkJL c ps).length = ps.length := by
  induction ps generalizing c with
  | nil => rfl
  | cons p ps ih => simp [mkJL, ih]

theorem mkJE_append (c : Int) (a b : List JP) : mkJE c (a ++ b) = mkJE (mkJE c a) b := by
  induction a generalizing c with
  | nil => rfl
  | cons p a ih => exact ih _

theorem mkJL_append (c : Int) (a b : List JP) : mkJL c (a ++ b) = mkJL c a ++ mkJL (mkJE c a) b := by
  induction a generalizing c with
  | nil => rfl
  | cons p a ih => simp only [List.cons_append, mkJL, mkJE, ih]

theorem mkJE_step {ps : List JP} {k : Nat} {p : JP} (c : Int) (h : ps[k]? = some p) : mkJE c (ps.take (k + 1)) = nxJ (mkJE c (ps.take k)) p := by
  obtain ⟨hk, e⟩ := List.getElem?_eq_some_iff.1 h
  rw [List.take_succ_eq_append_getElem hk, mkJE_append, e]
  rfl

theorem mkJL_step {ps : List JP} {k : Nat} {p : JP} (c : Int) (h : ps[k]? = some p) : mkJL c (ps.take (k + 1)) = mkJL c (ps.take k) ++ [mkJ (mkJE c (ps.take k)) p] := by
  obtain ⟨hk, e⟩ := List.getElem?_eq_some_iff.1 h
  rw [List.take_succ_eq_append_getElem hk, mkJL_append, e]
  rfl

theorem mkJE_tot (c : Int) (ps : List JP) : c + (totJ ps : Int) ≤ mkJE c ps ∧ mkJE c ps ≤ c + 2 * (totJ ps : Int) := by
  induction ps generalizing c with
  | nil => simp [mkJE, totJ]
  | cons p ps ih =>
    have h := ih (nxJ c p)
    rw [totJ_cons]
    simp only [mkJE]
    unfold nxJ at h ⊢
    omega

theorem totJ_takeLe (ps : List JP) (k : Nat) : totJ (ps.take k) ≤ totJ ps := by
  have h := totJ_append (ps.take k) (ps.drop k)
  rw [List.take_append_drop] at h
  omega

theorem mkJL_at {ps : List JP} {k : Nat} {p : JP} (c : Int) (h : ps[k]? = some p) : (mkJL c ps)[k]? = some (mkJ (mkJE c (ps.take k)) p) := by
  obtain ⟨hk, e⟩ := List.getElem?_eq_some_iff.1 h
  have e2 : ps = ps.take k ++ (p :: ps.drop (k + 1)) := by
    rw [← e]
    simp
  have e3 : mkJL c ps = mkJL c (ps.take k) ++ (mkJ (mkJE c (ps.take k)) p :: mkJL (nxJ (mkJE c (ps.take k)) p) (ps.drop (k + 1))) := by
    conv => lhs; rw [e2]
    rw [mkJL_append]
    rfl
  rw [e3, List.getElem?_append_right (by rw [mkJL_len, List.length_take]; omega), mkJL_len, List.length_take, Nat.min_eq_left (by omega), Nat.sub_self]
  rfl

theorem apartJ_snd (ps : List JP) : ps.Pairwise ApartJ ↔ (ps.map (·.2)).Pairwise (fun a b : Value => ∀ k, a.ownBlock = some k → b.ownBlock ≠ some k) := by
  rw [List.pairwise_map]
  exact Iff.rfl

theorem apartJ_at {ps : List JP} (h : ps.Pairwise ApartJ) {i k : Nat} {p q : JP} (hi : ps[i]? = some p) (hk : ps[k]? = some q) (hne : i ≠ k) : ApartJ p q := by
  obtain ⟨h1, e1⟩ := List.getElem?_eq_some_iff.1 hi
  obtain ⟨h2, e2⟩ := List.getElem?_eq_some_iff.1 hk
  rw [List.pairwise_iff_getElem] at h
  rcases Nat.lt_or_ge i k with hl | hl
  · have := h i k h1 h2 hl
    rw [e1, e2] at this
    exact this
  · have := h k i h2 h1 (by omega)
    rw [e1, e2] at this
    exact fun j hj he => this j he hj

theorem setJ_snd {ps : List JP} {k : Nat} {p q : JP} (hk : ps[k]? = some p) (h : q.2 = p.2) : (ps.set k q).map (·.2) = ps.map (·.2) := by
  apply List.ext_getElem?
  intro i
  by_cases e : i = k
  · subst e
    obtain ⟨h1, e1⟩ := List.getElem?_eq_some_iff.1 hk
    rw [List.getElem?_map, List.getElem?_set_self h1, List.getElem?_map, hk]
    simp [h]
  · simp [List.getElem?_set_ne (Ne.symm e)]

/-- one record turned within its list -/
theorem LnsOwn.turn {W W8 : World} {lo hi g n cap k : Nat} {xs : List JP} {p q : JP} (h : LnsOwn W lo hi (.slice (some ⟨g, 0, none⟩) n cap) xs) (hn : xs.length = n) (hk : xs[k]? = some p) (hq : q.2 = p.2)
    (row : W8.ownsRow lo 51 3 (.slice (some ⟨g, 0, none⟩) n cap) n (flat encJ (xs.set k q))) (near : W8.ownsRow lo 3 1 q.2 q.1.hops.length (flat intE q.1.hops))
    (hkeep : ∀ j, j < W.heap.size → j ≠ g → some j ≠ p.2.ownBlock → W8.heap[j]? = W.heap[j]?) : LnsOwn W8 lo hi (.slice (some ⟨g, 0, none⟩) n cap) (xs.set k q) where
  row := by rw [List.length_set, hn]; exact row
  top := h.top
  apart := by rw [apartJ_snd, setJ_snd hk hq, ← apartJ_snd]; exact h.apart
  nears := by
    intro r hr
    obtain ⟨i, hi, e⟩ := List.getElem_of_mem hr
    have hr2 : (xs.set k q)[i]? = some r := by rw [← e]; exact List.getElem?_eq_getElem hi
    by_cases ek : i = k
    · subst ek
      rw [List.getElem?_set_self (by simpa using hi)] at hr2
      cases hr2
      refine ⟨near, ?_⟩
      rw [hq]
      exact (h.nears p (List.mem_of_getElem? hk)).2
    · rw [List.getElem?_set_ne (Ne.symm ek)] at hr2
      have ho := h.nears r (List.mem_of_getElem? hr2)
      refine ⟨owns_keepB ho.1 (fun j hj => ?_), ho.2⟩
      refine hkeep j (ho.1.lt j hj).2 ?_ ?_
      · rintro rfl
        obtain ⟨cur, hh⟩ : ∃ cur, W.heap[j]? = some (.cells cur 51 (0, 0)) := by
          rcases h.row.2 with ⟨h0, _⟩ | ⟨g', cap', cur', hv', _, hh', _⟩
          · cases h0
          · cases hv'; exact ⟨cur', hh'⟩
        rcases ho.1.2 with ⟨h0, _⟩ | ⟨g', cap', cur', hv', _, hh', _⟩
        · rw [h0] at hj; simp [Value.ownBlock] at hj
        · rw [hv'] at hj
          simp [Value.ownBlock] at hj
          subst hj
          rw [hh] at hh'
          simp at hh'
      · intro he
        exact apartJ_at h.apart hr2 hk ek j hj he.symm

theorem setJ2 {xs : List JP} {k : Nat} {p q : JP} (hk : xs[k]? = some p) (hq : q.2 = p.2) : ((flat encJ xs).set (k * 3) (.bool q.1.thing)).set (k * 3 + 1) (.int .i64 q.1.to) = flat encJ (xs.set k q) := by
  obtain ⟨hlt, _⟩ := List.getElem?_eq_some_iff.1 hk
  have e : (((flat encJ xs).set (k * 3) (.bool q.1.thing)).set (k * 3 + 1) (.int .i64 q.1.to)).set (k * 3 + 2) q.2 = flat encJ (xs.set k q) := flat_set encJ_len xs k q hlt
  rw [← e]
  have h5 : (((flat encJ xs).set (k * 3) (.bool q.1.thing)).set (k * 3 + 1) (.int .i64 q.1.to))[k * 3 + 2]? = some q.2 := by
    rw [List.getElem?_set_ne (by omega), List.getElem?_set_ne (by omega), flat_get encJ_len xs k 2 p hk (by omega), hq]
    rfl
  obtain ⟨h6, e6⟩ := List.getElem?_eq_some_iff.1 h5
  rw [← e6]
  exact (List.set_getElem_self h6).symm

abbrev setJM (W : World) (g o : Nat) (z : Int) : World := (W.setCell ⟨g, o, none⟩ (.bool (z % 3 == 0))).setCell ⟨g, o + 1, none⟩ (.int .i64 (z + 1))

theorem setJM_grown (W : World) (g o : Nat) (z : Int) : W.grownBy (setJM W g o z) (some g) := grown_trans (grown_set W g _ _) (grown_set _ g _ _)

set_option maxRecDepth 100000 in
set_option maxHeartbeats 2000000 in
theorem markLineS_any (v : Value) (lo hi : Nat) (ps : List JP) (c : Int) (w : World) (h : LnsOwn w lo hi v ps) (hn : totJ ps ≤ 1048576) (hc : 0 ≤ c) (hc2 : c ≤ 10000000) :
    Calls Try.prog 12 #[v, .int .i64 c] w fun e w' => e = .returned (.int .i64 (mkJE c ps)) ∧ LnsOwn w' lo hi v (mkJL c ps) ∧ Frame lo hi w w' := by
  have hnl := totJ_len ps
  by_cases h0 : ps.length = 0
  · have hps : ps = [] := List.length_eq_zero_iff.1 h0
    subst hps
    obtain ⟨a1, c1, rfl⟩ := owns_lenS h.row
    have H1 := hide h
    clear h
    go_enter Try.func12, Try.ntmps12
    go_wp2
    refine wp_loop_rounds 1 ?_
    rw [rounds_succ]
    go_wp2
    go_ret
    exact ⟨rfl, H1.out, Frame.refl _ _ _⟩
  · obtain ⟨g, cap, rfl, hg1, hl1⟩ := owns_shapeS h.row (by omega)
    have H1 := hide h
    have HG := hide (h.top g rfl)
    clear h h0
    go_enter Try.func12, Try.ntmps12
    go_wp2
    go_loopw [5, 1] (fun i r wr => ∃ (k : Nat), k ≤ ps.length ∧ i = .int .i64 k ∧ r = .int .i64 (mkJE c (ps.take k)) ∧ LnsOwn wr lo hi (.slice (some ⟨g, 0, none⟩) ps.length cap) (mkJL c (ps.take k) ++ ps.drop k) ∧ Frame lo hi w wr) (fun i _ _ => ps.length - (intOf i).toNat)
    case atStart => exact ⟨0, by omega, rfl, rfl, H1.out, Frame.refl _ _ _⟩
    case round =>
      clear H1
      obtain ⟨k, hk, rfl, rfl, hown, hnx⟩ := hrel
      by_cases hlt : k < ps.length
      · obtain ⟨p, hp⟩ : ∃ p, ps[k]? = some p := ⟨ps[k], List.getElem?_eq_getElem hlt⟩
        have hki : (0 : Int) ≤ (k : Int) := by omega
        have hkj : (k : Int) < (ps.length : Int) := by omega
        have ht1 := totJ_takeLe ps k
        have ht2 := mkJE_tot c (ps.take k)
        have hpl := totJ_mem (List.mem_of_getElem? hp)
        obtain ⟨z, hz⟩ : ∃ z, z = mkJE c (ps.take k) := ⟨_, rfl⟩
        rw [← hz] at ht2 ⊢
        have hz0 : 0 ≤ z := by omega
        have hz2 : z ≤ 100000000 := by omega
        obtain ⟨xs, hxs⟩ : ∃ xs, xs = mkJL c (ps.take k) ++ ps.drop k := ⟨_, rfl⟩
        rw [← hxs] at hown
        have hxl : xs.length = ps.length := by rw [hxs]; simp [mkJL_len]; omega
        have hxk : xs[k]? = some p := by
          rw [hxs, List.getElem?_append_right (by rw [mkJL_len, List.length_take]; omega), mkJL_len, List.length_take, Nat.min_eq_left (by omega), Nat.sub_self, List.getElem?_drop, Nat.add_zero]
          exact hp
        have hstep : xs.set k (mkJ z p) = mkJL c (ps.take (k + 1)) ++ ps.drop (k + 1) := by
          have ed : ps.drop k = p :: ps.drop (k + 1) := by
            obtain ⟨h1, e1⟩ := List.getElem?_eq_some_iff.1 hp
            rw [List.drop_eq_getElem_cons h1, e1]
          rw [hxs, mkJL_step c hp, ← hz, List.set_append_right _ _ (by rw [mkJL_len, List.length_take]; omega), mkJL_len, List.length_take, Nat.min_eq_left (by omega), Nat.sub_self, ed, List.set_cons_zero]
          simp
        have hnext : mkJE c (ps.take (k + 1)) = nxJ z p := by rw [mkJE_step c hp, hz]
        have hrow := hown.row
        rw [hxl] at hrow
        have hex : ∀ r, r < 3 → ∃ u, wr.cell? ⟨g, k * 3 + r, none⟩ = some u := fun r hr => own_cell hrow _ (by omega)
        obtain ⟨u0, d0⟩ := hex 0 (by omega)
        obtain ⟨u1, d1⟩ := hex 1 (by omega)
        rw [Nat.add_zero] at d0
        have d5 : wr.cell? ⟨g, k * 3 + 2, none⟩ = some p.2 := by
          rw [hrow.cellAt _ (by omega), flat_get encJ_len xs k 2 p hxk (by omega)]
          rfl
        have f0 := hrow.frozenAt (k * 3)
        have f1 := hrow.frozenAt (k * 3 + 1)
        have f2 := hrow.frozenAt (k * 3 + 2)
        have hnear := (hown.nears p (List.mem_of_getElem? hxk)).1
        obtain ⟨na, nc, hpn⟩ := owns_lenS hnear
        rw [hpn] at d5
        have hzr : w.heap.size ≤ wr.heap.size := hnx.size
        obtain ⟨curg, hcurg⟩ : ∃ cur, wr.heap[g]? = some (.cells cur 51 (0, 0)) := by
          rcases hrow.2 with ⟨h0, _⟩ | ⟨g', cap', cur', hv', _, hh', _⟩
          · cases h0
          · cases hv'; exact ⟨cur', hh'⟩
        have hgne : some g ≠ p.2.ownBlock := own_type_ne2 hnear hcurg (by decide)
        rw [hpn] at hnear hgne
        have row5 := ((hrow.stored (k * 3) (.bool (z % 3 == 0))).1.stored (k * 3 + 1) (.int .i64 (z + 1))).1
        have e5 := setJ2 (q := mkJ z p) hxk rfl
        have row5 : (setJM wr g (k * 3) z).ownsRow lo 51 3 (.slice (some ⟨g, 0, none⟩) ps.length cap) ps.length (flat encJ (xs.set k (mkJ z p))) := by
          rw [← e5]
          exact row5
        have gr5 := setJM_grown wr g (k * 3) z
        have near5 : (setJM wr g (k * 3) z).ownsRow lo 3 1 (.slice na p.1.hops.length nc) p.1.hops.length (flat intE p.1.hops) := owns_keepB hnear (fun j hj => gr5.block j (hnear.lt j hj).2 (fun e => hgne (by rw [hj, e])))
        have HMN := hide (markG_any (.slice na p.1.hops.length nc) lo p.1.hops (z + 1 + 1) (setJM wr g (k * 3) z) near5 (by omega) (by omega) (by omega))
        have HOWN := hide hown
        have HROW5 := hide row5
        have HGR5 := hide gr5
        have HXL := hide hxl
        have HXK := hide hxk
        have HSTEP := hide hstep
        have HNEXT := hide hnext
        have HPN := hide hpn
        have HGNE := hide hgne
        have HZ := hide hz
        have HTK := hide ht2
        clear hown hrow hxl hxk hstep hnext hpn hnear hex hcurg hxs hz hp row5 gr5 near5 hgne ht2 ht1 e5
        go_wp2_with fail
        refine HMN.out.mono ?_
        rintro e w6 ⟨rfl, near6, gr6⟩
        have row6 : w6.ownsRow lo 51 3 (.slice (some ⟨g, 0, none⟩) ps.length cap) ps.length (flat encJ (xs.set k (mkJ z p))) := owns_keepB HROW5.out (fun j hj => gr6.block j (HROW5.out.lt j hj).2 (fun e => HGNE.out (by cases hj; exact e)))
        have fr : Frame lo hi wr w6 := (Frame.grown HGR5.out (fun j hj => by simp at hj; have := HG.out; omega)).trans (Frame.grown gr6 (fun j hj => ⟨(near6.lt j hj).1, by have := (HOWN.out.nears p (List.mem_of_getElem? HXK.out)).2 j (by rw [HPN.out]; exact hj); exact this⟩))
        have fin := HOWN.out.turn (W8 := w6) (q := mkJ z p) HXL.out HXK.out rfl row6 (by
            have h9 := near6
            show World.ownsRow _ lo 3 1 p.2 (marksI _ _).length (flat intE (marksI _ _))
            rw [HPN.out, marksI_length]
            exact h9) (fun j h1 h2 h3 => by
            have g5 := HGR5.out.size
            have g6 := gr6.size
            rw [gr6.block j (by omega) (by rw [← HPN.out]; exact h3), HGR5.out.block j h1 (by simp; omega)])
        rw [HSTEP.out] at fin
        have FIN := hide fin
        have FR := hide fr
        clear row6 fr fin near6 gr6 HOWN HROW5 HMN HGR5
        go_wp2
        refine ⟨⟨k + 1, by omega, by go_num, ?_, FIN.out, hnx.trans FR.out⟩, by simp [intOf]; omega⟩
        rw [HNEXT.out]
        rfl
      · have hkn : k = ps.length := by omega
        have KN := hide hkn
        have OW := hide hown
        clear hkn hown
        go_wp2
        go_ret
        have h1 := OW.out
        rw [KN.out, List.take_length, List.drop_length, List.append_nil] at h1
        exact ⟨ret_int1 (by rw [KN.out, List.take_length]), h1, hnx⟩

set_option maxRecDepth 100000 in
set_option maxHeartbeats 2000000 in
theorem heldLineS_any (v : Value) (ps : List JP) (c : Int) (w : World) (h : LnsAt w v (mkJL c ps) w.heap.size) (hn : totJ ps ≤ 1048576) (hc : 0 ≤ c) (hc2 : c ≤ 10000000) :
    Calls Try.prog 13 #[v, .int .i64 c] w fun e w' => e = .returned (.int .i64 (mkJE c ps)) ∧ w = w' := by
  obtain ⟨a, cap, rfl⟩ := h.shape
  rw [mkJL_len] at *
  have H1 := hide h
  have hnl := totJ_len ps
  clear h
  go_enter Try.func13, Try.ntmps13
  go_wp2
  go_loop [5, 1] (fun i r => ∃ k : Nat, k ≤ ps.length ∧ i = .int .i64 k ∧ r = .int .i64 (mkJE c (ps.take k))) (fun i _ => ps.length - (intOf i).toNat)
  case atStart => exact ⟨0, by omega, rfl, rfl⟩
  case round =>
    obtain ⟨k, hk, rfl, rfl⟩ := hrel
    by_cases hlt : k < ps.length
    · obtain ⟨p, hp⟩ : ∃ p, ps[k]? = some p := ⟨ps[k], List.getElem?_eq_getElem hlt⟩
      have hki : (0 : Int) ≤ (k : Int) := by omega
      have hkj : (k : Int) < (ps.length : Int) := by omega
      have ht1 := totJ_takeLe ps k
      have ht2 := mkJE_tot c (ps.take k)
      have hpl := totJ_mem (List.mem_of_getElem? hp)
      have hnext := mkJE_step c hp
      have hat := mkJL_at c hp
      obtain ⟨z, hz⟩ : ∃ z, z = mkJE c (ps.take k) := ⟨_, rfl⟩
      rw [← hz] at ht2 hnext hat ⊢
      have hz0 : 0 ≤ z := by omega
      have hz2 : z ≤ 100000000 := by omega
      obtain ⟨b, off, cap', hve, hbb, s0, s1, s2, hnr⟩ := H1.out.cells k (mkJ z p) hat
      rw [mkJL_len] at hve
      cases hve
      unfold mkJ at s0 s1 s2 hnr
      simp only [] at s0 s1 s2 hnr
      obtain ⟨na, nc, hpn⟩ := hnr.shape
      rw [marksI_length] at hpn
      rw [hpn] at s2 hnr
      have HH := hide (heldG_any _ p.1.hops.length (z + 1 + 1) w hnr (by omega) (by omega) (by omega))
      have HNEXT := hide hnext
      have HZ := hide hz
      have hm0 : ¬ z + 1 + 1 + (p.1.hops.length : Int) < 0 := by omega
      clear hp hnext hat hz hnr hpn ht1 ht2
      go_wp2_with fail
      refine HH.out.mono ?_
      rintro e w1 ⟨rfl, rfl⟩
      go_wp2
      go_round
      case rel => exact ⟨k + 1, by omega, by go_num, by rw [HNEXT.out]; rfl⟩
      case measure => simp [intOf]; omega
    · have hkn : k = ps.length := by omega
      have KN := hide hkn
      clear hkn
      go_wp2
      go_ret
      exact ⟨ret_int1 (by rw [KN.out, List.take_length]), rfl⟩
end Go.Proofs.Ytnpafmjfhglbhaa
namespace Go.Proofs.Ytnpafmjfhglbhaa
open Go.RowKit

def totJD (xs : List LnD) : Nat := (xs.map (fun x => 1 + x.hops.length)).sum

theorem totJ_D (ps : List JP) : totJ ps = totJD (fstsJ ps) := by simp [totJ, totJD, fstsJ, List.map_map, Function.comp_def]

theorem totJD_cons (x : LnD) (xs : List LnD) : totJD (x :: xs) = 1 + x.hops.length + totJD xs := by simp [totJD]

theorem totJD_append (a b : List LnD) : totJD (a ++ b) = totJD a + totJD b := by simp [totJD]

theorem totJD_filter (f : LnD → Bool) (xs : List LnD) : totJD (xs.filter f) ≤ totJD xs := by
  induction xs with
  | nil => simp [totJD]
  | cons x xs ih =>
    rw [List.filter_cons]
    split
    · rw [totJD_cons, totJD_cons]; omega
    · rw [totJD_cons]; omega

theorem eqLineS_own (v1 v2 : Value) (ps qs : List JP) (l1 h1 l2 h2 : Nat) (w : World) (k1 : LnsOwn w l1 h1 v1 ps) (k2 : LnsOwn w l2 h2 v2 qs) (he : fstsJ ps = fstsJ qs) (hn : totJ ps ≤ 1048576) (g1 : h1 ≤ w.heap.size) (g2 : h2 ≤ w.heap.size) :
    Calls Try.prog 9 #[v1, v2] w fun e w' => e = .returned (.bool true) ∧ Below w.heap.size w w' := by
  have h := eqLineS_any v1 v2 ps qs w (k1.at.more g1) (k2.at.more g2) (Nat.le_trans (totJ_len ps) hn) (fun _ hp => Nat.le_trans (totJ_mem hp) hn)
  rw [decide_eq_true he] at h
  exact h

theorem toLineS_own (v : Value) (ps : List JP) (w W : World) (h0 : LnsAt w v ps w.heap.size) (hb : Below w.heap.size w W) (hn : totJ ps ≤ 1048576) :
    Calls Try.prog 36 #[v] W fun e w' => ∃ x qs, e = .returned x ∧ fstsJ qs = fstsJ ps ∧ LnsOwn w' W.heap.size w'.heap.size x qs ∧ Below W.heap.size W w' :=
  toLineS_any v ps W (Nat.le_trans (totJ_len ps) hn) (fun _ hp => Nat.le_trans (totJ_mem hp) hn) ((h0.later hb (Nat.le_refl _)).more hb.size)

theorem totJ_eq {ps qs : List JP} (h : fstsJ ps = fstsJ qs) : totJ ps = totJ qs := by rw [totJ_D, totJ_D, h]

theorem mkJE_pos (ps : List JP) : ¬ mkJE 1 ps < 0 := by have := mkJE_tot 1 ps; omega

theorem heldJS_own (v : Value) (ps : List JP) (l h : Nat) (w : World) (k : LnsOwn w l h v (mkJL 1 ps)) (hn : totJ ps ≤ 1048576) (g : h ≤ w.heap.size) :
    Calls Try.prog 13 #[v, .int .i64 1] w fun e w' => e = .returned (.int .i64 (mkJE 1 ps)) ∧ w = w' :=
  heldLineS_any v ps 1 w (k.at.more g) hn (by omega) (by omega)

end Go.Proofs.Ytnpafmjfhglbhaa
namespace Go.Proofs.Ytnpafmjfhglbhaa
open Go.RowKit
open Go.ChangeMaps (setBlock)

set_option linter.unusedSimpArgs false

def kV (t : Bool) (z : Int) : Value := .agg #[.bool t, .int .i64 z]

theorem key_equal (w : World) (t t' : Bool) (z z' : Int) : (Op.equal 59 (kV t z) (kV t' z')).run Try.prog w = .ok (t == t' && z == z') w := by
  unfold kV
  show (Op.equalIn 10000 59 _ _).run Try.prog w = _
  go_simp
  by_cases h1 : t = t' <;> by_cases h2 : z = z' <;> simp [h1, h2]

set_option maxRecDepth 100000 in
theorem key_check (w : World) (b : Bool) (t : Bool) (z : Int) : (Instr.checkKey b 10000 59 (kV t z)).run Try.prog w = .ok () w := by
  rfl

/-- the first entry of a key -/
def entAt (ks : List (Bool × Int)) (t : Bool) (z : Int) : Option Nat := ks.findIdx? (fun k => k.1 == t && k.2 == z)

theorem find_run (w : World) (t : Bool) (z : Int) : ∀ (es : List MapEntry) (ks : List (Bool × Int)) (i : Nat), es.map (·.key) = ks.map (fun k => kV k.1 k.2) →
    (Instr.findAsking 59 (kV t z) es i).run Try.prog w = .ok ((entAt ks t z).bind (fun j => es[j]?.map (fun e => (i + j, e.val)))) w
  | [], [], i, _ => by simp [Instr.findAsking, entAt]
  | [], k :: ks, i, h => by simp at h
  | e :: es, [], i, h => by simp at h
  | e :: es, k :: ks, i, h => by
    simp only [List.map_cons, List.cons.injEq] at h
    have ih := find_run w t z es ks (i + 1) h.2
    unfold Instr.findAsking
    rw [Sem.run_bind, h.1, key_equal]
    unfold entAt
    rw [List.findIdx?_cons]
    have hc : (t == k.1 && z == k.2) = (k.1 == t && k.2 == z) := by rw [Bool.eq_iff_iff]; simp; constructor <;> rintro ⟨a, b⟩ <;> exact ⟨a.symm, b.symm⟩
    rw [hc]
    by_cases hk : (k.1 == t && k.2 == z) = true
    · rw [if_pos hk]
      simp [Result.andThen, hk]
    · rw [if_neg hk]
      have hk' : (k.1 == t && k.2 == z) = false := by simpa using hk
      simp only [Result.andThen, hk', Bool.false_eq_true, if_false]
      rw [ih]
      unfold entAt
      cases ks.findIdx? (fun k => k.1 == t && k.2 == z) with
      | none => rfl
      | some j => simp [Nat.add_assoc, Nat.add_comm 1 j]

theorem find_key (w : World) (t : Bool) (z : Int) (es : List MapEntry) (ks : List (Bool × Int)) (h : es.map (·.key) = ks.map (fun k => kV k.1 k.2)) :
    (Instr.findKey 59 (kV t z) es).run Try.prog w = .ok ((entAt ks t z).bind (fun j => es[j]?.map (fun e => (j, e.val)))) w := by
  rw [run_findKey_eq w (by kernel_rfl), find_run w t z es ks 0 h]
  simp

theorem look_key (w : World) (m : Nat) (es : Array MapEntry) (clock : Nat) (ks : List (Bool × Int)) (t : Bool) (z : Int) (hm : w.heap[m]? = some (.map es clock)) (h : es.toList.map (·.key) = ks.map (fun k => kV k.1 k.2)) :
    (Instr.lookup 56 (.map (some m)) (kV t z) false).run Try.prog w = .ok (match (entAt ks t z).bind (fun j => es.toList[j]?.map (fun e => (j, e.val))) with | some p => p.2 | none => .slice none 0 0) w := by
  unfold Instr.lookup
  have hz : (zeroValue 70).run Try.prog w = .ok (.slice none 0 0) w := by kernel_rfl
  simp only [Sem.run_bind, run_underlying Try.underlying56, Result.andThen, MapKept.run_getObj_map hm, Sem.run_pure, key_check, find_key w t z es.toList ks h]
  cases (entAt ks t z).bind (fun j => es.toList[j]?.map (fun e => (j, e.val))) with
  | none => simp [Result.andThen, hz]
  | some p => simp [Result.andThen]

theorem put_key (w : World) (m : Nat) (es : Array MapEntry) (clock : Nat) (ks : List (Bool × Int)) (t : Bool) (z : Int) (v : Value) (hm : w.heap[m]? = some (.map es clock)) (h : es.toList.map (·.key) = ks.map (fun k => kV k.1 k.2)) (hno : entAt ks t z = none) :
    (Instr.mapUpdate 56 (.map (some m)) (kV t z) v).run Try.prog w = .ok () (setBlock w m (.map (es.push ⟨kV t z, v, clock⟩) (clock + 1))) := by
  unfold Instr.mapUpdate
  simp only [Sem.run_bind, run_underlying Try.underlying56, Result.andThen, MapKept.run_getObj_map hm, Sem.run_pure, key_check, find_key w t z es.toList ks h, hno, Option.bind_none]
  simp [setObj, Sem.run, hm, setBlock]
end Go.Proofs.Ytnpafmjfhglbhaa
namespace Go.Proofs.Ytnpafmjfhglbhaa
open Go.RowKit

def isLn (t : Bool) (z : Int) (x : LnD) : Bool := x.thing == t && x.to == z

/-- the place of the first line to z, -1 without one -/
def idxZ (l : List LnD) (t : Bool) (z : Int) : Int := match l.findIdx? (isLn t z) with
  | some i => (i : Int)
  | none => -1

theorem idxZ_hit {l : List LnD} {t : Bool} {z : Int} {k : Nat} {x : LnD} (hk : l[k]? = some x) (hx : isLn t z x = true) (hno : ∀ y ∈ l.take k, isLn t z y = false) : idxZ l t z = (k : Int) := by
  have e : l.findIdx? (isLn t z) = some k := by
    obtain ⟨h1, e1⟩ := List.getElem?_eq_some_iff.1 hk
    rw [List.findIdx?_eq_some_iff_getElem]
    refine ⟨h1, by rw [e1]; exact hx, fun j hj => ?_⟩
    have hm : l[j] ∈ l.take k := by
      rw [List.mem_take_iff_getElem]
      exact ⟨j, by omega, rfl⟩
    simpa using hno _ hm
  unfold idxZ
  rw [e]

theorem idxZ_none {l : List LnD} {t : Bool} {z : Int} (hno : ∀ y ∈ l, isLn t z y = false) : idxZ l t z = -1 := by
  have e : l.findIdx? (isLn t z) = none := by
    rw [List.findIdx?_eq_none_iff]
    exact hno
  unfold idxZ
  rw [e]

theorem idxZ_cases (l : List LnD) (t : Bool) (z : Int) : idxZ l t z = -1 ∨ ∃ (k : Nat) (x : LnD), idxZ l t z = (k : Int) ∧ l[k]? = some x ∧ isLn t z x = true := by
  unfold idxZ
  cases h : l.findIdx? (isLn t z) with
  | none => exact .inl rfl
  | some i =>
    rw [List.findIdx?_eq_some_iff_getElem] at h
    obtain ⟨h1, h2, _⟩ := h
    exact .inr ⟨i, l[i], rfl, List.getElem?_eq_getElem h1, h2⟩

theorem take_noJ {l : List LnD} {k : Nat} {x : LnD} {t : Bool} {z : Int} (h : l[k]? = some x) (hno : ∀ y ∈ l.take k, isLn t z y = false) (hx : isLn t z x = false) : ∀ y ∈ l.take (k + 1), isLn t z y = false := by
  obtain ⟨hk, e⟩ := List.getElem?_eq_some_iff.1 h
  rw [List.take_succ_eq_append_getElem hk, e]
  intro y hy
  rcases List.mem_append.1 hy with h1 | h1
  · exact hno y h1
  · have : y = x := by simpa using h1
    subst this
    exact hx

/-- the hops of a table to the node z -/
def hopsL (l : List LnD) (z : Int) : List Int := if idxZ l false z < 0 then [] else (l.getD (idxZ l false z).toNat zeroJD).hops

theorem hopsL_none {l : List LnD} {z : Int} (h : idxZ l false z = -1) : hopsL l z = [] := by unfold hopsL; rw [h]; rfl

theorem hopsL_hit {l : List LnD} {z : Int} {k : Nat} {x : LnD} (h : idxZ l false z = (k : Int)) (hk : l[k]? = some x) : hopsL l z = x.hops := by
  unfold hopsL
  rw [h, if_neg (by omega)]
  simp [List.getD, hk]

/-- the hops from a to z -/
def hopsD (D : List (List LnD)) (a z : Int) : List Int := if 1 ≤ a ∧ a ≤ (D.length : Int) then hopsL (D.getD (a - 1).toNat []) z else []

theorem hopsD_off {D : List (List LnD)} {a z : Int} (h : ¬ (1 ≤ a ∧ a ≤ (D.length : Int))) : hopsD D a z = [] := if_neg h

theorem hopsD_on {D : List (List LnD)} {a z : Int} {i : Nat} {l : List LnD} (ha : a - 1 = (i : Int)) (hl : D[i]? = some l) : hopsD D a z = hopsL l z := by
  have hi := (List.getElem?_eq_some_iff.1 hl).1
  unfold hopsD
  rw [if_pos ⟨by omega, by omega⟩]
  have e : (a - 1).toNat = i := by omega
  rw [e]
  simp [List.getD, hl]

def pickD (ps : List Int) (i : Nat) : Int := if i < ps.length then max (ps.getD i 0) 0 else 0

theorem pickD_pos (ps : List Int) (i : Nat) : 0 ≤ pickD ps i := by unfold pickD; split <;> omega

/-- the hop that is picked -/
def hopAt (hs : List Int) (p : Int) : Int := hs.getD (p % (hs.length : Int)).toNat 0

theorem hopAt_get {hs : List Int} {p : Int} (h : hs ≠ []) : ∃ j : Nat, p % (hs.length : Int) = (j : Int) ∧ j < hs.length ∧ hs[j]? = some (hopAt hs p) := by
  have hl : 0 < hs.length := List.length_pos_iff.2 h
  have h1 := Int.emod_nonneg p (b := (hs.length : Int)) (by omega)
  have h2 := Int.emod_lt_of_pos p (b := (hs.length : Int)) (by omega)
  refine ⟨(p % (hs.length : Int)).toNat, by omega, by omega, ?_⟩
  unfold hopAt
  rw [List.getElem?_eq_getElem (by omega)]
  simp [List.getD, List.getElem?_eq_getElem (show (p % (hs.length : Int)).toNat < hs.length by omega)]

/-- who follows the tables, with so many steps left -/
def walkF (D : List (List LnD)) (z : Int) (ps : List Int) : Nat → Int → List Int → Option (List Int)
  | 0, a, way => if a = z then some way else none
  | n + 1, a, way => if a = z then some way else if hopsD D a z = [] then none else walkF D z ps n (hopAt (hopsD D a z) (pickD ps (12 - (n + 1)))) (way ++ [hopAt (hopsD D a z) (pickD ps (12 - (n + 1)))])

def walkO (D : List (List LnD)) (a z : Int) (ps : List Int) : Option (List Int) := walkF D z ps 12 a [a]

def walkD (D : List (List LnD)) (a z : Int) (ps : List Int) : List Int := (walkO D a z ps).getD []

def walkB (D : List (List LnD)) (a z : Int) (ps : List Int) : Bool := (walkO D a z ps).isSome

/-- under way: i steps are done -/
structure AtW (D : List (List LnD)) (z : Int) (ps : List Int) (O : Option (List Int)) (i : Nat) (a : Int) (way : List Int) : Prop where
  i12 : i ≤ 12
  len : way.length = i + 1
  eq : walkF D z ps (12 - i) a way = O

theorem AtW.start (D : List (List LnD)) (a z : Int) (ps : List Int) : AtW D z ps (walkO D a z ps) 0 a [a] := ⟨by omega, rfl, rfl⟩

theorem AtW.there {D : List (List LnD)} {z : Int} {ps : List Int} {O : Option (List Int)} {i : Nat} {way : List Int} (h : AtW D z ps O i z way) : O = some way := by
  rw [← h.eq]
  cases 12 - i <;> simp [walkF]

theorem AtW.over {D : List (List LnD)} {z a : Int} {ps : List Int} {O : Option (List Int)} {way : List Int} (h : AtW D z ps O 12 a way) (ha : a ≠ z) : O = none := by
  rw [← h.eq]
  simp [walkF, ha]

theorem AtW.off {D : List (List LnD)} {z a : Int} {ps : List Int} {O : Option (List Int)} {i : Nat} {way : List Int} (h : AtW D z ps O i a way) (ha : a ≠ z) (hh : hopsD D a z = []) : O = none := by
  rw [← h.eq]
  cases 12 - i <;> simp [walkF, ha, hh]

theorem AtW.step {D : List (List LnD)} {z a : Int} {ps : List Int} {O : Option (List Int)} {i : Nat} {way : List Int} (h : AtW D z ps O i a way) (ha : a ≠ z) (hh : hopsD D a z ≠ []) (hi : i ≠ 12) :
    AtW D z ps O (i + 1) (hopAt (hopsD D a z) (pickD ps i)) (way ++ [hopAt (hopsD D a z) (pickD ps i)]) := by
  have h1 := h.i12
  refine ⟨by omega, by rw [List.length_append, h.len]; rfl, ?_⟩
  rw [← h.eq]
  obtain ⟨n, hn⟩ : ∃ n, 12 - i = n + 1 := ⟨12 - i - 1, by omega⟩
  have e1 : 12 - (i + 1) = n := by omega
  have e2 : 12 - (n + 1) = i := by omega
  rw [hn, e1, walkF, if_neg ha, if_neg hh, e2]

def lenV : Value → Nat
  | .slice _ n _ => n
  | _ => 0
end Go.Proofs.Ytnpafmjfhglbhaa
