/-
  laws.markRecordS, heldRecordS: only the list's own memory turns; what was marked is held.
  Rows of ints that a call made.
  laws.eqIntS, markIntS, heldIntS, toIntS, szIntS: their contracts (IntRow2 without nets).
  Ways as values; laws.szWay, toWay, eqWay.
  laws.markIntS, markWay, heldWay: only the row's own memory turns; what was marked is held.
-/
import Derived.Test.YtcimbiinljcifaaGreatLe4
import Derived.Test.YtcimbiinljcifaaGreatLe1
import Derived.Deep.QuietTactic
import Derived.BigQuiet
import Derived.WalkSmall
import Derived.Handy
namespace Go.Proofs.YtcimbiinljcifaaGreat
open Go.RowKit

/-- the numbers of a record that is marked from c on -/
def mkR (c : Int) (p : RP) : RP := (⟨c, c + 1, c + 1 + 1, c + 1 + 1 + 1, c + 1 + 1 + 1 + 1, marks (c + 1 + 1 + 1 + 1 + 1) p.1.near.length, c + 1 + 1 + 1 + 1 + 1 + 2 * (p.1.near.length : Int), (c + 1 + 1 + 1 + 1 + 1 + 2 * (p.1.near.length : Int) + 1) % 3 == 0⟩, p.2)

def nxR (c : Int) (p : RP) : Int := c + 1 + 1 + 1 + 1 + 1 + 2 * (p.1.near.length : Int) + 1 + 1

def mkL : Int → List RP → List RP
  | _, [] => []
  | c, p :: ps => mkR c p :: mkL (nxR c p) ps

def mkE : Int → List RP → Int
  | c, [] => c
  | c, p :: ps => mkE (nxR c p) ps

theorem mkL_len (c : Int) (ps : List RP) : (mkL c ps).length = ps.length := by
  induction ps generalizing c with
  | nil => rfl
  | cons p ps ih => simp [mkL, ih]

theorem mkE_append (c : Int) (a b : List RP) : mkE c (a ++ b) = mkE (mkE c a) b := by
  induction a generalizing c with
  | nil => rfl
  | cons p a ih => exact ih _

theorem mkL_append (c : Int) (a b : List RP) : mkL c (a ++ b) = mkL c a ++ mkL (mkE c a) b := by
  induction a generalizing c with
  | nil => rfl
  | cons p a ih => simp only [List.cons_append, mkL, mkE, ih]

theorem mkE_step {ps : List RP} {k : Nat} {p : RP} (c : Int) (h : ps[k]? = some p) : mkE c (ps.take (k + 1)) = nxR (mkE c (ps.take k)) p := by
  obtain ⟨hk, e⟩ := List.getElem?_eq_some_iff.1 h
  rw [List.take_succ_eq_append_getElem hk, mkE_append, e]
  rfl

theorem mkL_step {ps : List RP} {k : Nat} {p : RP} (c : Int) (h : ps[k]? = some p) : mkL c (ps.take (k + 1)) = mkL c (ps.take k) ++ [mkR (mkE c (ps.take k)) p] := by
  obtain ⟨hk, e⟩ := List.getElem?_eq_some_iff.1 h
  rw [List.take_succ_eq_append_getElem hk, mkL_append, e]
  rfl

theorem mkE_tot (c : Int) (ps : List RP) : c + 2 * (tot ps : Int) ≤ mkE c ps ∧ mkE c ps ≤ c + 7 * (tot ps : Int) := by
  induction ps generalizing c with
  | nil => simp [mkE, tot]
  | cons p ps ih =>
    have h := ih (nxR c p)
    rw [tot_cons]
    simp only [mkE]
    unfold nxR at h ⊢
    omega

theorem tot_takeLe (ps : List RP) (k : Nat) : tot (ps.take k) ≤ tot ps := by
  have h := tot_append (ps.take k) (ps.drop k)
  rw [List.take_append_drop] at h
  omega

theorem mkL_at {ps : List RP} {k : Nat} {p : RP} (c : Int) (h : ps[k]? = some p) : (mkL c ps)[k]? = some (mkR (mkE c (ps.take k)) p) := by
  obtain ⟨hk, e⟩ := List.getElem?_eq_some_iff.1 h
  have e2 : ps = ps.take k ++ (p :: ps.drop (k + 1)) := by
    rw [← e]
    simp
  have e3 : mkL c ps = mkL c (ps.take k) ++ (mkR (mkE c (ps.take k)) p :: mkL (nxR (mkE c (ps.take k)) p) (ps.drop (k + 1))) := by
    conv => lhs; rw [e2]
    rw [mkL_append]
    rfl
  rw [e3, List.getElem?_append_right (by rw [mkL_len, List.length_take]; omega), mkL_len, List.length_take, Nat.min_eq_left (by omega), Nat.sub_self]
  rfl

theorem apart_snd (ps : List RP) : ps.Pairwise Apart ↔ (ps.map (·.2)).Pairwise (fun a b : Value => ∀ k, a.ownBlock = some k → b.ownBlock ≠ some k) := by
  rw [List.pairwise_map]
  exact Iff.rfl

theorem apart_at {ps : List RP} (h : ps.Pairwise Apart) {i k : Nat} {p q : RP} (hi : ps[i]? = some p) (hk : ps[k]? = some q) (hne : i ≠ k) : Apart p q := by
  obtain ⟨h1, e1⟩ := List.getElem?_eq_some_iff.1 hi
  obtain ⟨h2, e2⟩ := List.getElem?_eq_some_iff.1 hk
  rw [List.pairwise_iff_getElem] at h
  rcases Nat.lt_or_ge i k with hl | hl
  · have := h i k h1 h2 hl
    rw [e1, e2] at this
    exact this
  · have := h k i h2 h1 (by omega)
    rw [e1, e2] at this
    exact fun j hj he => this j he hj

theorem set_snd {ps : List RP} {k : Nat} {p q : RP} (hk : ps[k]? = some p) (h : q.2 = p.2) : (ps.set k q).map (·.2) = ps.map (·.2) := by
  apply List.ext_getElem?
  intro i
  by_cases e : i = k
  · subst e
    obtain ⟨h1, e1⟩ := List.getElem?_eq_some_iff.1 hk
    rw [List.getElem?_map, List.getElem?_set_self h1, List.getElem?_map, hk]
    simp [h]
  · simp [List.getElem?_set_ne (Ne.symm e)]

/-- one record turned within its list -/
theorem RecsOwn.turn {W W8 : World} {lo hi g n cap k : Nat} {xs : List RP} {p q : RP} (h : RecsOwn W lo hi (.slice (some ⟨g, 0, none⟩) n cap) xs) (hn : xs.length = n) (hk : xs[k]? = some p) (hq : q.2 = p.2)
    (row : W8.ownsRow lo 40 8 (.slice (some ⟨g, 0, none⟩) n cap) n (flat encP (xs.set k q))) (near : W8.ownsRow lo 98 2 q.2 q.1.near.length (flat nrE q.1.near))
    (hkeep : ∀ j, j < W.heap.size → j ≠ g → some j ≠ p.2.ownBlock → W8.heap[j]? = W.heap[j]?) : RecsOwn W8 lo hi (.slice (some ⟨g, 0, none⟩) n cap) (xs.set k q) where
  row := by rw [List.length_set, hn]; exact row
  top := h.top
  apart := by rw [apart_snd, set_snd hk hq, ← apart_snd]; exact h.apart
  nears := by
    intro r hr
    obtain ⟨i, hi, e⟩ := List.getElem_of_mem hr
    have hr2 : (xs.set k q)[i]? = some r := by rw [← e]; exact List.getElem?_eq_getElem hi
    by_cases ek : i = k
    · subst ek
      rw [List.getElem?_set_self (by simpa using hi)] at hr2
      cases hr2
      refine ⟨near, ?_⟩
      rw [hq]
      exact (h.nears p (List.mem_of_getElem? hk)).2
    · rw [List.getElem?_set_ne (Ne.symm ek)] at hr2
      have ho := h.nears r (List.mem_of_getElem? hr2)
      refine ⟨owns_keepB ho.1 (fun j hj => ?_), ho.2⟩
      refine hkeep j (ho.1.lt j hj).2 ?_ ?_
      · rintro rfl
        obtain ⟨cur, hh⟩ : ∃ cur, W.heap[j]? = some (.cells cur 40 (0, 0)) := by
          rcases h.row.2 with ⟨h0, _⟩ | ⟨g', cap', cur', hv', _, hh', _⟩
          · cases h0
          · cases hv'; exact ⟨cur', hh'⟩
        rcases ho.1.2 with ⟨h0, _⟩ | ⟨g', cap', cur', hv', _, hh', _⟩
        · rw [h0] at hj; simp [Value.ownBlock] at hj
        · rw [hv'] at hj
          simp [Value.ownBlock] at hj
          subst hj
          rw [hh] at hh'
          simp at hh'
      · intro he
        exact apart_at h.apart hr2 hk ek j hj he.symm

theorem set7 {xs : List RP} {k : Nat} {p q : RP} (hk : xs[k]? = some p) (hq : q.2 = p.2) :
    ((((((((flat encP xs).set (k * 8) (.int .i64 q.1.area)).set (k * 8 + 1) (.int .i64 q.1.kind)).set (k * 8 + 2) (.int .i64 q.1.owner)).set (k * 8 + 3) (.int .i64 q.1.key)).set (k * 8 + 4) (.int .i64 q.1.seq)).set (k * 8 + 6) (.int .i64 q.1.cost)).set (k * 8 + 7) (.bool q.1.far)) = flat encP (xs.set k q) := by
  obtain ⟨hlt, _⟩ := List.getElem?_eq_some_iff.1 hk
  have e : (((((((((flat encP xs).set (k * 8) (.int .i64 q.1.area)).set (k * 8 + 1) (.int .i64 q.1.kind)).set (k * 8 + 2) (.int .i64 q.1.owner)).set (k * 8 + 3) (.int .i64 q.1.key)).set (k * 8 + 4) (.int .i64 q.1.seq)).set (k * 8 + 5) q.2).set (k * 8 + 6) (.int .i64 q.1.cost)).set (k * 8 + 7) (.bool q.1.far)) = flat encP (xs.set k q) := flat_set encP_len xs k q hlt
  rw [← e]
  congr 2
  have h5 : ((((((flat encP xs).set (k * 8) (.int .i64 q.1.area)).set (k * 8 + 1) (.int .i64 q.1.kind)).set (k * 8 + 2) (.int .i64 q.1.owner)).set (k * 8 + 3) (.int .i64 q.1.key)).set (k * 8 + 4) (.int .i64 q.1.seq))[k * 8 + 5]? = some q.2 := by
    rw [List.getElem?_set_ne (by omega), List.getElem?_set_ne (by omega), List.getElem?_set_ne (by omega), List.getElem?_set_ne (by omega), List.getElem?_set_ne (by omega), flat_get encP_len xs k 5 p hk (by omega), hq]
    rfl
  obtain ⟨h6, e6⟩ := List.getElem?_eq_some_iff.1 h5
  rw [← e6]
  exact (List.set_getElem_self h6).symm

theorem own_type_ne2 {W : World} {base size n z : Nat} {e t : TypeId} {v : Value} {xs : List Value} {C : Array Value} {fr : Nat × Nat} (ho : W.ownsRow base e size v n xs) (h : W.heap[z]? = some (.cells C t fr)) (hne : e ≠ t) : some z ≠ v.ownBlock := by
  intro eq
  rcases ho.2 with ⟨h1, _⟩ | ⟨g', cap', cur', hv', _, hh', _⟩
  · rw [h1] at eq; simp [Value.ownBlock] at eq
  · rw [hv'] at eq
    simp [Value.ownBlock] at eq
    subst eq
    rw [h] at hh'
    simp at hh'
    exact hne hh'.2.1.symm

abbrev set5 (W : World) (g o : Nat) (z : Int) : World := ((((W.setCell ⟨g, o, none⟩ (.int .i64 z)).setCell ⟨g, o + 1, none⟩ (.int .i64 (z + 1))).setCell ⟨g, o + 2, none⟩ (.int .i64 (z + 1 + 1))).setCell ⟨g, o + 3, none⟩ (.int .i64 (z + 1 + 1 + 1))).setCell ⟨g, o + 4, none⟩ (.int .i64 (z + 1 + 1 + 1 + 1))

theorem set5_grown (W : World) (g o : Nat) (z : Int) : W.grownBy (set5 W g o z) (some g) :=
  grown_trans (grown_trans (grown_trans (grown_trans (grown_set W g _ _) (grown_set _ g _ _)) (grown_set _ g _ _)) (grown_set _ g _ _)) (grown_set _ g _ _)

set_option maxRecDepth 100000 in
set_option maxHeartbeats 2000000 in
theorem markRecordS_any (v : Value) (lo hi : Nat) (ps : List RP) (c : Int) (w : World) (h : RecsOwn w lo hi v ps) (hn : tot ps ≤ 1048576) (hc : 0 ≤ c) (hc2 : c ≤ 10000000) :
    Calls Tryz.prog 21 #[v, .int .i64 c] w fun e w' => e = .returned (.int .i64 (mkE c ps)) ∧ RecsOwn w' lo hi v (mkL c ps) ∧ Frame lo hi w w' := by
  have hnl := tot_len ps
  by_cases h0 : ps.length = 0
  · have hps : ps = [] := List.length_eq_zero_iff.1 h0
    subst hps
    obtain ⟨a1, c1, rfl⟩ := owns_lenS h.row
    have H1 := hide h
    clear h
    go_enter Tryz.func21, Tryz.ntmps21
    go_wp2
    refine wp_loop_rounds 1 ?_
    rw [rounds_succ]
    go_wp2
    go_ret
    exact ⟨rfl, H1.out, Frame.refl _ _ _⟩
  · obtain ⟨g, cap, rfl, hg1, hl1⟩ := owns_shapeS h.row (by omega)
    have H1 := hide h
    have HG := hide (h.top g rfl)
    clear h h0
    go_enter Tryz.func21, Tryz.ntmps21
    go_wp2
    go_loopw [5, 1] (fun i r wr => ∃ (k : Nat), k ≤ ps.length ∧ i = .int .i64 k ∧ r = .int .i64 (mkE c (ps.take k)) ∧ RecsOwn wr lo hi (.slice (some ⟨g, 0, none⟩) ps.length cap) (mkL c (ps.take k) ++ ps.drop k) ∧ Frame lo hi w wr) (fun i _ _ => ps.length - (intOf i).toNat)
    case atStart => exact ⟨0, by omega, rfl, rfl, H1.out, Frame.refl _ _ _⟩
    case round =>
      clear H1
      obtain ⟨k, hk, rfl, rfl, hown, hnx⟩ := hrel
      by_cases hlt : k < ps.length
      · obtain ⟨p, hp⟩ : ∃ p, ps[k]? = some p := ⟨ps[k], List.getElem?_eq_getElem hlt⟩
        have hki : (0 : Int) ≤ (k : Int) := by omega
        have hkj : (k : Int) < (ps.length : Int) := by omega
        have ht1 := tot_takeLe ps k
        have ht2 := mkE_tot c (ps.take k)
        have hpl := tot_mem (List.mem_of_getElem? hp)
        obtain ⟨z, hz⟩ : ∃ z, z = mkE c (ps.take k) := ⟨_, rfl⟩
        rw [← hz] at ht2 ⊢
        have hz0 : 0 ≤ z := by omega
        have hz2 : z ≤ 100000000 := by omega
        obtain ⟨xs, hxs⟩ : ∃ xs, xs = mkL c (ps.take k) ++ ps.drop k := ⟨_, rfl⟩
        rw [← hxs] at hown
        have hxl : xs.length = ps.length := by rw [hxs]; simp [mkL_len]; omega
        have hxk : xs[k]? = some p := by
          rw [hxs, List.getElem?_append_right (by rw [mkL_len, List.length_take]; omega), mkL_len, List.length_take, Nat.min_eq_left (by omega), Nat.sub_self, List.getElem?_drop, Nat.add_zero]
          exact hp
        have hstep : xs.set k (mkR z p) = mkL c (ps.take (k + 1)) ++ ps.drop (k + 1) := by
          have ed : ps.drop k = p :: ps.drop (k + 1) := by
            obtain ⟨h1, e1⟩ := List.getElem?_eq_some_iff.1 hp
            rw [List.drop_eq_getElem_cons h1, e1]
          rw [hxs, mkL_step c hp, ← hz, List.set_append_right _ _ (by rw [mkL_len, List.length_take]; omega), mkL_len, List.length_take, Nat.min_eq_left (by omega), Nat.sub_self, ed, List.set_cons_zero]
          simp
        have hnext : mkE c (ps.take (k + 1)) = nxR z p := by rw [mkE_step c hp, hz]
        have hrow := hown.row
        rw [hxl] at hrow
        have hex : ∀ r, r < 8 → ∃ u, wr.cell? ⟨g, k * 8 + r, none⟩ = some u := fun r hr => own_cell hrow _ (by omega)
        obtain ⟨u0, d0⟩ := hex 0 (by omega)
        obtain ⟨u1, d1⟩ := hex 1 (by omega)
        obtain ⟨u2, d2⟩ := hex 2 (by omega)
        obtain ⟨u3, d3⟩ := hex 3 (by omega)
        obtain ⟨u4, d4⟩ := hex 4 (by omega)
        obtain ⟨u6, d6⟩ := hex 6 (by omega)
        obtain ⟨u7, d7⟩ := hex 7 (by omega)
        rw [Nat.add_zero] at d0
        have d5 : wr.cell? ⟨g, k * 8 + 5, none⟩ = some p.2 := by
          rw [hrow.cellAt _ (by omega), flat_get encP_len xs k 5 p hxk (by omega)]
          rfl
        have f0 := hrow.frozenAt (k * 8)
        have f1 := hrow.frozenAt (k * 8 + 1)
        have f2 := hrow.frozenAt (k * 8 + 2)
        have f3 := hrow.frozenAt (k * 8 + 3)
        have f4 := hrow.frozenAt (k * 8 + 4)
        have f5 := hrow.frozenAt (k * 8 + 5)
        have f6 := hrow.frozenAt (k * 8 + 6)
        have f7 := hrow.frozenAt (k * 8 + 7)
        have hnear := (hown.nears p (List.mem_of_getElem? hxk)).1
        obtain ⟨na, nc, hpn⟩ := owns_lenS hnear
        rw [hpn] at d5
        have hzr : w.heap.size ≤ wr.heap.size := hnx.size
        obtain ⟨curg, hcurg⟩ : ∃ cur, wr.heap[g]? = some (.cells cur 40 (0, 0)) := by
          rcases hrow.2 with ⟨h0, _⟩ | ⟨g', cap', cur', hv', _, hh', _⟩
          · cases h0
          · cases hv'; exact ⟨cur', hh'⟩
        have hgne : some g ≠ p.2.ownBlock := own_type_ne2 hnear hcurg (by decide)
        rw [hpn] at hnear hgne
        have row5 := ((((hrow.stored (k * 8) (.int .i64 z)).1.stored (k * 8 + 1) (.int .i64 (z + 1))).1.stored (k * 8 + 2) (.int .i64 (z + 1 + 1))).1.stored (k * 8 + 3) (.int .i64 (z + 1 + 1 + 1))).1.stored (k * 8 + 4) (.int .i64 (z + 1 + 1 + 1 + 1)) |>.1
        have gr5 := set5_grown wr g (k * 8) z
        have near5 : (set5 wr g (k * 8) z).ownsRow lo 98 2 (.slice na p.1.near.length nc) p.1.near.length (flat nrE p.1.near) := owns_keepB hnear (fun j hj => gr5.block j (hnear.lt j hj).2 (fun e => hgne (by rw [hj, e])))
        have HMN := hide (markNearS_any (.slice na p.1.near.length nc) lo p.1.near.length p.1.near (z + 1 + 1 + 1 + 1 + 1) (set5 wr g (k * 8) z) rfl near5 (by omega) (by omega) (by omega))
        have HOWN := hide hown
        have HROW5 := hide row5
        have HGR5 := hide gr5
        have HXL := hide hxl
        have HXK := hide hxk
        have HSTEP := hide hstep
        have HNEXT := hide hnext
        have HPN := hide hpn
        have HGNE := hide hgne
        have HZ := hide hz
        have HTK := hide ht2
        clear hown hrow hxl hxk hstep hnext hpn hnear hex hcurg hxs hz hp row5 gr5 near5 hgne ht2 ht1
        go_wp2_with fail
        refine HMN.out.mono ?_
        rintro e w6 ⟨rfl, near6, gr6⟩
        have row6 : w6.ownsRow lo 40 8 (.slice (some ⟨g, 0, none⟩) ps.length cap) ps.length _ := owns_keepB HROW5.out (fun j hj => gr6.block j (HROW5.out.lt j hj).2 (fun e => HGNE.out (by cases hj; exact e)))
        obtain ⟨x6, e6⟩ := own_cell row6 (k * 8 + 6) (by omega)
        obtain ⟨x7, e7⟩ := own_cell row6 (k * 8 + 7) (by omega)
        have t6 := row6.frozenAt (k * 8 + 6)
        have t7 := row6.frozenAt (k * 8 + 7)
        have row8 := (row6.stored (k * 8 + 6) (.int .i64 (mkR z p).1.cost)).1.stored (k * 8 + 7) (.bool (mkR z p).1.far) |>.1
        have e8 := set7 (q := mkR z p) HXK.out rfl
        have row8' : ((w6.setCell ⟨g, k * 8 + 6, none⟩ (.int .i64 (mkR z p).1.cost)).setCell ⟨g, k * 8 + 7, none⟩ (.bool (mkR z p).1.far)).ownsRow lo 40 8 (.slice (some ⟨g, 0, none⟩) ps.length cap) ps.length (flat encP (xs.set k (mkR z p))) := by
          rw [← e8]
          exact row8
        have gr8 : w6.grownBy ((w6.setCell ⟨g, k * 8 + 6, none⟩ (.int .i64 (mkR z p).1.cost)).setCell ⟨g, k * 8 + 7, none⟩ (.bool (mkR z p).1.far)) (some g) := grown_trans (grown_set _ _ _ _) (grown_set _ _ _ _)
        have near8 := owns_keepB near6 (W' := (w6.setCell ⟨g, k * 8 + 6, none⟩ (.int .i64 (mkR z p).1.cost)).setCell ⟨g, k * 8 + 7, none⟩ (.bool (mkR z p).1.far)) (fun j hj => gr8.block j (near6.lt j hj).2 (fun e => HGNE.out (by rw [hj, e])))
        have fr : Frame lo hi wr ((w6.setCell ⟨g, k * 8 + 6, none⟩ (.int .i64 (mkR z p).1.cost)).setCell ⟨g, k * 8 + 7, none⟩ (.bool (mkR z p).1.far)) :=
          ((Frame.grown HGR5.out (fun j hj => by simp at hj; have := HG.out; omega)).trans (Frame.grown gr6 (fun j hj => ⟨(near6.lt j hj).1, by have := (HOWN.out.nears p (List.mem_of_getElem? HXK.out)).2 j (by rw [HPN.out]; exact hj); exact this⟩))).trans (Frame.grown gr8 (fun j hj => by simp at hj; have := HG.out; omega))
        have fin := HOWN.out.turn (W8 := (w6.setCell ⟨g, k * 8 + 6, none⟩ (.int .i64 (mkR z p).1.cost)).setCell ⟨g, k * 8 + 7, none⟩ (.bool (mkR z p).1.far)) (q := mkR z p) HXL.out HXK.out rfl row8' (by
            have h9 := near8
            show World.ownsRow _ lo 98 2 p.2 (marks _ _).length (flat nrE (marks _ _))
            rw [HPN.out, marks_len]
            exact h9) (fun j h1 h2 h3 => by
            have g5 := HGR5.out.size
            have g6 := gr6.size
            rw [gr8.block j (by omega) (by simp; omega), gr6.block j (by omega) (by rw [← HPN.out]; exact h3), HGR5.out.block j h1 (by simp; omega)])
        rw [HSTEP.out] at fin
        have FIN := hide fin
        have FR := hide fr
        clear row6 row8 e8 row8' gr8 near8 fr fin near6 gr6 HOWN HROW5 HMN HGR5
        go_wp2
        refine ⟨⟨k + 1, by omega, by go_num, ?_, FIN.out, hnx.trans FR.out⟩, by simp [intOf]; omega⟩
        rw [HNEXT.out]
        rfl
      · have hkn : k = ps.length := by omega
        have KN := hide hkn
        have OW := hide hown
        clear hkn hown
        go_wp2
        go_ret
        have h1 := OW.out
        rw [KN.out, List.take_length, List.drop_length, List.append_nil] at h1
        exact ⟨ret_int1 (by rw [KN.out, List.take_length]), h1, hnx⟩

set_option maxRecDepth 100000 in
set_option maxHeartbeats 2000000 in
theorem heldRecordS_any (v : Value) (ps : List RP) (c : Int) (w : World) (h : RecsAt w v (mkL c ps) w.heap.size) (hn : tot ps ≤ 1048576) (hc : 0 ≤ c) (hc2 : c ≤ 10000000) :
    Calls Tryz.prog 23 #[v, .int .i64 c] w fun e w' => e = .returned (.int .i64 (mkE c ps)) ∧ w = w' := by
  obtain ⟨a, cap, rfl⟩ := h.shape
  rw [mkL_len] at *
  have H1 := hide h
  have hnl := tot_len ps
  clear h
  go_enter Tryz.func23, Tryz.ntmps23
  go_wp2
  go_loop [5, 1] (fun i r => ∃ k : Nat, k ≤ ps.length ∧ i = .int .i64 k ∧ r = .int .i64 (mkE c (ps.take k))) (fun i _ => ps.length - (intOf i).toNat)
  case atStart => exact ⟨0, by omega, rfl, rfl⟩
  case round =>
    obtain ⟨k, hk, rfl, rfl⟩ := hrel
    by_cases hlt : k < ps.length
    · obtain ⟨p, hp⟩ : ∃ p, ps[k]? = some p := ⟨ps[k], List.getElem?_eq_getElem hlt⟩
      have hki : (0 : Int) ≤ (k : Int) := by omega
      have hkj : (k : Int) < (ps.length : Int) := by omega
      have ht1 := tot_takeLe ps k
      have ht2 := mkE_tot c (ps.take k)
      have hpl := tot_mem (List.mem_of_getElem? hp)
      have hnext := mkE_step c hp
      have hat := mkL_at c hp
      obtain ⟨z, hz⟩ : ∃ z, z = mkE c (ps.take k) := ⟨_, rfl⟩
      rw [← hz] at ht2 hnext hat ⊢
      have hz0 : 0 ≤ z := by omega
      have hz2 : z ≤ 100000000 := by omega
      obtain ⟨b, off, cap', hve, hbb, s0, s1, s2, s3, s4, s5, s6, s7, hnr⟩ := H1.out.cells k (mkR z p) hat
      rw [mkL_len] at hve
      cases hve
      unfold mkR at s0 s1 s2 s3 s4 s5 s6 s7 hnr
      simp only [] at s0 s1 s2 s3 s4 s5 s6 s7 hnr
      obtain ⟨na, nc, hpn⟩ := hnr.shape
      rw [marks_len] at hpn
      rw [hpn] at s5 hnr
      have HH := hide (heldNearS_any _ p.1.near.length (z + 1 + 1 + 1 + 1 + 1) w hnr (by omega) (by omega) (by omega))
      have HNEXT := hide hnext
      have HZ := hide hz
      have hm0 : ¬ z + 1 + 1 + 1 + 1 + 1 + 2 * (p.1.near.length : Int) < 0 := by omega
      clear hp hnext hat hz hnr hpn ht1 ht2
      go_wp2_with fail
      refine HH.out.mono ?_
      rintro e w1 ⟨rfl, rfl⟩
      go_wp2
      go_round
      case rel => exact ⟨k + 1, by omega, by go_num, by rw [HNEXT.out]; rfl⟩
      case measure => simp [intOf]; omega
    · have hkn : k = ps.length := by omega
      have KN := hide hkn
      clear hkn
      go_wp2
      go_ret
      exact ⟨ret_int1 (by rw [KN.out, List.take_length]), rfl⟩
end Go.Proofs.YtcimbiinljcifaaGreat
namespace Go.Proofs.YtcimbiinljcifaaGreat
open Go.RowKit

def intsOf (l : List Int) : List Value := l.map fun z => Value.int .i64 z

theorem Tryz.info3 : (Tryz.prog.info? 3).map (fun i => (i.zero, i.size, i.bytes)) = some (some (.int .i64 0), 1, 8) := by kernel_rfl

end Go.Proofs.YtcimbiinljcifaaGreat
namespace Go.Proofs.YtcimbiinljcifaaGreat
open Go.RowKit

def intC (zs : List Int) (j : Nat) : Value := .int .i64 (zs.getD j 0)

def IntsAt (W : World) (v : Value) (zs : List Int) (B : Nat) : Prop := RowAt W v zs.length 1 (intC zs) B

theorem below_drewN {B : Nat} {w wr : World} (h : Below B w wr) (n : Nat) : Below B w (wr.drewN n) := ⟨h.os, h.tape, h.output, h.size, h.block⟩

theorem list_ne_at {xs ys : List Int} {k : Nat} (h : xs.getD k 0 ≠ ys.getD k 0) : ¬ xs = ys := by
  rintro rfl
  exact h rfl

theorem list_eq_all {xs ys : List Int} (hl : xs.length = ys.length) (h : ∀ j, j < xs.length → xs.getD j 0 = ys.getD j 0) : xs = ys := by
  apply List.ext_getElem hl
  intro i h1 h2
  have := h i h1
  simpa [List.getD, List.getElem?_eq_getElem h1, List.getElem?_eq_getElem h2] using this

set_option maxRecDepth 100000 in
set_option maxHeartbeats 1000000 in
theorem eqI_any (v1 v2 : Value) (xs ys : List Int) (w : World) (h1 : IntsAt w v1 xs w.heap.size) (h2 : IntsAt w v2 ys w.heap.size) (hn : xs.length ≤ 1048576) :
    Calls Tryz.prog 49 #[v1, v2] w fun e w' => e = .returned (.bool (decide (xs = ys))) ∧ Below w.heap.size w w' := by
  obtain ⟨a1, c1, rfl, k1⟩ := h1
  obtain ⟨a2, c2, rfl, k2⟩ := h2
  by_cases hl : xs.length = ys.length
  · have K1 := hide k1
    have K2 := hide k2
    clear k1 k2
    go_enter Tryz.func49, Tryz.ntmps49
    go_wp2
    go_loopw [5] (fun i wr => ∃ k : Nat, k ≤ xs.length ∧ i = .int .i64 k ∧ (∀ j, j < k → xs.getD j 0 = ys.getD j 0) ∧ Below w.heap.size w wr) (fun i _ => xs.length - (intOf i).toNat)
    case atStart => exact ⟨0, by omega, rfl, by omega, Below.refl _ _⟩
    case round =>
      obtain ⟨k, hk, rfl, hall, hnx⟩ := hrel
      have HALL := hide hall
      clear hall
      by_cases hlt : k < xs.length
      · obtain ⟨b1, o1, ha1, hb1, d1⟩ : ∃ b1 o1, a1 = some ⟨b1, o1, none⟩ ∧ b1 < w.heap.size ∧ wr.cell? ⟨b1, o1 + k, none⟩ = some (.int .i64 (xs.getD k 0)) := by
          rcases K1.out with h0 | ⟨b, off, ha, hb, hx⟩
          · omega
          · exact ⟨b, off, ha, hb, by rw [hnx.cell (p := ⟨b, off + k, none⟩) hb, hx k (by omega)]; rfl⟩
        obtain ⟨b2, o2, ha2, hb2, d2⟩ : ∃ b2 o2, a2 = some ⟨b2, o2, none⟩ ∧ b2 < w.heap.size ∧ wr.cell? ⟨b2, o2 + k, none⟩ = some (.int .i64 (ys.getD k 0)) := by
          rcases K2.out with h0 | ⟨b, off, ha, hb, hx⟩
          · omega
          · exact ⟨b, off, ha, hb, by rw [hnx.cell (p := ⟨b, off + k, none⟩) hb, hx k (by omega)]; rfl⟩
        subst ha1 ha2
        have hki : (0 : Int) ≤ (k : Int) := by omega
        have hkj : (k : Int) < (xs.length : Int) := by omega
        have hkl : (k : Int) < (ys.length : Int) := by omega
        obtain ⟨x, hx⟩ : ∃ x, x = xs.getD k 0 := ⟨_, rfl⟩
        obtain ⟨y, hy⟩ : ∃ y, y = ys.getD k 0 := ⟨_, rfl⟩
        rw [← hx] at d1
        rw [← hy] at d2
        have HX := hide hx
        have HY := hide hy
        clear hx hy
        by_cases hxy : x = y
        · subst hxy
          go_wp2
          go_quiet (fail)
          go_wp2
          go_roundw
          case rel => exact ⟨k + 1, by omega, by go_num, (fun j hj => by
            by_cases e : j = k
            · subst e; rw [← HX.out, ← HY.out]
            · exact HALL.out j (by omega)), below_drewN hnx _⟩
          case measure => simp [intOf]; omega
        · have hd : (x != y) = true := by simpa using hxy
          go_wp2
          go_quiet (fail)
          go_wp2
          go_ret
          exact ⟨ret_bool_no (list_ne_at (k := k) (by rw [← HX.out, ← HY.out]; exact hxy)), below_drewN hnx _⟩
      · have hkn : k = xs.length := by omega
        have KN := hide hkn
        clear hkn
        go_wp2
        go_ret
        exact ⟨ret_bool_yes (list_eq_all hl (by rw [← KN.out]; exact HALL.out)), hnx⟩
  · clear k1 k2
    have hd : ((xs.length : Int) != (ys.length : Int)) = true := by simp; omega
    go_enter Tryz.func49, Tryz.ntmps49
    go_wp2
    go_ret
    exact ⟨ret_bool_no (fun h => hl (by rw [h])), Below.refl _ _⟩

def marksI (q : Int) : Nat → List Int
  | 0 => []
  | n + 1 => marksI q n ++ [q + (n : Int)]

theorem marksI_length (q : Int) : ∀ n, (marksI q n).length = n
  | 0 => rfl
  | n + 1 => by simp [marksI, marksI_length q n]

def markedI (q : Int) (i : Nat) (xs : List Int) : List Int := marksI q i ++ xs.drop i

theorem markedI_length (q : Int) (i : Nat) (xs : List Int) (h : i ≤ xs.length) : (markedI q i xs).length = xs.length := by simp [markedI, marksI_length]; omega

theorem markedI_step (q : Int) (i : Nat) (xs : List Int) (h : i < xs.length) : (markedI q i xs).set i (q + (i : Int)) = markedI q (i + 1) xs := by
  unfold markedI
  rw [marksI, List.set_append_right _ _ (by rw [marksI_length]; omega), marksI_length, Nat.sub_self, List.drop_eq_getElem_cons h]
  simp only [List.set_cons_zero, List.append_assoc, List.cons_append, List.nil_append]

theorem intsOf_set (xs : List Int) (i : Nat) (t : Int) : (intsOf xs).set i (.int .i64 t) = intsOf (xs.set i t) := by simp [intsOf]

theorem marksI_get (q : Int) : ∀ (n k : Nat), k < n → (marksI q n).getD k 0 = q + (k : Int)
  | 0, k, h => by omega
  | n + 1, k, h => by
    by_cases e : k = n
    · subst e
      simp [marksI, List.getD, marksI_length]
    · have := marksI_get q n k (by omega)
      have hk : k < (marksI q n).length := by rw [marksI_length]; omega
      simp only [marksI, List.getD, List.getElem?_append_left hk] at this ⊢
      exact this

/-- cells of numbers, as rows of structs of one cell -/
def intE (z : Int) : List Value := [.int .i64 z]

theorem intE_len (z : Int) : (intE z).length = 1 := rfl

theorem flat_int (l : List Int) : flat intE l = intsOf l := by
  induction l with
  | nil => rfl
  | cons x l ih => rw [flat_cons, ih]; rfl

def HopsAt (W : World) (v : Value) (l : List Int) (B : Nat) : Prop := StructsAt intE 1 W v l B

theorem HopsAt.then {W W' : World} {v : Value} {l : List Int} (h : HopsAt W v l W.heap.size) (hb : Below W.heap.size W W') : HopsAt W' v l W'.heap.size := RowAt.then h hb

theorem HopsAt.shape {W : World} {v : Value} {l : List Int} {B : Nat} (h : HopsAt W v l B) : ∃ a cap, v = .slice a l.length cap := by obtain ⟨a, cap, h, _⟩ := h; exact ⟨a, cap, h⟩

theorem HopsAt.ints {W : World} {v : Value} {l : List Int} {B : Nat} (h : HopsAt W v l B) : IntsAt W v l B := by
  obtain ⟨a, cap, hv, h2⟩ := h
  refine ⟨a, cap, hv, ?_⟩
  rcases h2 with h0 | ⟨b, off, ha, hb, hx⟩
  · exact .inl h0
  · refine .inr ⟨b, off, ha, hb, fun j hj => ?_⟩
    rw [hx j hj, flat_int]
    have hj' : j < l.length := by omega
    simp [intsOf, intC, List.getD, List.getElem?_eq_getElem hj']

theorem HopsAt.cell {W : World} {v : Value} {l : List Int} {B : Nat} (h : HopsAt W v l B) (i : Nat) (z : Int) (hz : l[i]? = some z) : ∃ b off cap, v = .slice (some ⟨b, off, none⟩) l.length cap ∧ b < B ∧ W.cell? ⟨b, off + i, none⟩ = some (.int .i64 z) := by
  obtain ⟨b, off, cap, hv, hb, hc⟩ := StructsAt.cell h intE_len i z hz
  exact ⟨b, off, cap, hv, hb, by have := hc 0 _ rfl; simpa using this⟩

set_option maxRecDepth 100000 in
set_option maxHeartbeats 1000000 in
theorem toIntS_any (v : Value) (ls : List Int) (w : World) (hls : ls.length ≤ 1048576) (hv : HopsAt w v ls w.heap.size) :
    Calls Tryz.prog 46 #[v] w fun e w' => ∃ x, e = .returned x ∧ w'.ownsRow w.heap.size 3 1 x ls.length (flat intE ls) ∧ Below w.heap.size w w' := by
  obtain ⟨a, cap, rfl⟩ := hv.shape
  have HV := hide hv
  clear hv
  obtain ⟨i0, hi, hz0, hz1, hz2⟩ := info_parts Tryz.info3
  have HI := hide hi
  have HZ := hide hz0
  clear hi hz0
  go_enter Tryz.func46, Tryz.ntmps46
  go_wp2_with (first
    | (refine wpList_make_structs intE_len (by omega) _ rfl _ _ 28 rfl w.heap.size 3 i0 (.int .i64 0) 0 rfl Tryz.underlying28 HI.out HZ.out hz1 ls.length rfl rfl (by rw [hz2]; omega) (by unfold maxLen; omega) (Nat.le_refl _) ?_))
  intro w1 hown hg
  have b1 : Below w.heap.size w w1 := (Below.refl _ _).grown hg (Nat.le_refl _) (fun k hk => by simp at hk)
  have OW := hide hown
  clear hown hg
  go_wp2
  go_loopw [4] (fun i wr => ∃ k : Nat, k ≤ ls.length ∧ i = .int .i64 k ∧ wr.ownsRow w.heap.size 3 1 (.slice (some ⟨w.heap.size, 0, none⟩) ls.length ls.length) ls.length (flat intE (part ls 0 k)) ∧ Below w.heap.size w wr) (fun i _ => ls.length - (intOf i).toNat)
  case atStart => exact ⟨0, by omega, rfl, (by simpa [part] using OW.out), b1⟩
  case round =>
    obtain ⟨k, hk, rfl, hown, hnx⟩ := hrel
    by_cases hlt : k < ls.length
    · obtain ⟨l, hl⟩ : ∃ l, ls[k]? = some l := ⟨ls[k], List.getElem?_eq_getElem hlt⟩
      obtain ⟨b, off, cap', hve, hbb, c0⟩ := HV.out.cell k l hl
      cases hve
      rw [← hnx.cell (p := ⟨b, off + k, none⟩) hbb] at c0
      have HL := hide hl
      have hki : (0 : Int) ≤ (k : Int) := by omega
      have hkj : (k : Int) < (ls.length : Int) := by omega
      have hex : ∃ u, wr.cell? ⟨w.heap.size, k, none⟩ = some u := by
        rw [hown.cellAt _ (by omega)]
        have hln : k < (flat intE (part ls 0 k)).length := by rw [hown.1]; omega
        exact ⟨_, List.getElem?_eq_getElem hln⟩
      obtain ⟨u0, d0⟩ := hex
      have f0 := hown.frozenAt k
      have OW3 := hide hown
      clear hown hl
      go_wp2
      refine ⟨⟨k + 1, by omega, by go_num, ?_, hnx.setCell (Nat.le_refl _) _⟩, by simp [intOf]; omega⟩
      have h4 := (OW3.out.stored k (.int .i64 l)).1
      have e4 : (flat intE (part ls 0 k)).set k (.int .i64 l) = flat intE (part ls 0 (k + 1)) := by
        rw [← part_step ls 0 l k HL.out]
        have e5 := flat_set intE_len (part ls 0 k) k l (by rw [part_len _ _ _ hk]; exact hlt)
        rw [Nat.mul_one] at e5
        rw [← e5]
        rfl
      rw [e4] at h4
      exact h4
    · have hkn : k = ls.length := by omega
      have KN := hide hkn
      have OW2 := hide hown
      clear hkn hown
      go_wp2
      go_ret
      refine ⟨_, rfl, ?_, hnx⟩
      have h := OW2.out
      rw [KN.out, part_all] at h
      exact h

set_option maxRecDepth 100000 in
set_option maxHeartbeats 1000000 in
theorem szIntS_any (a : Option Addr) (n c : Nat) (q : Int) (w : World) (hn : (n : Int) ≤ 9223372036854775807) (hq0 : 0 ≤ q) (hq : q ≤ 1048576) :
    Calls Tryz.prog 43 #[.slice a n c, .int .i64 q] w fun e w' => e = .returned (.int .i64 (if q - (n : Int) < 0 then -1 else q - (n : Int))) ∧ w = w' := by
  by_cases h : q - (n : Int) < 0
  · rw [if_pos h]
    go_enter Tryz.func43, Tryz.ntmps43
    go_wp2
    go_ret
    exact ⟨rfl, rfl⟩
  · rw [if_neg h]
    go_enter Tryz.func43, Tryz.ntmps43
    go_wp2
    go_ret
    exact ⟨rfl, rfl⟩
end Go.Proofs.YtcimbiinljcifaaGreat
namespace Go.Proofs.YtcimbiinljcifaaGreat
open Go.RowKit

structure WayD where
  to : Int
  cost : Int
  hops : List Int
  deriving DecidableEq

def wayC (x : WayD) (v : Value) : Array Value := #[.int .i64 x.to, .int .i64 x.cost, v]

/-- the value v is the way x, whose row lies below B -/
def WayAt (W : World) (v : Value) (x : WayD) (B : Nat) : Prop := ∃ v1, v = .agg (wayC x v1) ∧ HopsAt W v1 x.hops B

theorem WayAt.then {W W' : World} {v : Value} {x : WayD} (h : WayAt W v x W.heap.size) (hb : Below W.heap.size W W') : WayAt W' v x W'.heap.size := by
  obtain ⟨v1, hv, h1⟩ := h
  exact ⟨v1, hv, h1.then hb⟩

end Go.Proofs.YtcimbiinljcifaaGreat
namespace Go.Proofs.YtcimbiinljcifaaGreat
open Go.RowKit

theorem grown_reflW (w : World) (r : Option Nat) : w.grownBy w r := ⟨rfl, rfl, rfl, Nat.le_refl _, fun _ _ _ => rfl⟩

set_option maxRecDepth 100000 in
set_option maxHeartbeats 1000000 in
theorem markG_any (v : Value) (base : Nat) (xs : List Int) (q : Int) (w : World) (h1 : w.ownsRow base 3 1 v xs.length (flat intE xs)) (hn : xs.length ≤ 1048576) (hq : 0 ≤ q) (hq2 : q ≤ 1000000000) :
    Calls Tryz.prog 52 #[v, .int .i64 q] w fun e w' => e = .returned (.int .i64 (q + (xs.length : Int))) ∧ w'.ownsRow base 3 1 v xs.length (flat intE (marksI q xs.length)) ∧ w.grownBy w' v.ownBlock := by
  rw [flat_int] at h1
  rw [flat_int]
  by_cases h0 : xs.length = 0
  · have hx : xs = [] := List.length_eq_zero_iff.1 h0
    subst hx
    obtain ⟨a1, c1, rfl⟩ := owns_len h1
    have H1 := hide h1
    clear h1 h0
    go_enter Tryz.func52, Tryz.ntmps52
    go_wp2
    refine wp_loop_rounds 1 ?_
    rw [rounds_succ]
    go_wp2
    go_ret
    exact ⟨by simp, H1.out, grown_reflW _ _⟩
  · obtain ⟨g1, c1, rfl, hg1, hl1⟩ := owns_shape h1 (by omega)
    obtain ⟨n, hnn⟩ : ∃ n, n = xs.length := ⟨_, rfl⟩
    have NN := hide hnn
    rw [← hnn] at hn h1 ⊢
    clear hnn h0
    go_enter Tryz.func52, Tryz.ntmps52
    go_wp2
    go_loopw [5, 1] (fun i r wr => ∃ k : Nat, k ≤ n ∧ i = .int .i64 k ∧ r = .int .i64 (q + (k : Int)) ∧ wr.ownsRow base 3 1 (.slice (some ⟨g1, 0, none⟩) n c1) n (intsOf (markedI q k xs)) ∧ w.grownBy wr (some g1)) (fun i _ _ => n - (intOf i).toNat)
    case atStart => exact ⟨0, by omega, rfl, by simp, h1, grown_reflW _ _⟩
    case round =>
      clear h1
      obtain ⟨k, hk, rfl, rfl, hown, hnx⟩ := hrel
      by_cases hlt : k < n
      · have hki : (0 : Int) ≤ (k : Int) := by omega
        have hkj : (k : Int) < (n : Int) := by omega
        have hfr1 := hown.frozenAt k
        have hcl1 : ∃ t, wr.cell? ⟨g1, k, none⟩ = some (.int .i64 t) := by
          rw [hown.cellAt k (by omega)]
          have hl : k < (markedI q k xs).length := by rw [markedI_length]; have := NN.out; omega; have := NN.out; omega
          exact ⟨(markedI q k xs)[k], by simp [intsOf, List.getElem?_eq_getElem hl]⟩
        obtain ⟨t, hcl⟩ := hcl1
        have hst := hown.stored k (.int .i64 (q + (k : Int)))
        rw [intsOf_set, markedI_step q k xs (by have := NN.out; omega)] at hst
        have ST := hide hst.1
        clear hst hown
        go_wp2
        go_roundw
        case rel => exact ⟨k + 1, by omega, by go_num, by go_num, ST.out, grown_trans hnx (grown_set _ _ _ _)⟩
        case measure => simp [intOf]; omega
      · have hkn : k = n := by omega
        have KN := hide hkn
        have OW := hide hown
        clear hkn hown
        go_wp2
        go_ret
        refine ⟨ret_int (by rw [KN.out]), ?_, hnx⟩
        have h := OW.out
        rw [KN.out] at h
        unfold markedI at h
        rw [List.drop_eq_nil_of_le (by have := NN.out; omega), List.append_nil] at h
        exact h

set_option maxRecDepth 100000 in
set_option maxHeartbeats 1000000 in
theorem heldG_any (v : Value) (n : Nat) (q : Int) (w : World) (h1 : HopsAt w v (marksI q n) w.heap.size) (hn : n ≤ 1048576) (hq : 0 ≤ q) (hq2 : q ≤ 1000000000) :
    Calls Tryz.prog 55 #[v, .int .i64 q] w fun e w' => e = .returned (.int .i64 (q + (n : Int))) ∧ w = w' := by
  obtain ⟨a1, c1, rfl, k1⟩ := h1.ints
  rw [marksI_length] at k1 ⊢
  have K1 := hide k1
  clear k1 h1
  go_enter Tryz.func55, Tryz.ntmps55
  go_wp2
  go_loop [5, 1] (fun i r => ∃ k : Nat, k ≤ n ∧ i = .int .i64 k ∧ r = .int .i64 (q + (k : Int))) (fun i _ => n - (intOf i).toNat)
  case atStart => exact ⟨0, by omega, rfl, by simp⟩
  case round =>
    obtain ⟨k, hk, rfl, rfl⟩ := hrel
    by_cases hlt : k < n
    · obtain ⟨b1, o1, ha1, hb1, d1⟩ : ∃ b1 o1, a1 = some ⟨b1, o1, none⟩ ∧ b1 < w.heap.size ∧ w.cell? ⟨b1, o1 + k, none⟩ = some (.int .i64 (q + (k : Int))) := by
        rcases K1.out with h0 | ⟨b, off, ha, hb, hx⟩
        · omega
        · exact ⟨b, off, ha, hb, by rw [hx k (by omega)]; simp only [intC, marksI_get q n k hlt]⟩
      subst ha1
      have hki : (0 : Int) ≤ (k : Int) := by omega
      have hkj : (k : Int) < (n : Int) := by omega
      go_wp2
      go_round
      case rel => exact ⟨k + 1, by omega, by go_num, by go_num⟩
      case measure => simp [intOf]; omega
    · have hkn : k = n := by omega
      have KN := hide hkn
      clear hkn
      go_wp2
      go_ret
      exact ⟨ret_int (by rw [KN.out]), rfl⟩
end Go.Proofs.YtcimbiinljcifaaGreat
