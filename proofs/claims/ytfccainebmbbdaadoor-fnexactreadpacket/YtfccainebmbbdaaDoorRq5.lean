/-
  laws.markRecordS, heldRecordS: only the list's own memory turns; what was marked is held.
  A list of records to which one more is put.
  spec.SameKey, spec.SameBody: their contracts.
  impl.Record.key, impl.SameKey: their contracts.
  impl.isIn, cmp.isNaN, cmp.Compare: their contracts.
  spec.Before: its contract.
  A key of four numbers in a block.
  slices.Compare at two keys, impl.Before: their contracts.
-/
import Derived.Test.YtfccainebmbbdaaDoorRq4
import Derived.Test.YtfccainebmbbdaaDoorRq1
import Derived.Laws.StructEq
import Derived.Deep.RegionHeld3
import Derived.ChangeKeysEq
namespace Go.Proofs.YtfccainebmbbdaaDoor
open Go.RowKit

/-- the numbers of a record that is marked from c on -/
def mkR (c : Int) (p : RP) : RP := (⟨c, c + 1, c + 1 + 1, c + 1 + 1 + 1, c + 1 + 1 + 1 + 1, marks (c + 1 + 1 + 1 + 1 + 1) p.1.near.length, c + 1 + 1 + 1 + 1 + 1 + 2 * (p.1.near.length : Int), (c + 1 + 1 + 1 + 1 + 1 + 2 * (p.1.near.length : Int) + 1) % 3 == 0⟩, p.2)

def nxR (c : Int) (p : RP) : Int := c + 1 + 1 + 1 + 1 + 1 + 2 * (p.1.near.length : Int) + 1 + 1

def mkL : Int → List RP → List RP
  | _, [] => []
  | c, p :: ps => mkR c p :: mkL (nxR c p) ps

def mkE : Int → List RP → Int
  | c, [] => c
  | c, p :: ps => mkE (nxR c p) ps

theorem mkL_len (c : Int) (ps : List RP) : (mkL c ps).length = ps.length := by
  induction ps generalizing c with
  | nil => rfl
  | cons p ps ih => simp [mkL, ih]

theorem mkE_append (c : Int) (a b : List RP) : mkE c (a ++ b) = mkE (mkE c a) b := by
  induction a generalizing c with
  | nil => rfl
  | cons p a ih => exact ih _

theorem mkL_append (c : Int) (a b : List RP) : mkL c (a ++ b) = mkL c a ++ mkL (mkE c a) b := by
  induction a generalizing c with
  | nil => rfl
  | cons p a ih => simp only [List.cons_append, mkL, mkE, ih]

theorem mkE_step {ps : List RP} {k : Nat} {p : RP} (c : Int) (h : ps[k]? = some p) : mkE c (ps.take (k + 1)) = nxR (mkE c (ps.take k)) p := by
  obtain ⟨hk, e⟩ := List.getElem?_eq_some_iff.1 h
  rw [List.take_succ_eq_append_getElem hk, mkE_append, e]
  rfl

theorem mkL_step {ps : List RP} {k : Nat} {p : RP} (c : Int) (h : ps[k]? = some p) : mkL c (ps.take (k + 1)) = mkL c (ps.take k) ++ [mkR (mkE c (ps.take k)) p] := by
  obtain ⟨hk, e⟩ := List.getElem?_eq_some_iff.1 h
  rw [List.take_succ_eq_append_getElem hk, mkL_append, e]
  rfl

theorem mkE_tot (c : Int) (ps : List RP) : c + 2 * (tot ps : Int) ≤ mkE c ps ∧ mkE c ps ≤ c + 7 * (tot ps : Int) := by
  induction ps generalizing c with
  | nil => simp [mkE, tot]
  | cons p ps ih =>
    have h := ih (nxR c p)
    rw [tot_cons]
    simp only [mkE]
    unfold nxR at h ⊢
    omega

theorem tot_takeLe (ps : List RP) (k : Nat) : tot (ps.take k) ≤ tot ps := by
  have h := tot_append (ps.take k) (ps.drop k)
  rw [List.take_append_drop] at h
  omega

theorem mkL_at {ps : List RP} {k : Nat} {p : RP} (c : Int) (h : ps[k]? = some p) : (mkL c ps)[k]? = some (mkR (mkE c (ps.take k)) p) := by
  obtain ⟨hk, e⟩ := List.getElem?_eq_some_iff.1 h
  have e2 : ps = ps.take k ++ (p :: ps.drop (k + 1)) := by
    rw [← e]
    simp
  have e3 : mkL c ps = mkL c (ps.take k) ++ (mkR (mkE c (ps.take k)) p :: mkL (nxR (mkE c (ps.take k)) p) (ps.drop (k + 1))) := by
    conv => lhs; rw [e2]
    rw [mkL_append]
    rfl
  rw [e3, List.getElem?_append_right (by rw [mkL_len, List.length_take]; omega), mkL_len, List.length_take, Nat.min_eq_left (by omega), Nat.sub_self]
  rfl

theorem apart_snd (ps : List RP) : ps.Pairwise Apart ↔ (ps.map (·.2)).Pairwise (fun a b : Value => ∀ k, a.ownBlock = some k → b.ownBlock ≠ some k) := by
  rw [List.pairwise_map]
  exact Iff.rfl

theorem apart_at {ps : List RP} (h : ps.Pairwise Apart) {i k : Nat} {p q : RP} (hi : ps[i]? = some p) (hk : ps[k]? = some q) (hne : i ≠ k) : Apart p q := by
  obtain ⟨h1, e1⟩ := List.getElem?_eq_some_iff.1 hi
  obtain ⟨h2, e2⟩ := List.getElem?_eq_some_iff.1 hk
  rw [List.pairwise_iff_getElem] at h
  rcases Nat.lt_or_ge i k with hl | hl
  · have := h i k h1 h2 hl
    rw [e1, e2] at this
    exact this
  · have := h k i h2 h1 (by omega)
    rw [e1, e2] at this
    exact fun j hj he => this j he hj

theorem set_snd {ps : List RP} {k : Nat} {p q : RP} (hk : ps[k]? = some p) (h : q.2 = p.2) : (ps.set k q).map (·.2) = ps.map (·.2) := by
  apply List.ext_getElem?
  intro i
  by_cases e : i = k
  · subst e
    obtain ⟨h1, e1⟩ := List.getElem?_eq_some_iff.1 hk
    rw [List.getElem?_map, List.getElem?_set_self h1, List.getElem?_map, hk]
    simp [h]
  · simp [List.getElem?_set_ne (Ne.symm e)]

/-- one record turned within its list -/
theorem RecsOwn.turn {W W8 : World} {lo hi g n cap k : Nat} {xs : List RP} {p q : RP} (h : RecsOwn W lo hi (.slice (some ⟨g, 0, none⟩) n cap) xs) (hn : xs.length = n) (hk : xs[k]? = some p) (hq : q.2 = p.2)
    (row : W8.ownsRow lo 39 8 (.slice (some ⟨g, 0, none⟩) n cap) n (flat encP (xs.set k q))) (near : W8.ownsRow lo 55 2 q.2 q.1.near.length (flat nrE q.1.near))
    (hkeep : ∀ j, j < W.heap.size → j ≠ g → some j ≠ p.2.ownBlock → W8.heap[j]? = W.heap[j]?) : RecsOwn W8 lo hi (.slice (some ⟨g, 0, none⟩) n cap) (xs.set k q) where
  row := by rw [List.length_set, hn]; exact row
  top := h.top
  apart := by rw [apart_snd, set_snd hk hq, ← apart_snd]; exact h.apart
  nears := by
    intro r hr
    obtain ⟨i, hi, e⟩ := List.getElem_of_mem hr
    have hr2 : (xs.set k q)[i]? = some r := by rw [← e]; exact List.getElem?_eq_getElem hi
    by_cases ek : i = k
    · subst ek
      rw [List.getElem?_set_self (by simpa using hi)] at hr2
      cases hr2
      refine ⟨near, ?_⟩
      rw [hq]
      exact (h.nears p (List.mem_of_getElem? hk)).2
    · rw [List.getElem?_set_ne (Ne.symm ek)] at hr2
      have ho := h.nears r (List.mem_of_getElem? hr2)
      refine ⟨owns_keepB ho.1 (fun j hj => ?_), ho.2⟩
      refine hkeep j (ho.1.lt j hj).2 ?_ ?_
      · rintro rfl
        obtain ⟨cur, hh⟩ : ∃ cur, W.heap[j]? = some (.cells cur 39 (0, 0)) := by
          rcases h.row.2 with ⟨h0, _⟩ | ⟨g', cap', cur', hv', _, hh', _⟩
          · cases h0
          · cases hv'; exact ⟨cur', hh'⟩
        rcases ho.1.2 with ⟨h0, _⟩ | ⟨g', cap', cur', hv', _, hh', _⟩
        · rw [h0] at hj; simp [Value.ownBlock] at hj
        · rw [hv'] at hj
          simp [Value.ownBlock] at hj
          subst hj
          rw [hh] at hh'
          simp at hh'
      · intro he
        exact apart_at h.apart hr2 hk ek j hj he.symm

theorem set7 {xs : List RP} {k : Nat} {p q : RP} (hk : xs[k]? = some p) (hq : q.2 = p.2) :
    ((((((((flat encP xs).set (k * 8) (.int .i64 q.1.area)).set (k * 8 + 1) (.int .i64 q.1.kind)).set (k * 8 + 2) (.int .i64 q.1.owner)).set (k * 8 + 3) (.int .i64 q.1.key)).set (k * 8 + 4) (.int .i64 q.1.seq)).set (k * 8 + 6) (.int .i64 q.1.cost)).set (k * 8 + 7) (.bool q.1.far)) = flat encP (xs.set k q) := by
  obtain ⟨hlt, _⟩ := List.getElem?_eq_some_iff.1 hk
  have e : (((((((((flat encP xs).set (k * 8) (.int .i64 q.1.area)).set (k * 8 + 1) (.int .i64 q.1.kind)).set (k * 8 + 2) (.int .i64 q.1.owner)).set (k * 8 + 3) (.int .i64 q.1.key)).set (k * 8 + 4) (.int .i64 q.1.seq)).set (k * 8 + 5) q.2).set (k * 8 + 6) (.int .i64 q.1.cost)).set (k * 8 + 7) (.bool q.1.far)) = flat encP (xs.set k q) := flat_set encP_len xs k q hlt
  rw [← e]
  congr 2
  have h5 : ((((((flat encP xs).set (k * 8) (.int .i64 q.1.area)).set (k * 8 + 1) (.int .i64 q.1.kind)).set (k * 8 + 2) (.int .i64 q.1.owner)).set (k * 8 + 3) (.int .i64 q.1.key)).set (k * 8 + 4) (.int .i64 q.1.seq))[k * 8 + 5]? = some q.2 := by
    rw [List.getElem?_set_ne (by omega), List.getElem?_set_ne (by omega), List.getElem?_set_ne (by omega), List.getElem?_set_ne (by omega), List.getElem?_set_ne (by omega), flat_get encP_len xs k 5 p hk (by omega), hq]
    rfl
  obtain ⟨h6, e6⟩ := List.getElem?_eq_some_iff.1 h5
  rw [← e6]
  exact (List.set_getElem_self h6).symm

theorem own_type_ne2 {W : World} {base size n z : Nat} {e t : TypeId} {v : Value} {xs : List Value} {C : Array Value} {fr : Nat × Nat} (ho : W.ownsRow base e size v n xs) (h : W.heap[z]? = some (.cells C t fr)) (hne : e ≠ t) : some z ≠ v.ownBlock := by
  intro eq
  rcases ho.2 with ⟨h1, _⟩ | ⟨g', cap', cur', hv', _, hh', _⟩
  · rw [h1] at eq; simp [Value.ownBlock] at eq
  · rw [hv'] at eq
    simp [Value.ownBlock] at eq
    subst eq
    rw [h] at hh'
    simp at hh'
    exact hne hh'.2.1.symm

abbrev set5 (W : World) (g o : Nat) (z : Int) : World := ((((W.setCell ⟨g, o, none⟩ (.int .i64 z)).setCell ⟨g, o + 1, none⟩ (.int .i64 (z + 1))).setCell ⟨g, o + 2, none⟩ (.int .i64 (z + 1 + 1))).setCell ⟨g, o + 3, none⟩ (.int .i64 (z + 1 + 1 + 1))).setCell ⟨g, o + 4, none⟩ (.int .i64 (z + 1 + 1 + 1 + 1))

theorem set5_grown (W : World) (g o : Nat) (z : Int) : W.grownBy (set5 W g o z) (some g) :=
  grown_trans (grown_trans (grown_trans (grown_trans (grown_set W g _ _) (grown_set _ g _ _)) (grown_set _ g _ _)) (grown_set _ g _ _)) (grown_set _ g _ _)

set_option maxRecDepth 100000 in
set_option maxHeartbeats 2000000 in
theorem markRecordS_any (v : Value) (lo hi : Nat) (ps : List RP) (c : Int) (w : World) (h : RecsOwn w lo hi v ps) (hn : tot ps ≤ 1048576) (hc : 0 ≤ c) (hc2 : c ≤ 10000000) :
    Calls Tryd.prog 21 #[v, .int .i64 c] w fun e w' => e = .returned (.int .i64 (mkE c ps)) ∧ RecsOwn w' lo hi v (mkL c ps) ∧ Frame lo hi w w' := by
  have hnl := tot_len ps
  by_cases h0 : ps.length = 0
  · have hps : ps = [] := List.length_eq_zero_iff.1 h0
    subst hps
    obtain ⟨a1, c1, rfl⟩ := owns_lenS h.row
    have H1 := hide h
    clear h
    go_enter Tryd.func21, Tryd.ntmps21
    go_wp2
    refine wp_loop_rounds 1 ?_
    rw [rounds_succ]
    go_wp2
    go_ret
    exact ⟨rfl, H1.out, Frame.refl _ _ _⟩
  · obtain ⟨g, cap, rfl, hg1, hl1⟩ := owns_shapeS h.row (by omega)
    have H1 := hide h
    have HG := hide (h.top g rfl)
    clear h h0
    go_enter Tryd.func21, Tryd.ntmps21
    go_wp2
    go_loopw [5, 1] (fun i r wr => ∃ (k : Nat), k ≤ ps.length ∧ i = .int .i64 k ∧ r = .int .i64 (mkE c (ps.take k)) ∧ RecsOwn wr lo hi (.slice (some ⟨g, 0, none⟩) ps.length cap) (mkL c (ps.take k) ++ ps.drop k) ∧ Frame lo hi w wr) (fun i _ _ => ps.length - (intOf i).toNat)
    case atStart => exact ⟨0, by omega, rfl, rfl, H1.out, Frame.refl _ _ _⟩
    case round =>
      clear H1
      obtain ⟨k, hk, rfl, rfl, hown, hnx⟩ := hrel
      by_cases hlt : k < ps.length
      · obtain ⟨p, hp⟩ : ∃ p, ps[k]? = some p := ⟨ps[k], List.getElem?_eq_getElem hlt⟩
        have hki : (0 : Int) ≤ (k : Int) := by omega
        have hkj : (k : Int) < (ps.length : Int) := by omega
        have ht1 := tot_takeLe ps k
        have ht2 := mkE_tot c (ps.take k)
        have hpl := tot_mem (List.mem_of_getElem? hp)
        obtain ⟨z, hz⟩ : ∃ z, z = mkE c (ps.take k) := ⟨_, rfl⟩
        rw [← hz] at ht2 ⊢
        have hz0 : 0 ≤ z := by omega
        have hz2 : z ≤ 100000000 := by omega
        obtain ⟨xs, hxs⟩ : ∃ xs, xs = mkL c (ps.take k) ++ ps.drop k := ⟨_, rfl⟩
        rw [← hxs] at hown
        have hxl : xs.length = ps.length := by rw [hxs]; simp [mkL_len]; omega
        have hxk : xs[k]? = some p := by
          rw [hxs, List.getElem?_append_right (by rw [mkL_len, List.length_take]; omega), mkL_len, List.length_take, Nat.min_eq_left (by omega), Nat.sub_self, List.getElem?_drop, Nat.add_zero]
          exact hp
        have hstep : xs.set k (mkR z p) = mkL c (ps.take (k + 1)) ++ ps.drop (k + 1) := by
          have ed : ps.drop k = p :: ps.drop (k + 1) := by
            obtain ⟨h1, e1⟩ := List.getElem?_eq_some_iff.1 hp
            rw [List.drop_eq_getElem_cons h1, e1]
          rw [hxs, mkL_step c hp, ← hz, List.set_append_right _ _ (by rw [mkL_len, List.length_take]; omega), mkL_len, List.length_take, Nat.min_eq_left (by omega), Nat.sub_self, ed, List.set_cons_zero]
          simp
        have hnext : mkE c (ps.take (k + 1)) = nxR z p := by rw [mkE_step c hp, hz]
        have hrow := hown.row
        rw [hxl] at hrow
        have hex : ∀ r, r < 8 → ∃ u, wr.cell? ⟨g, k * 8 + r, none⟩ = some u := fun r hr => own_cell hrow _ (by omega)
        obtain ⟨u0, d0⟩ := hex 0 (by omega)
        obtain ⟨u1, d1⟩ := hex 1 (by omega)
        obtain ⟨u2, d2⟩ := hex 2 (by omega)
        obtain ⟨u3, d3⟩ := hex 3 (by omega)
        obtain ⟨u4, d4⟩ := hex 4 (by omega)
        obtain ⟨u6, d6⟩ := hex 6 (by omega)
        obtain ⟨u7, d7⟩ := hex 7 (by omega)
        rw [Nat.add_zero] at d0
        have d5 : wr.cell? ⟨g, k * 8 + 5, none⟩ = some p.2 := by
          rw [hrow.cellAt _ (by omega), flat_get encP_len xs k 5 p hxk (by omega)]
          rfl
        have f0 := hrow.frozenAt (k * 8)
        have f1 := hrow.frozenAt (k * 8 + 1)
        have f2 := hrow.frozenAt (k * 8 + 2)
        have f3 := hrow.frozenAt (k * 8 + 3)
        have f4 := hrow.frozenAt (k * 8 + 4)
        have f5 := hrow.frozenAt (k * 8 + 5)
        have f6 := hrow.frozenAt (k * 8 + 6)
        have f7 := hrow.frozenAt (k * 8 + 7)
        have hnear := (hown.nears p (List.mem_of_getElem? hxk)).1
        obtain ⟨na, nc, hpn⟩ := owns_lenS hnear
        rw [hpn] at d5
        have hzr : w.heap.size ≤ wr.heap.size := hnx.size
        obtain ⟨curg, hcurg⟩ : ∃ cur, wr.heap[g]? = some (.cells cur 39 (0, 0)) := by
          rcases hrow.2 with ⟨h0, _⟩ | ⟨g', cap', cur', hv', _, hh', _⟩
          · cases h0
          · cases hv'; exact ⟨cur', hh'⟩
        have hgne : some g ≠ p.2.ownBlock := own_type_ne2 hnear hcurg (by decide)
        rw [hpn] at hnear hgne
        have row5 := ((((hrow.stored (k * 8) (.int .i64 z)).1.stored (k * 8 + 1) (.int .i64 (z + 1))).1.stored (k * 8 + 2) (.int .i64 (z + 1 + 1))).1.stored (k * 8 + 3) (.int .i64 (z + 1 + 1 + 1))).1.stored (k * 8 + 4) (.int .i64 (z + 1 + 1 + 1 + 1)) |>.1
        have gr5 := set5_grown wr g (k * 8) z
        have near5 : (set5 wr g (k * 8) z).ownsRow lo 55 2 (.slice na p.1.near.length nc) p.1.near.length (flat nrE p.1.near) := owns_keepB hnear (fun j hj => gr5.block j (hnear.lt j hj).2 (fun e => hgne (by rw [hj, e])))
        have HMN := hide (markNearS_any (.slice na p.1.near.length nc) lo p.1.near.length p.1.near (z + 1 + 1 + 1 + 1 + 1) (set5 wr g (k * 8) z) rfl near5 (by omega) (by omega) (by omega))
        have HOWN := hide hown
        have HROW5 := hide row5
        have HGR5 := hide gr5
        have HXL := hide hxl
        have HXK := hide hxk
        have HSTEP := hide hstep
        have HNEXT := hide hnext
        have HPN := hide hpn
        have HGNE := hide hgne
        have HZ := hide hz
        have HTK := hide ht2
        clear hown hrow hxl hxk hstep hnext hpn hnear hex hcurg hxs hz hp row5 gr5 near5 hgne ht2 ht1
        go_wp2_with fail
        refine HMN.out.mono ?_
        rintro e w6 ⟨rfl, near6, gr6⟩
        have row6 : w6.ownsRow lo 39 8 (.slice (some ⟨g, 0, none⟩) ps.length cap) ps.length _ := owns_keepB HROW5.out (fun j hj => gr6.block j (HROW5.out.lt j hj).2 (fun e => HGNE.out (by cases hj; exact e)))
        obtain ⟨x6, e6⟩ := own_cell row6 (k * 8 + 6) (by omega)
        obtain ⟨x7, e7⟩ := own_cell row6 (k * 8 + 7) (by omega)
        have t6 := row6.frozenAt (k * 8 + 6)
        have t7 := row6.frozenAt (k * 8 + 7)
        have row8 := (row6.stored (k * 8 + 6) (.int .i64 (mkR z p).1.cost)).1.stored (k * 8 + 7) (.bool (mkR z p).1.far) |>.1
        have e8 := set7 (q := mkR z p) HXK.out rfl
        have row8' : ((w6.setCell ⟨g, k * 8 + 6, none⟩ (.int .i64 (mkR z p).1.cost)).setCell ⟨g, k * 8 + 7, none⟩ (.bool (mkR z p).1.far)).ownsRow lo 39 8 (.slice (some ⟨g, 0, none⟩) ps.length cap) ps.length (flat encP (xs.set k (mkR z p))) := by
          rw [← e8]
          exact row8
        have gr8 : w6.grownBy ((w6.setCell ⟨g, k * 8 + 6, none⟩ (.int .i64 (mkR z p).1.cost)).setCell ⟨g, k * 8 + 7, none⟩ (.bool (mkR z p).1.far)) (some g) := grown_trans (grown_set _ _ _ _) (grown_set _ _ _ _)
        have near8 := owns_keepB near6 (W' := (w6.setCell ⟨g, k * 8 + 6, none⟩ (.int .i64 (mkR z p).1.cost)).setCell ⟨g, k * 8 + 7, none⟩ (.bool (mkR z p).1.far)) (fun j hj => gr8.block j (near6.lt j hj).2 (fun e => HGNE.out (by rw [hj, e])))
        have fr : Frame lo hi wr ((w6.setCell ⟨g, k * 8 + 6, none⟩ (.int .i64 (mkR z p).1.cost)).setCell ⟨g, k * 8 + 7, none⟩ (.bool (mkR z p).1.far)) :=
          ((Frame.grown HGR5.out (fun j hj => by simp at hj; have := HG.out; omega)).trans (Frame.grown gr6 (fun j hj => ⟨(near6.lt j hj).1, by have := (HOWN.out.nears p (List.mem_of_getElem? HXK.out)).2 j (by rw [HPN.out]; exact hj); exact this⟩))).trans (Frame.grown gr8 (fun j hj => by simp at hj; have := HG.out; omega))
        have fin := HOWN.out.turn (W8 := (w6.setCell ⟨g, k * 8 + 6, none⟩ (.int .i64 (mkR z p).1.cost)).setCell ⟨g, k * 8 + 7, none⟩ (.bool (mkR z p).1.far)) (q := mkR z p) HXL.out HXK.out rfl row8' (by
            have h9 := near8
            show World.ownsRow _ lo 55 2 p.2 (marks _ _).length (flat nrE (marks _ _))
            rw [HPN.out, marks_len]
            exact h9) (fun j h1 h2 h3 => by
            have g5 := HGR5.out.size
            have g6 := gr6.size
            rw [gr8.block j (by omega) (by simp; omega), gr6.block j (by omega) (by rw [← HPN.out]; exact h3), HGR5.out.block j h1 (by simp; omega)])
        rw [HSTEP.out] at fin
        have FIN := hide fin
        have FR := hide fr
        clear row6 row8 e8 row8' gr8 near8 fr fin near6 gr6 HOWN HROW5 HMN HGR5
        go_wp2
        refine ⟨⟨k + 1, by omega, by go_num, ?_, FIN.out, hnx.trans FR.out⟩, by simp [intOf]; omega⟩
        rw [HNEXT.out]
        rfl
      · have hkn : k = ps.length := by omega
        have KN := hide hkn
        have OW := hide hown
        clear hkn hown
        go_wp2
        go_ret
        have h1 := OW.out
        rw [KN.out, List.take_length, List.drop_length, List.append_nil] at h1
        exact ⟨ret_int1 (by rw [KN.out, List.take_length]), h1, hnx⟩

set_option maxRecDepth 100000 in
set_option maxHeartbeats 2000000 in
theorem heldRecordS_any (v : Value) (ps : List RP) (c : Int) (w : World) (h : RecsAt w v (mkL c ps) w.heap.size) (hn : tot ps ≤ 1048576) (hc : 0 ≤ c) (hc2 : c ≤ 10000000) :
    Calls Tryd.prog 23 #[v, .int .i64 c] w fun e w' => e = .returned (.int .i64 (mkE c ps)) ∧ w = w' := by
  obtain ⟨a, cap, rfl⟩ := h.shape
  rw [mkL_len] at *
  have H1 := hide h
  have hnl := tot_len ps
  clear h
  go_enter Tryd.func23, Tryd.ntmps23
  go_wp2
  go_loop [5, 1] (fun i r => ∃ k : Nat, k ≤ ps.length ∧ i = .int .i64 k ∧ r = .int .i64 (mkE c (ps.take k))) (fun i _ => ps.length - (intOf i).toNat)
  case atStart => exact ⟨0, by omega, rfl, rfl⟩
  case round =>
    obtain ⟨k, hk, rfl, rfl⟩ := hrel
    by_cases hlt : k < ps.length
    · obtain ⟨p, hp⟩ : ∃ p, ps[k]? = some p := ⟨ps[k], List.getElem?_eq_getElem hlt⟩
      have hki : (0 : Int) ≤ (k : Int) := by omega
      have hkj : (k : Int) < (ps.length : Int) := by omega
      have ht1 := tot_takeLe ps k
      have ht2 := mkE_tot c (ps.take k)
      have hpl := tot_mem (List.mem_of_getElem? hp)
      have hnext := mkE_step c hp
      have hat := mkL_at c hp
      obtain ⟨z, hz⟩ : ∃ z, z = mkE c (ps.take k) := ⟨_, rfl⟩
      rw [← hz] at ht2 hnext hat ⊢
      have hz0 : 0 ≤ z := by omega
      have hz2 : z ≤ 100000000 := by omega
      obtain ⟨b, off, cap', hve, hbb, s0, s1, s2, s3, s4, s5, s6, s7, hnr⟩ := H1.out.cells k (mkR z p) hat
      rw [mkL_len] at hve
      cases hve
      unfold mkR at s0 s1 s2 s3 s4 s5 s6 s7 hnr
      simp only [] at s0 s1 s2 s3 s4 s5 s6 s7 hnr
      obtain ⟨na, nc, hpn⟩ := hnr.shape
      rw [marks_len] at hpn
      rw [hpn] at s5 hnr
      have HH := hide (heldNearS_any _ p.1.near.length (z + 1 + 1 + 1 + 1 + 1) w hnr (by omega) (by omega) (by omega))
      have HNEXT := hide hnext
      have HZ := hide hz
      have hm0 : ¬ z + 1 + 1 + 1 + 1 + 1 + 2 * (p.1.near.length : Int) < 0 := by omega
      clear hp hnext hat hz hnr hpn ht1 ht2
      go_wp2_with fail
      refine HH.out.mono ?_
      rintro e w1 ⟨rfl, rfl⟩
      go_wp2
      go_round
      case rel => exact ⟨k + 1, by omega, by go_num, by rw [HNEXT.out]; rfl⟩
      case measure => simp [intOf]; omega
    · have hkn : k = ps.length := by omega
      have KN := hide hkn
      clear hkn
      go_wp2
      go_ret
      exact ⟨ret_int1 (by rw [KN.out, List.take_length]), rfl⟩
end Go.Proofs.YtfccainebmbbdaaDoor
namespace Go.Proofs.YtfccainebmbbdaaDoor
open Go.RowKit

theorem append_struct5 {α : Type} {enc : α → List Value} {sz bytes : Nat} (hlen : ∀ a, (enc a).length = sz) (hpos : 0 < sz) (hbb : bytes ≤ 100) {P : Program} (w : World) {ops : Array Oper} {rest : List Oper} {o : Oper} {a : Act} {Q : Exit → Act → World → Prop} (hgd : o.guard = none) (s x : Operand) (t : TypeId)
    (ho : o.op = .call { callee := .builtin .append, args := #[s, x], argTypes := #[t, t] }) (base : Nat) (e : TypeId) (ht : P.underlying t = some (.slice e)) (zv : Value) (hzv : zv.cells.size = sz)
    (hinfo : (P.info? e).map (fun i => (i.zero, i.size, i.bytes)) = some (some zv, sz, bytes))
    (v : Value) (l : List α) (y : α) (hone : ∀ u ∈ enc y, u.oneCell' = true) (hs : a.eval s = v) (hown : w.ownsRow base e sz v l.length (flat enc l))
    (ad : Addr) (c : Nat) (hx : a.eval x = .slice (some ad) 1 c) (hnews : ∀ j u, (enc y)[j]? = some u → w.cell? (ad.add j) = some u)
    (hl : l.length + 1 ≤ 1000000000) (hbase : base ≤ w.heap.size)
    (h : ∀ v' w', w'.ownsRow base e sz v' (l ++ [y]).length (flat enc (l ++ [y])) → w.grownBy w' v.ownBlock → wpList P ops Q rest (a.put o.dst v') w') : wpList P ops Q (o :: rest) a w := by
  obtain ⟨i0, hi, hz0, hz1, hz2⟩ := info_parts hinfo
  refine wpList_append_own w hgd s x t ho base e i0 zv sz bytes ht hi hz0 hz1 hz2 hzv hpos v l.length (flat enc l) hs hown ad 1 c (enc y) hx (by rw [hlen]; omega) hnews hone (by unfold maxLen; omega) ?_ hbase ?_
  · have : (l.length + 1) * bytes ≤ 1000000000 * 100 := Nat.mul_le_mul hl hbb
    omega
  · intro v' w' h1 h2 _
    have e1 : flat enc l ++ enc y = flat enc (l ++ [y]) := by rw [flat_append]; simp [flat]
    rw [e1] at h1
    exact h v' w' (by simpa using h1) h2

theorem encP_one (x : RecD) (a : Option Addr) (n c : Nat) : ∀ u ∈ encP (x, .slice a n c), u.oneCell' = true := by
  intro u hu
  simp only [encP, List.mem_cons, List.not_mem_nil, or_false] at hu
  rcases hu with rfl | rfl | rfl | rfl | rfl | rfl | rfl | rfl <;> rfl

theorem near_row_ne {W : World} {lo lo2 hi n size2 : Nat} {v : Value} {xs : List Value} {q : RP} (hq : NearOwn W lo hi q) (hr : W.ownsRow lo2 39 size2 v n xs) (j : Nat) (hj : q.2.ownBlock = some j) : some j ≠ v.ownBlock := by
  intro e
  rcases hr.2 with ⟨h0, _⟩ | ⟨g, cap, cur, hv, _, hh, _⟩
  · rw [h0] at e; simp [Value.ownBlock] at e
  · rw [hv] at e
    simp [Value.ownBlock] at e
    subst e
    exact own_type_ne2 hq.1 hh (by decide) hj.symm

/-- one more record, its row behind all that was there -/
theorem RecsOwn.push {W Wa W2 : World} {lo : Nat} {v v' : Value} {qs : List RP} {p : RP} (h : RecsOwn W lo W.heap.size v qs) (hb : Below W.heap.size W Wa) (hlo : lo ≤ W.heap.size) (hp : NearOwn Wa W.heap.size Wa.heap.size p)
    (row : W2.ownsRow lo 39 8 v' (qs.length + 1) (flat encP (qs ++ [p]))) (hg : Wa.grownBy W2 v.ownBlock) : RecsOwn W2 lo W2.heap.size v' (qs ++ [p]) where
  row := by simpa using row
  top := fun k hk => (row.lt k hk).2
  apart := apart_add h.apart h.nears (fun k hk => (hp.1.lt k hk).1)
  nears := by
    have rowa := owns_below h.row hb (Nat.le_refl _)
    have key : ∀ q, NearOwn Wa lo Wa.heap.size q → NearOwn W2 lo W2.heap.size q := fun q hq =>
      ⟨owns_keepB hq.1 (fun j hj => hg.block j (hq.2 j hj) (near_row_ne hq rowa j hj)), fun k hk => Nat.lt_of_lt_of_le (hq.2 k hk) hg.size⟩
    intro q hq
    rcases List.mem_append.1 hq with h1 | h1
    · exact key q (((h.nears q h1).keep (W' := Wa) (fun j _ h2 _ => hb.block j h2)).wide (Nat.le_refl _) hb.size)
    · have : q = p := by simpa using h1
      subst this
      exact key q (hp.wide hlo (Nat.le_refl _))

/-- one more record, its row behind hi -/
theorem RecsOwn.push2 {Wa W2 : World} {lo hi : Nat} {v v' : Value} {qs : List RP} {p : RP} (h : RecsOwn Wa lo hi v qs) (hhi : hi ≤ Wa.heap.size) (hlo : lo ≤ hi) (hp : NearOwn Wa hi Wa.heap.size p)
    (row : W2.ownsRow lo 39 8 v' (qs.length + 1) (flat encP (qs ++ [p]))) (hg : Wa.grownBy W2 v.ownBlock) : RecsOwn W2 lo W2.heap.size v' (qs ++ [p]) where
  row := by simpa using row
  top := fun k hk => (row.lt k hk).2
  apart := apart_add h.apart h.nears (fun k hk => (hp.1.lt k hk).1)
  nears := by
    have key : ∀ q, NearOwn Wa lo Wa.heap.size q → NearOwn W2 lo W2.heap.size q := fun q hq =>
      ⟨owns_keepB hq.1 (fun j hj => hg.block j (hq.2 j hj) (near_row_ne hq h.row j hj)), fun k hk => Nat.lt_of_lt_of_le (hq.2 k hk) hg.size⟩
    intro q hq
    rcases List.mem_append.1 hq with h1 | h1
    · exact key q ((h.nears q h1).wide (Nat.le_refl _) hhi)
    · have : q = p := by simpa using h1
      subst this
      exact key q (hp.wide hlo (Nat.le_refl _))

theorem RecsOwn.grownP {W W' : World} {lo hi p : Nat} {v : Value} {ps : List RP} (h : RecsOwn W lo hi v ps) (hg : W.grownBy W' (some p)) (hp : p < lo) : RecsOwn W' lo hi v ps := h.keep (fun k h1 _ h3 => hg.block k h3 (by simp; omega))

theorem recs_lit (W : World) (lo : Nat) (hb : lo ≤ W.heap.size) : RecsOwn (W.alloc (.cells #[] 39)) lo (W.alloc (.cells #[] 39)).heap.size (.slice (some ⟨W.heap.size, 0, none⟩) 0 0) [] where
  row := World.ownsRow_lit W #[] 0 hb (by unfold maxLen; omega) (by simp)
  top := by intro k hk; simp [Value.ownBlock] at hk; subst hk; simp
  nears := by simp
  apart := by simp

theorem filter_take {ps : List RP} {k : Nat} {p : RP} (f : RecD → Bool) (h : ps[k]? = some p) : (fsts (ps.take (k + 1))).filter f = (fsts (ps.take k)).filter f ++ (if f p.1 then [p.1] else []) := by
  have e : fsts (ps.take (k + 1)) = fsts (ps.take k) ++ [p.1] := map_take h
  rw [e, List.filter_append]
  congr 1
  by_cases hf : f p.1 <;> simp [hf]
end Go.Proofs.YtfccainebmbbdaaDoor
namespace Go.Proofs.YtfccainebmbbdaaDoor
open Go.RowKit

def sameKeyB (x y : RecD) : Bool := x.area == y.area && x.kind == y.kind && x.owner == y.owner && x.key == y.key

def sameBodyB (x y : RecD) : Bool := sameKeyB x y && x.cost == y.cost && x.far == y.far && decide (x.near = y.near)

set_option maxRecDepth 100000 in
set_option maxHeartbeats 4000000 in
theorem ssameKey_any (v1 v2 : Value) (x y : RecD) (w : World) : Calls Tryd.prog 64 #[.agg (recC x v1), .agg (recC y v2)] w fun e w' => e = .returned (.bool (sameKeyB x y)) ∧ Below w.heap.size w w' := by
  obtain ⟨a0, a1, a2, a3, a4, ns, a6, a7⟩ := x
  obtain ⟨b0, b1, b2, b3, b4, ms, b6, b7⟩ := y
  unfold recC
  simp only []
  go_enter Tryd.func64, Tryd.ntmps64
  go_wp2
  all_goals go_ret
  all_goals refine ⟨ret_bool ?_, below_two _ _⟩
  all_goals (simp only [sameKeyB]; grind)

theorem near_neq (w : World) (a b a' b' : Int) : (binOp .neq 55 (.agg #[.int .i64 a, .int .i64 b]) (.agg #[.int .i64 a', .int .i64 b'])).run Tryd.prog w = .ok (.bool (!decide ((⟨a, b⟩ : Nr) = ⟨a', b'⟩))) w := by
  go_simp
  by_cases h1 : a = a' <;> by_cases h2 : b = b' <;> simp [h1, h2]

set_option maxRecDepth 100000 in
set_option maxHeartbeats 4000000 in
theorem ssameBody_any (v1 v2 : Value) (x y : RecD) (w : World) (h1 : RecAt w v1 x w.heap.size) (h2 : RecAt w v2 y w.heap.size) (hl : x.near.length ≤ 1048576) (hm : y.near.length ≤ 9223372036854775807) :
    Calls Tryd.prog 50 #[v1, v2] w fun e w' => e = .returned (.bool (sameBodyB x y)) ∧ Below w.heap.size w w' := by
  obtain ⟨u1, rfl, k1⟩ := h1
  obtain ⟨u2, rfl, k2⟩ := h2
  obtain ⟨p1, c1, rfl⟩ := k1.shape
  obtain ⟨p2, c2, rfl⟩ := k2.shape
  have HSK := hide (ssameKey_any (.slice p1 x.near.length c1) (.slice p2 y.near.length c2) x y)
  obtain ⟨q, hq⟩ : ∃ q, q = sameKeyB x y := ⟨_, rfl⟩
  rw [← hq] at HSK
  have hB : sameBodyB x y = (q && x.cost == y.cost && x.far == y.far && decide (x.near = y.near)) := by rw [hq]; rfl
  rw [hB]
  clear hB hq
  obtain ⟨a0, a1, a2, a3, a4, ns, a6, a7⟩ := x
  obtain ⟨b0, b1, b2, b3, b4, ms, b6, b7⟩ := y
  unfold recC at HSK ⊢
  simp only [] at HSK k1 k2 hl hm ⊢
  have K1 := hide k1
  have K2 := hide k2
  clear k1 k2
  have hn0 := heap_alloc_new w (.cells #[.int .i64 a0, .int .i64 a1, .int .i64 a2, .int .i64 a3, .int .i64 a4, .slice p1 ns.length c1, .int .i64 a6, .bool a7] 39)
  go_enter Tryd.func50, Tryd.ntmps50
  go_wp2_with fail
  refine (HSK.out _).mono ?_
  rintro e w1 ⟨rfl, bb1⟩
  have bw1 : Below w.heap.size w w1 := (below_two _ _).trans (bb1.mono (by simp; omega))
  have hw0 : w1.heap[w.heap.size]? = some (.cells #[.int .i64 a0, .int .i64 a1, .int .i64 a2, .int .i64 a3, .int .i64 a4, .slice p1 ns.length c1, .int .i64 a6, .bool a7] 39) := by
    rw [bb1.block _ (by simp; omega), Below.heap_alloc _ _ _ (by simp), heap_alloc_new]
  have hw1 : w1.heap[w.heap.size + 1]? = some (.cells #[.int .i64 b0, .int .i64 b1, .int .i64 b2, .int .i64 b3, .int .i64 b4, .slice p2 ms.length c2, .int .i64 b6, .bool b7] 39) := by
    rw [bb1.block _ (by simp)]
    have := heap_alloc_new (w.alloc (.cells #[.int .i64 a0, .int .i64 a1, .int .i64 a2, .int .i64 a3, .int .i64 a4, .slice p1 ns.length c1, .int .i64 a6, .bool a7] 39)) (.cells #[.int .i64 b0, .int .i64 b1, .int .i64 b2, .int .i64 b3, .int .i64 b4, .slice p2 ms.length c2, .int .i64 b6, .bool b7] 39)
    simpa using this
  have s5 := cells_at hw0 5
  have s6 := cells_at hw0 6
  have s7 := cells_at hw0 7
  have t5 := cells_at hw1 5
  have t6 := cells_at hw1 6
  have t7 := cells_at hw1 7
  simp at s5 s6 s7 t5 t6 t7
  have HW0 := hide hw0
  have HW1 := hide hw1
  clear bb1 hw0 hw1 hn0
  cases q
  · go_wp2
    go_ret
    exact ⟨by simp, bw1⟩
  by_cases h6 : a6 = b6
  case neg =>
    have hd : (a6 != b6) = true := by simpa using h6
    have he : (a6 == b6) = false := by simpa using h6
    have HE := hide he
    clear he
    go_wp2
    go_ret
    exact ⟨ret_bool (by rw [HE.out]; simp), bw1⟩
  subst h6
  by_cases h7 : a7 = b7
  case neg =>
    have hd : (a7 != b7) = true := by simpa using h7
    have he : (a7 == b7) = false := by simpa using h7
    have HE := hide he
    clear he
    go_wp2
    go_ret
    exact ⟨ret_bool (by rw [HE.out]; simp), bw1⟩
  subst h7
  by_cases hln : ns.length = ms.length
  case neg =>
    have hd : ((ns.length : Int) != (ms.length : Int)) = true := by simp; omega
    have he : decide (ns = ms) = false := decide_eq_false (fun h => hln (by rw [h]))
    have HE := hide he
    clear he
    go_wp2
    go_ret
    exact ⟨ret_bool (by rw [HE.out]; simp), bw1⟩
  have HLN := hide hln
  have hln2 : (ms.length : Int) = (ns.length : Int) := by omega
  clear hln hm
  go_wp2
  clear hln2
  go_loopw [5] (fun i wr => ∃ k : Nat, k ≤ ns.length ∧ i = .int .i64 k ∧ (∀ j, j < k → ns[j]? = ms[j]?) ∧ Below w.heap.size w wr ∧ wr.heap[w.heap.size]? = some (.cells #[.int .i64 a0, .int .i64 a1, .int .i64 a2, .int .i64 a3, .int .i64 a4, .slice p1 ns.length c1, .int .i64 a6, .bool a7] 39) ∧ wr.heap[w.heap.size + 1]? = some (.cells #[.int .i64 b0, .int .i64 b1, .int .i64 b2, .int .i64 b3, .int .i64 b4, .slice p2 ms.length c2, .int .i64 a6, .bool a7] 39)) (fun i _ => ns.length - (intOf i).toNat)
  case atStart => exact ⟨0, by omega, rfl, by omega, bw1, HW0.out, HW1.out⟩
  case round =>
    clear s5 s6 s7 t5 t6 t7 HW0 HW1 bw1
    obtain ⟨k, hk, rfl, hall, hb, hx, hy⟩ := hrel
    have s5 := cells_at hx 5
    have t5 := cells_at hy 5
    simp at s5 t5
    have HX := hide hx
    have HY := hide hy
    have HALL := hide hall
    clear hx hy hall
    by_cases hlt : k < ns.length
    · obtain ⟨x, hx⟩ : ∃ l, ns[k]? = some l := ⟨ns[k], List.getElem?_eq_getElem hlt⟩
      obtain ⟨y, hy⟩ : ∃ l, ms[k]? = some l := ⟨ms[k]'(by have := HLN.out; omega), List.getElem?_eq_getElem _⟩
      obtain ⟨d1, o1, cp1, hv1, hd1, f0, f1⟩ := K1.out.cells k x hx
      obtain ⟨d2, o2, cp2, hv2, hd2, g0, g1⟩ := K2.out.cells k y hy
      cases hv1
      cases hv2
      rw [← hb.cell (p := ⟨d1, o1 + k * 2, none⟩) hd1] at f0
      rw [← hb.cell (p := ⟨d1, o1 + k * 2 + 1, none⟩) hd1] at f1
      rw [← hb.cell (p := ⟨d2, o2 + k * 2, none⟩) hd2] at g0
      rw [← hb.cell (p := ⟨d2, o2 + k * 2 + 1, none⟩) hd2] at g1
      have hki : (0 : Int) ≤ (k : Int) := by omega
      have hkj : (k : Int) < (ns.length : Int) := by omega
      have hkm : (k : Int) < (ms.length : Int) := by have := HLN.out; omega
      have e0 := fun W => near_neq W x.to x.c y.to y.c
      have HXX := hide hx
      have HYY := hide hy
      clear hx hy
      by_cases hxy : (⟨x.to, x.c⟩ : Nr) = ⟨y.to, y.c⟩
      · rw [decide_eq_true hxy] at e0
        have HXY := hide hxy
        clear hxy
        go_wp2
        go_quiet (fail)
        go_wp2
        go_roundw
        case rel => exact ⟨k + 1, by omega, by go_num, (fun j hj => by
          by_cases e : j = k
          · subst e; rw [HXX.out, HYY.out]; exact congrArg some HXY.out
          · exact HALL.out j (by omega)), ⟨hb.os, hb.tape, hb.output, hb.size, hb.block⟩, HX.out, HY.out⟩
        case measure => simp [intOf]; omega
      · rw [decide_eq_false hxy] at e0
        have he : decide (ns = ms) = false := decide_eq_false (fun h => hxy (by
          subst h
          have := HXX.out.symm.trans HYY.out
          exact Option.some.inj this))
        have HE := hide he
        clear hxy he
        go_wp2
        go_quiet (fail)
        go_wp2
        go_ret
        exact ⟨ret_bool (by rw [HE.out]; simp), ⟨hb.os, hb.tape, hb.output, hb.size, hb.block⟩⟩
    · have he : decide (ns = ms) = true := decide_eq_true (eq_all HLN.out (by have : k = ns.length := by omega
                                                                              rw [← this]; exact HALL.out))
      have HE := hide he
      clear he
      go_wp2
      go_ret
      exact ⟨ret_bool (by rw [HE.out]; simp), hb⟩
end Go.Proofs.YtfccainebmbbdaaDoor
namespace Go.Proofs.YtfccainebmbbdaaDoor
open Go.RowKit

def keyC (x : RecD) : Array Value := #[.int .i64 x.area, .int .i64 x.kind, .int .i64 x.owner, .int .i64 x.key]

set_option maxRecDepth 100000 in
set_option maxHeartbeats 400000 in
theorem keyOf_any (v1 : Value) (x : RecD) (w : World) : Calls Tryd.prog 88 #[.agg (recC x v1)] w fun e w' => e = .returned (.agg (keyC x)) ∧ Below w.heap.size w w' := by
  obtain ⟨a0, a1, a2, a3, a4, ns, a6, a7⟩ := x
  unfold recC keyC
  simp only []
  go_enter Tryd.func88, Tryd.ntmps88
  go_wp2
  go_returns
  exact ⟨rfl, below_two _ _⟩

theorem keyOf_raw (a0 a1 a2 a3 a4 : Int) (v : Value) (a6 : Int) (a7 : Bool) (w : World) : Calls Tryd.prog 88 #[.agg #[.int .i64 a0, .int .i64 a1, .int .i64 a2, .int .i64 a3, .int .i64 a4, v, .int .i64 a6, .bool a7]] w fun e w' => e = .returned (.agg #[.int .i64 a0, .int .i64 a1, .int .i64 a2, .int .i64 a3]) ∧ Below w.heap.size w w' :=
  keyOf_any v ⟨a0, a1, a2, a3, a4, [], a6, a7⟩ w

theorem Tryd.info3k : (Tryd.prog.info? 3).map (fun i => (i.zero, i.size, i.bytes)) = some (some (.int .i64 0), 1, 8) := by kernel_rfl

theorem key_eql (w : World) (a b c d a' b' c' d' : Int) : (binOp .eql 108 (.agg #[.int .i64 a, .int .i64 b, .int .i64 c, .int .i64 d]) (.agg #[.int .i64 a', .int .i64 b', .int .i64 c', .int .i64 d'])).run Tryd.prog w = .ok (.bool (a == a' && b == b' && c == c' && d == d')) w := by
  obtain ⟨i0, hi, _⟩ := info_parts Tryd.info3k
  have hu : Tryd.prog.underlying 108 = some (.array 4 3) := by kernel_rfl
  have u3 : Tryd.prog.underlying 3 = some (.int .i64) := by kernel_rfl
  have hc : Tryd.prog.cellsOf 3 = 1 := by kernel_rfl
  have hp : Tryd.prog.plainKey 3 = true := by kernel_rfl
  have pt : ∀ (xs : Array Value) (off : Nat) (u : Value), xs[off]? = some u → (Go.part 3 xs off).run Tryd.prog w = .ok u w := fun xs off u h => run_part_plain w hp h
  have eqi : ∀ (n : Nat) (x y : Int), (Op.equalIn (n + 1) 3 (.int .i64 x) (.int .i64 y)).run Tryd.prog w = .ok (x == y) w := fun n x y => run_equalIn_int w n 3 .i64 .i64 x y u3
  go_simp
  have e1 : (Op.equalIn 10000 108 (.agg #[.int .i64 a, .int .i64 b, .int .i64 c, .int .i64 d]) (.agg #[.int .i64 a', .int .i64 b', .int .i64 c', .int .i64 d'])).run Tryd.prog w = .ok (a == a' && b == b' && c == c' && d == d') w := by
    rw [run_equalIn_array w 9999 _ _ hu hi, hc]
    show (Op.eqItems 9999 3 1 _ _ [0, 1, 2, 3]).run Tryd.prog w = _
    simp only [Op.eqItems, Sem.run_bind]
    rw [pt _ _ (.int .i64 a) rfl]
    simp only [Result.andThen_ok]
    rw [pt _ _ (.int .i64 a') rfl]
    simp only [Result.andThen_ok]
    rw [eqi 9998 a a']
    simp only [Result.andThen_ok]
    cases a == a'
    · rfl
    simp only [Bool.not_true, Bool.false_eq_true, if_false, Sem.run_bind, Bool.true_and]
    rw [pt _ _ (.int .i64 b) rfl]
    simp only [Result.andThen_ok]
    rw [pt _ _ (.int .i64 b') rfl]
    simp only [Result.andThen_ok]
    rw [eqi 9998 b b']
    simp only [Result.andThen_ok]
    cases b == b'
    · rfl
    simp only [Bool.not_true, Bool.false_eq_true, if_false, Sem.run_bind, Bool.true_and]
    rw [pt _ _ (.int .i64 c) rfl]
    simp only [Result.andThen_ok]
    rw [pt _ _ (.int .i64 c') rfl]
    simp only [Result.andThen_ok]
    rw [eqi 9998 c c']
    simp only [Result.andThen_ok]
    cases c == c'
    · rfl
    simp only [Bool.not_true, Bool.false_eq_true, if_false, Sem.run_bind, Bool.true_and]
    rw [pt _ _ (.int .i64 d) rfl]
    simp only [Result.andThen_ok]
    rw [pt _ _ (.int .i64 d') rfl]
    simp only [Result.andThen_ok]
    rw [eqi 9998 d d']
    simp only [Result.andThen_ok]
    cases d == d'
    · rfl
    · rfl
  rw [e1]
  rfl

set_option maxRecDepth 100000 in
set_option maxHeartbeats 400000 in
theorem isameKey_any (v1 v2 : Value) (x y : RecD) (w : World) : Calls Tryd.prog 82 #[.agg (recC x v1), .agg (recC y v2)] w fun e w' => e = .returned (.bool (sameKeyB x y)) ∧ Below w.heap.size w w' := by
  have HK := hide keyOf_raw
  have e0 := fun W => key_eql W x.area x.kind x.owner x.key y.area y.kind y.owner y.key
  obtain ⟨q, hq⟩ : ∃ q, q = sameKeyB x y := ⟨_, rfl⟩
  rw [← hq]
  have hq2 : (x.area == y.area && x.kind == y.kind && x.owner == y.owner && x.key == y.key) = q := by rw [hq]; rfl
  rw [hq2] at e0
  clear hq hq2
  unfold recC at *
  go_enter Tryd.func82, Tryd.ntmps82
  go_wp2
  obtain ⟨w1, hw1⟩ : ∃ w1, w1 = (w.alloc (.cells #[.int .i64 x.area, .int .i64 x.kind, .int .i64 x.owner, .int .i64 x.key, .int .i64 x.seq, v1, .int .i64 x.cost, .bool x.far] 39)).alloc (.cells #[.int .i64 y.area, .int .i64 y.kind, .int .i64 y.owner, .int .i64 y.key, .int .i64 y.seq, v2, .int .i64 y.cost, .bool y.far] 39) := ⟨_, rfl⟩
  have B1 : Below w.heap.size w w1 := by rw [hw1]; exact below_two _ _
  have p0 : w1.heap[w.heap.size]? = some (.cells #[.int .i64 x.area, .int .i64 x.kind, .int .i64 x.owner, .int .i64 x.key, .int .i64 x.seq, v1, .int .i64 x.cost, .bool x.far] 39) := by rw [hw1, Below.heap_alloc _ _ _ (by simp), heap_alloc_new]
  have q0 : w1.heap[w.heap.size + 1]? = some (.cells #[.int .i64 y.area, .int .i64 y.kind, .int .i64 y.owner, .int .i64 y.key, .int .i64 y.seq, v2, .int .i64 y.cost, .bool y.far] 39) := by
    rw [hw1]
    have := heap_alloc_new (w.alloc (.cells #[.int .i64 x.area, .int .i64 x.kind, .int .i64 x.owner, .int .i64 x.key, .int .i64 x.seq, v1, .int .i64 x.cost, .bool x.far] 39)) (.cells #[.int .i64 y.area, .int .i64 y.kind, .int .i64 y.owner, .int .i64 y.key, .int .i64 y.seq, v2, .int .i64 y.cost, .bool y.far] 39)
    simpa using this
  rw [← hw1]
  clear hw1
  have s0 := cells_at p0 0
  have s1 := cells_at p0 1
  have s2 := cells_at p0 2
  have s3 := cells_at p0 3
  have s4 := cells_at p0 4
  have s5 := cells_at p0 5
  have s6 := cells_at p0 6
  have s7 := cells_at p0 7
  simp at s0 s1 s2 s3 s4 s5 s6 s7
  have t0 := cells_at q0 0
  have t1 := cells_at q0 1
  have t2 := cells_at q0 2
  have t3 := cells_at q0 3
  have t4 := cells_at q0 4
  have t5 := cells_at q0 5
  have t6 := cells_at q0 6
  have t7 := cells_at q0 7
  simp at t0 t1 t2 t3 t4 t5 t6 t7
  have hz0 := lt_of_heap p0
  have hz1 := lt_of_heap q0
  clear p0 q0
  have hz2 := B1.size
  go_region_held3 (fun W => W.cell? ⟨w.heap.size, 0, none⟩ = some (.int .i64 x.area) ∧ W.cell? ⟨w.heap.size, 1, none⟩ = some (.int .i64 x.kind) ∧ W.cell? ⟨w.heap.size, 2, none⟩ = some (.int .i64 x.owner) ∧ W.cell? ⟨w.heap.size, 3, none⟩ = some (.int .i64 x.key) ∧ W.cell? ⟨w.heap.size, 4, none⟩ = some (.int .i64 x.seq) ∧ W.cell? ⟨w.heap.size, 5, none⟩ = some (v1) ∧ W.cell? ⟨w.heap.size, 6, none⟩ = some (.int .i64 x.cost) ∧ W.cell? ⟨w.heap.size, 7, none⟩ = some (.bool x.far) ∧ W.cell? ⟨w.heap.size + 1, 0, none⟩ = some (.int .i64 y.area) ∧ W.cell? ⟨w.heap.size + 1, 1, none⟩ = some (.int .i64 y.kind) ∧ W.cell? ⟨w.heap.size + 1, 2, none⟩ = some (.int .i64 y.owner) ∧ W.cell? ⟨w.heap.size + 1, 3, none⟩ = some (.int .i64 y.key) ∧ W.cell? ⟨w.heap.size + 1, 4, none⟩ = some (.int .i64 y.seq) ∧ W.cell? ⟨w.heap.size + 1, 5, none⟩ = some (v2) ∧ W.cell? ⟨w.heap.size + 1, 6, none⟩ = some (.int .i64 y.cost) ∧ W.cell? ⟨w.heap.size + 1, 7, none⟩ = some (.bool y.far)) (first | go_keep | (refine ⟨?_, ?_, ?_, ?_, ?_, ?_, ?_, ?_, ?_, ?_, ?_, ?_, ?_, ?_, ?_, ?_⟩ <;> (rw [b3.cell (Nat.lt_of_lt_of_le (by assumption) b2.size), b2.cell (by assumption)]; assumption)) | (refine ⟨?_, ?_, ?_, ?_, ?_, ?_, ?_, ?_, ?_, ?_, ?_, ?_, ?_, ?_, ?_, ?_⟩ <;> (rw [b2.cell (by assumption)]; assumption))) (first | (go_at_call 88; have hb2 := b2; refine (HK.out _ _ _ _ _ _ _ _ _).mono ?_; rintro e w3 ⟨rfl, b3⟩) | (go_at_call 88; refine (HK.out _ _ _ _ _ _ _ _ _).mono ?_; rintro e w2 ⟨rfl, b2⟩))
  have B2 : Below w.heap.size w w2 := B1.drew.trans (b2.mono B1.size)
  have B3 : Below w.heap.size w w3 := B2.trans (b3.mono B2.size)
  go_wp2
  go_ret
  exact ⟨rfl, B3⟩
end Go.Proofs.YtfccainebmbbdaaDoor
namespace Go.Proofs.YtfccainebmbbdaaDoor
open Go.RowKit

set_option maxRecDepth 100000 in
set_option maxHeartbeats 2000000 in
theorem isIn_any (x a b : Int) (w : World) : Calls Tryd.prog 41 #[.int .i64 x, .int .i64 a, .int .i64 b] w fun e w' => e = .returned (.bool (inB x a b)) ∧ w = w' := by
  by_cases h1 : a ≤ x <;> by_cases h2 : x ≤ b
  all_goals
    go_enter Tryd.func41, Tryd.ntmps41
    go_wp2
    go_ret
    exact ⟨by simp [inB, h1, h2], rfl⟩

def cmpN (a b : Int) : Int := if a < b then -1 else if b < a then 1 else 0

theorem cmpN_zero {a b : Int} : cmpN a b = 0 ↔ a = b := by unfold cmpN; split <;> (try split) <;> omega

theorem cmpN_neg {a b : Int} : cmpN a b < 0 ↔ a < b := by unfold cmpN; split <;> (try split) <;> omega

theorem ret_i {a b : Int} (h : b = a) : Ending.returned (.int .i64 a) = .returned (.int .i64 b) := by rw [h]

set_option maxRecDepth 100000 in
set_option maxHeartbeats 1000000 in
theorem isNaN_any (a : Int) (w : World) : Calls Tryd.prog 80 #[.int .i64 a] w fun e w' => e = .returned (.bool false) ∧ w = w' := by
  go_enter Tryd.func80, Tryd.ntmps80
  go_wp2
  go_ret
  exact ⟨by simp, rfl⟩

set_option maxRecDepth 100000 in
set_option maxHeartbeats 1000000 in
theorem compare_any (a b : Int) (w : World) : Calls Tryd.prog 70 #[.int .i64 a, .int .i64 b] w fun e w' => e = .returned (.int .i64 (cmpN a b)) ∧ w = w' := by
  go_enter Tryd.func70, Tryd.ntmps70
  go_wp2_with fail
  refine (isNaN_any a _).mono ?_
  rintro e w1 ⟨rfl, rfl⟩
  go_wp2_with fail
  refine (isNaN_any b _).mono ?_
  rintro e w1 ⟨rfl, rfl⟩
  go_wp2
  all_goals go_ret
  all_goals refine ⟨ret_i ?_, rfl⟩
  all_goals (unfold cmpN; grind)
end Go.Proofs.YtfccainebmbbdaaDoor
namespace Go.Proofs.YtfccainebmbbdaaDoor
open Go.RowKit

def beforeB (x y : RecD) : Bool := decide (x.area < y.area) || (x.area == y.area && (decide (x.kind < y.kind) || (x.kind == y.kind && (decide (x.owner < y.owner) || (x.owner == y.owner && decide (x.key < y.key))))))

set_option maxRecDepth 100000 in
set_option maxHeartbeats 4000000 in
theorem sbefore_any (v1 v2 : Value) (x y : RecD) (w : World) : Calls Tryd.prog 63 #[.agg (recC x v1), .agg (recC y v2)] w fun e w' => e = .returned (.bool (beforeB x y)) ∧ Below w.heap.size w w' := by
  obtain ⟨a0, a1, a2, a3, a4, ns, a6, a7⟩ := x
  obtain ⟨b0, b1, b2, b3, b4, ms, b6, b7⟩ := y
  unfold recC
  simp only []
  go_enter Tryd.func63, Tryd.ntmps63
  go_wp2
  all_goals go_ret
  all_goals refine ⟨ret_bool ?_, below_two _ _⟩
  all_goals (simp only [beforeB]; grind)
end Go.Proofs.YtfccainebmbbdaaDoor
namespace Go.Proofs.YtfccainebmbbdaaDoor
open Go.RowKit

/-- a key of four numbers lies in block p -/
def KeyAt (W : World) (p : Nat) (a b c d : Int) : Prop := (W.cell? ⟨p, 0, none⟩ = some (.int .i64 a) ∧ W.cell? ⟨p, 1, none⟩ = some (.int .i64 b) ∧ W.cell? ⟨p, 2, none⟩ = some (.int .i64 c) ∧ W.cell? ⟨p, 3, none⟩ = some (.int .i64 d)) ∧ W.frozen? ⟨p, 0, none⟩ = false ∧ W.frozen? ⟨p, 1, none⟩ = false ∧ W.frozen? ⟨p, 2, none⟩ = false ∧ W.frozen? ⟨p, 3, none⟩ = false

theorem keyAt_new (X : World) : KeyAt (X.alloc (.cells #[.int .i64 0, .int .i64 0, .int .i64 0, .int .i64 0] 108)) X.heap.size 0 0 0 0 := by
  have h := heap_alloc_new X (.cells #[.int .i64 0, .int .i64 0, .int .i64 0, .int .i64 0] 108)
  exact ⟨⟨cells_at h 0, cells_at h 1, cells_at h 2, cells_at h 3⟩, frozen_at h 0, frozen_at h 1, frozen_at h 2, frozen_at h 3⟩

theorem KeyAt.lt {W : World} {p : Nat} {a b c d : Int} (h : KeyAt W p a b c d) : p < W.heap.size := World.block_lt_of_cell? W _ h.1.1

theorem KeyAt.below {W w2 : World} {p : Nat} {a b c d : Int} (h : KeyAt W p a b c d) (hb : Below W.heap.size W w2) : KeyAt w2 p a b c d := by
  have hp := h.lt
  obtain ⟨⟨h0, h1, h2, h3⟩, f0, f1, f2, f3⟩ := h
  refine ⟨⟨?_, ?_, ?_, ?_⟩, ?_, ?_, ?_, ?_⟩
  · rw [hb.cell (p := ⟨p, 0, none⟩) hp]; exact h0
  · rw [hb.cell (p := ⟨p, 1, none⟩) hp]; exact h1
  · rw [hb.cell (p := ⟨p, 2, none⟩) hp]; exact h2
  · rw [hb.cell (p := ⟨p, 3, none⟩) hp]; exact h3
  · rw [hb.frozen (p := ⟨p, 0, none⟩) hp]; exact f0
  · rw [hb.frozen (p := ⟨p, 1, none⟩) hp]; exact f1
  · rw [hb.frozen (p := ⟨p, 2, none⟩) hp]; exact f2
  · rw [hb.frozen (p := ⟨p, 3, none⟩) hp]; exact f3

theorem KeyAt.alloc {W : World} {p : Nat} {a b c d : Int} (h : KeyAt W p a b c d) (o : Obj) : KeyAt (W.alloc o) p a b c d := h.below ((Below.refl _ _).alloc (Nat.le_refl _) _)

def putKey (W : World) (p : Nat) (a b c d : Int) : World := (((W.setCell ⟨p, 0, none⟩ (.int .i64 a)).setCell ⟨p, 1, none⟩ (.int .i64 b)).setCell ⟨p, 2, none⟩ (.int .i64 c)).setCell ⟨p, 3, none⟩ (.int .i64 d)

theorem below_put {B p : Nat} {w W : World} (g : Below B w W) (hp : B ≤ p) (a b c d : Int) : Below B w (putKey W p a b c d) := by
  unfold putKey
  repeat (refine Below.setCell ?_ (by show B ≤ p; exact hp) _)
  exact g

theorem keyAt_put_ne {W : World} {p q : Nat} {k l m n : Int} (h : KeyAt W q k l m n) (hpq : p ≠ q) (a b c d : Int) : KeyAt (putKey W p a b c d) q k l m n := by
  have e : (putKey W p a b c d).heap[q]? = W.heap[q]? := by
    unfold putKey
    rw [heap_setCell_other _ ⟨p, 3, none⟩ _ _ (by show q ≠ p; omega), heap_setCell_other _ ⟨p, 2, none⟩ _ _ (by show q ≠ p; omega), heap_setCell_other _ ⟨p, 1, none⟩ _ _ (by show q ≠ p; omega), heap_setCell_other _ ⟨p, 0, none⟩ _ _ (by show q ≠ p; omega)]
  obtain ⟨⟨h0, h1, h2, h3⟩, f0, f1, f2, f3⟩ := h
  refine ⟨⟨?_, ?_, ?_, ?_⟩, ?_, ?_, ?_, ?_⟩
  · exact (World.cell?_of_block (w := W) (a := ⟨q, 0, none⟩) e).trans h0
  · exact (World.cell?_of_block (w := W) (a := ⟨q, 1, none⟩) e).trans h1
  · exact (World.cell?_of_block (w := W) (a := ⟨q, 2, none⟩) e).trans h2
  · exact (World.cell?_of_block (w := W) (a := ⟨q, 3, none⟩) e).trans h3
  · exact (World.frozen?_of_block (w := W) (a := ⟨q, 0, none⟩) e).trans f0
  · exact (World.frozen?_of_block (w := W) (a := ⟨q, 1, none⟩) e).trans f1
  · exact (World.frozen?_of_block (w := W) (a := ⟨q, 2, none⟩) e).trans f2
  · exact (World.frozen?_of_block (w := W) (a := ⟨q, 3, none⟩) e).trans f3

theorem keyAt_put {W : World} {p : Nat} {k l m n : Int} (h : KeyAt W p k l m n) (a b c d : Int) : KeyAt (putKey W p a b c d) p a b c d := by
  obtain ⟨⟨h0, h1, h2, h3⟩, f0, f1, f2, f3⟩ := h
  unfold putKey
  refine ⟨⟨?_, ?_, ?_, ?_⟩, ?_, ?_, ?_, ?_⟩ <;> go_simp

theorem KeyAt.same {W W' : World} {p : Nat} {a b c d : Int} (h : KeyAt W p a b c d) (e : W.heap = W'.heap) : KeyAt W' p a b c d := by
  unfold KeyAt World.cell? World.frozen? at *
  rw [← e]
  exact h
end Go.Proofs.YtfccainebmbbdaaDoor
namespace Go.Proofs.YtfccainebmbbdaaDoor
open Go.RowKit

set_option linter.unusedSimpArgs false

/-- the first that is not 0 -/
def cmpK (a b c d : Int) : Int := if a = 0 then (if b = 0 then (if c = 0 then d else c) else b) else a

theorem cmpK_neg (x y : RecD) : decide (cmpK (cmpN x.area y.area) (cmpN x.kind y.kind) (cmpN x.owner y.owner) (cmpN x.key y.key) < 0) = beforeB x y := by
  unfold cmpK beforeB
  by_cases h1 : x.area = y.area
  · rw [if_pos (cmpN_zero.2 h1)]
    by_cases h2 : x.kind = y.kind
    · rw [if_pos (cmpN_zero.2 h2)]
      by_cases h3 : x.owner = y.owner
      · rw [if_pos (cmpN_zero.2 h3)]
        simp [cmpN_neg, h1, h2, h3]
      · rw [if_neg (fun h => h3 (cmpN_zero.1 h))]
        simp [cmpN_neg, h1, h2, h3]
    · rw [if_neg (fun h => h2 (cmpN_zero.1 h))]
      simp [cmpN_neg, h1, h2]
  · rw [if_neg (fun h => h1 (cmpN_zero.1 h))]
    simp [cmpN_neg, h1]

set_option maxRecDepth 100000 in
set_option maxHeartbeats 1000000 in
theorem scompare_any (p q : Nat) (a b c d a' b' c' d' : Int) (w : World) (h : KeyAt w p a b c d) (h' : KeyAt w q a' b' c' d') :
    Calls Tryd.prog 93 #[.slice (some ⟨p, 0, none⟩) 4 4, .slice (some ⟨q, 0, none⟩) 4 4] w fun e w' => e = .returned (.int .i64 (cmpK (cmpN a a') (cmpN b b') (cmpN c c') (cmpN d d'))) ∧ w = w' := by
  obtain ⟨⟨h0, h1, h2, h3⟩, _⟩ := h
  obtain ⟨⟨g0, g1, g2, g3⟩, _⟩ := h'
  have C0 := hide (compare_any a a')
  have C1 := hide (compare_any b b')
  have C2 := hide (compare_any c c')
  have C3 := hide (compare_any d d')
  generalize cmpN a a' = k0 at C0 ⊢
  generalize cmpN b b' = k1 at C1 ⊢
  generalize cmpN c c' = k2 at C2 ⊢
  generalize cmpN d d' = k3 at C3 ⊢
  go_enter Tryd.func93, Tryd.ntmps93
  go_wp2
  refine wp_loop_rounds 5 ?_
  rw [rounds_succ]
  go_wp2_with fail
  refine (C0.out _).mono ?_
  rintro e w1 ⟨rfl, rfl⟩
  by_cases z0 : k0 = 0
  case neg =>
    have hd : (k0 != 0) = true := by simpa using z0
    have E0 := hide (show cmpK k0 k1 k2 k3 = k0 by unfold cmpK; rw [if_neg z0])
    clear z0
    go_wp2
    go_ret
    exact ⟨ret_i E0.out, rfl⟩
  subst z0
  go_wp2
  rw [rounds_succ]
  go_wp2_with fail
  refine (C1.out _).mono ?_
  rintro e w1 ⟨rfl, rfl⟩
  by_cases z1 : k1 = 0
  case neg =>
    have hd : (k1 != 0) = true := by simpa using z1
    have E0 := hide (show cmpK 0 k1 k2 k3 = k1 by unfold cmpK; rw [if_pos rfl, if_neg z1])
    clear z1
    go_wp2
    go_ret
    exact ⟨ret_i E0.out, rfl⟩
  subst z1
  go_wp2
  rw [rounds_succ]
  go_wp2_with fail
  refine (C2.out _).mono ?_
  rintro e w1 ⟨rfl, rfl⟩
  by_cases z2 : k2 = 0
  case neg =>
    have hd : (k2 != 0) = true := by simpa using z2
    have E0 := hide (show cmpK 0 0 k2 k3 = k2 by unfold cmpK; rw [if_pos rfl, if_pos rfl, if_neg z2])
    clear z2
    go_wp2
    go_ret
    exact ⟨ret_i E0.out, rfl⟩
  subst z2
  go_wp2
  rw [rounds_succ]
  go_wp2_with fail
  refine (C3.out _).mono ?_
  rintro e w1 ⟨rfl, rfl⟩
  by_cases z3 : k3 = 0
  case neg =>
    have hd : (k3 != 0) = true := by simpa using z3
    have E0 := hide (show cmpK 0 0 0 k3 = k3 by unfold cmpK; rfl)
    clear z3
    go_wp2
    go_ret
    exact ⟨ret_i E0.out, rfl⟩
  subst z3
  go_wp2
  rw [rounds_succ]
  go_wp2
  go_ret
  exact ⟨ret_i rfl, rfl⟩

set_option maxRecDepth 100000 in
set_option maxHeartbeats 1000000 in
theorem orderKeys_any (a b c d a' b' c' d' : Int) (w : World) : Calls Tryd.prog 90 #[.agg #[.int .i64 a, .int .i64 b, .int .i64 c, .int .i64 d], .agg #[.int .i64 a', .int .i64 b', .int .i64 c', .int .i64 d']] w fun e w' => e = .returned (.int .i64 (cmpK (cmpN a a') (cmpN b b') (cmpN c c') (cmpN d d'))) ∧ Below w.heap.size w w' := by
  obtain ⟨r, hr⟩ : ∃ r, r = cmpK (cmpN a a') (cmpN b b') (cmpN c c') (cmpN d d') := ⟨_, rfl⟩
  obtain ⟨w1, hw1⟩ : ∃ w1, w1 = (w.alloc (.cells #[.int .i64 a, .int .i64 b, .int .i64 c, .int .i64 d] 108)).alloc (.cells #[.int .i64 a', .int .i64 b', .int .i64 c', .int .i64 d'] 108) := ⟨_, rfl⟩
  have B1 : Below w.heap.size w w1 := by rw [hw1]; exact below_two _ _
  have p0 : w1.heap[w.heap.size]? = some (.cells #[.int .i64 a, .int .i64 b, .int .i64 c, .int .i64 d] 108) := by rw [hw1, Below.heap_alloc _ _ _ (by simp), heap_alloc_new]
  have q0 : w1.heap[w.heap.size + 1]? = some (.cells #[.int .i64 a', .int .i64 b', .int .i64 c', .int .i64 d'] 108) := by
    rw [hw1]
    have := heap_alloc_new (w.alloc (.cells #[.int .i64 a, .int .i64 b, .int .i64 c, .int .i64 d] 108)) (.cells #[.int .i64 a', .int .i64 b', .int .i64 c', .int .i64 d'] 108)
    simpa using this
  have kp : KeyAt w1 w.heap.size a b c d := ⟨⟨cells_at p0 0, cells_at p0 1, cells_at p0 2, cells_at p0 3⟩, frozen_at p0 0, frozen_at p0 1, frozen_at p0 2, frozen_at p0 3⟩
  have kq : KeyAt w1 (w.heap.size + 1) a' b' c' d' := ⟨⟨cells_at q0 0, cells_at q0 1, cells_at q0 2, cells_at q0 3⟩, frozen_at q0 0, frozen_at q0 1, frozen_at q0 2, frozen_at q0 3⟩
  have HC := hide (fun W' (h : w1.heap = W'.heap) => scompare_any w.heap.size (w.heap.size + 1) a b c d a' b' c' d' W' (kp.same h) (kq.same h))
  rw [← hr] at HC ⊢
  clear kp kq p0 q0 hr
  go_enter Tryd.func90, Tryd.ntmps90
  go_wp2
  rw [← hw1]
  clear hw1
  go_region_held3 (fun W' => w1.heap = W'.heap) (first | rfl | assumption | go_keep) (first | (go_at_call 93; refine (HC.out _ ?_).mono ?_; (first | rfl | assumption); rintro e w3 ⟨rfl, rfl⟩))
  go_wp2
  go_ret
  exact ⟨rfl, B1.drew⟩

end Go.Proofs.YtfccainebmbbdaaDoor
