/-
  laws.markRecordS, heldRecordS: only the list's own memory turns; what was marked is held.
  A list of records to which one more is put.
  What slices.Insert needs: copy of a row of structs, append at two types, the lists of cells.
  slices.Insert at lists of records, one record put in: its three roads.
  spec.SameKey, spec.SameBody: their contracts.
-/
import Derived.Test.YtohjphhocdgpgaaSto2
import Derived.Shelf.Spec.SlicesInsertGrow
import Derived.Test.YtohjphhocdgpgaaSto1
import Derived.Laws.StructEq
namespace Go.Proofs.Ytohjphhocdgpgaa
open Go.RowKit

/-- the numbers of a record that is marked from c on -/
def mkR (c : Int) (p : RP) : RP := (⟨c, c + 1, c + 1 + 1, c + 1 + 1 + 1, c + 1 + 1 + 1 + 1, marks (c + 1 + 1 + 1 + 1 + 1) p.1.near.length, c + 1 + 1 + 1 + 1 + 1 + 2 * (p.1.near.length : Int), (c + 1 + 1 + 1 + 1 + 1 + 2 * (p.1.near.length : Int) + 1) % 3 == 0⟩, p.2)

def nxR (c : Int) (p : RP) : Int := c + 1 + 1 + 1 + 1 + 1 + 2 * (p.1.near.length : Int) + 1 + 1

def mkL : Int → List RP → List RP
  | _, [] => []
  | c, p :: ps => mkR c p :: mkL (nxR c p) ps

def mkE : Int → List RP → Int
  | c, [] => c
  | c, p :: ps => mkE (nxR c p) ps

theorem mkL_len (c : Int) (ps : List RP) : (mkL c ps).length = ps.length := by
  induction ps generalizing c with
  | nil => rfl
  | cons p ps ih => simp [mkL, ih]

theorem mkE_append (c : Int) (a b : List RP) : mkE c (a ++ b) = mkE (mkE c a) b := by
  induction a generalizing c with
  | nil => rfl
  | cons p a ih => exact ih _

theorem mkL_append (c : Int) (a b : List RP) : mkL c (a ++ b) = mkL c a ++ mkL (mkE c a) b := by
  induction a generalizing c with
  | nil => rfl
  | cons p a ih => simp only [List.cons_append, mkL, mkE, ih]

theorem mkE_step {ps : List RP} {k : Nat} {p : RP} (c : Int) (h : ps[k]? = some p) : mkE c (ps.take (k + 1)) = nxR (mkE c (ps.take k)) p := by
  obtain ⟨hk, e⟩ := List.getElem?_eq_some_iff.1 h
  rw [List.take_succ_eq_append_getElem hk, mkE_append, e]
  rfl

theorem mkL_step {ps : List RP} {k : Nat} {p : RP} (c : Int) (h : ps[k]? = some p) : mkL c (ps.take (k + 1)) = mkL c (ps.take k) ++ [mkR (mkE c (ps.take k)) p] := by
  obtain ⟨hk, e⟩ := List.getElem?_eq_some_iff.1 h
  rw [List.take_succ_eq_append_getElem hk, mkL_append, e]
  rfl

theorem mkE_tot (c : Int) (ps : List RP) : c + 2 * (tot ps : Int) ≤ mkE c ps ∧ mkE c ps ≤ c + 7 * (tot ps : Int) := by
  induction ps generalizing c with
  | nil => simp [mkE, tot]
  | cons p ps ih =>
    have h := ih (nxR c p)
    rw [tot_cons]
    simp only [mkE]
    unfold nxR at h ⊢
    omega

theorem tot_takeLe (ps : List RP) (k : Nat) : tot (ps.take k) ≤ tot ps := by
  have h := tot_append (ps.take k) (ps.drop k)
  rw [List.take_append_drop] at h
  omega

theorem mkL_at {ps : List RP} {k : Nat} {p : RP} (c : Int) (h : ps[k]? = some p) : (mkL c ps)[k]? = some (mkR (mkE c (ps.take k)) p) := by
  obtain ⟨hk, e⟩ := List.getElem?_eq_some_iff.1 h
  have e2 : ps = ps.take k ++ (p :: ps.drop (k + 1)) := by
    rw [← e]
    simp
  have e3 : mkL c ps = mkL c (ps.take k) ++ (mkR (mkE c (ps.take k)) p :: mkL (nxR (mkE c (ps.take k)) p) (ps.drop (k + 1))) := by
    conv => lhs; rw [e2]
    rw [mkL_append]
    rfl
  rw [e3, List.getElem?_append_right (by rw [mkL_len, List.length_take]; omega), mkL_len, List.length_take, Nat.min_eq_left (by omega), Nat.sub_self]
  rfl

theorem apart_snd (ps : List RP) : ps.Pairwise Apart ↔ (ps.map (·.2)).Pairwise (fun a b : Value => ∀ k, a.ownBlock = some k → b.ownBlock ≠ some k) := by
  rw [List.pairwise_map]
  exact Iff.rfl

theorem apart_at {ps : List RP} (h : ps.Pairwise Apart) {i k : Nat} {p q : RP} (hi : ps[i]? = some p) (hk : ps[k]? = some q) (hne : i ≠ k) : Apart p q := by
  obtain ⟨h1, e1⟩ := List.getElem?_eq_some_iff.1 hi
  obtain ⟨h2, e2⟩ := List.getElem?_eq_some_iff.1 hk
  rw [List.pairwise_iff_getElem] at h
  rcases Nat.lt_or_ge i k with hl | hl
  · have := h i k h1 h2 hl
    rw [e1, e2] at this
    exact this
  · have := h k i h2 h1 (by omega)
    rw [e1, e2] at this
    exact fun j hj he => this j he hj

theorem set_snd {ps : List RP} {k : Nat} {p q : RP} (hk : ps[k]? = some p) (h : q.2 = p.2) : (ps.set k q).map (·.2) = ps.map (·.2) := by
  apply List.ext_getElem?
  intro i
  by_cases e : i = k
  · subst e
    obtain ⟨h1, e1⟩ := List.getElem?_eq_some_iff.1 hk
    rw [List.getElem?_map, List.getElem?_set_self h1, List.getElem?_map, hk]
    simp [h]
  · simp [List.getElem?_set_ne (Ne.symm e)]

/-- one record turned within its list -/
theorem RecsOwn.turn {W W8 : World} {lo hi g n cap k : Nat} {xs : List RP} {p q : RP} (h : RecsOwn W lo hi (.slice (some ⟨g, 0, none⟩) n cap) xs) (hn : xs.length = n) (hk : xs[k]? = some p) (hq : q.2 = p.2)
    (row : W8.ownsRow lo 26 8 (.slice (some ⟨g, 0, none⟩) n cap) n (flat encP (xs.set k q))) (near : W8.ownsRow lo 67 2 q.2 q.1.near.length (flat nrE q.1.near))
    (hkeep : ∀ j, j < W.heap.size → j ≠ g → some j ≠ p.2.ownBlock → W8.heap[j]? = W.heap[j]?) : RecsOwn W8 lo hi (.slice (some ⟨g, 0, none⟩) n cap) (xs.set k q) where
  row := by rw [List.length_set, hn]; exact row
  top := h.top
  apart := by rw [apart_snd, set_snd hk hq, ← apart_snd]; exact h.apart
  nears := by
    intro r hr
    obtain ⟨i, hi, e⟩ := List.getElem_of_mem hr
    have hr2 : (xs.set k q)[i]? = some r := by rw [← e]; exact List.getElem?_eq_getElem hi
    by_cases ek : i = k
    · subst ek
      rw [List.getElem?_set_self (by simpa using hi)] at hr2
      cases hr2
      refine ⟨near, ?_⟩
      rw [hq]
      exact (h.nears p (List.mem_of_getElem? hk)).2
    · rw [List.getElem?_set_ne (Ne.symm ek)] at hr2
      have ho := h.nears r (List.mem_of_getElem? hr2)
      refine ⟨owns_keepB ho.1 (fun j hj => ?_), ho.2⟩
      refine hkeep j (ho.1.lt j hj).2 ?_ ?_
      · rintro rfl
        obtain ⟨cur, hh⟩ : ∃ cur, W.heap[j]? = some (.cells cur 26 (0, 0)) := by
          rcases h.row.2 with ⟨h0, _⟩ | ⟨g', cap', cur', hv', _, hh', _⟩
          · cases h0
          · cases hv'; exact ⟨cur', hh'⟩
        rcases ho.1.2 with ⟨h0, _⟩ | ⟨g', cap', cur', hv', _, hh', _⟩
        · rw [h0] at hj; simp [Value.ownBlock] at hj
        · rw [hv'] at hj
          simp [Value.ownBlock] at hj
          subst hj
          rw [hh] at hh'
          simp at hh'
      · intro he
        exact apart_at h.apart hr2 hk ek j hj he.symm

theorem set7 {xs : List RP} {k : Nat} {p q : RP} (hk : xs[k]? = some p) (hq : q.2 = p.2) :
    ((((((((flat encP xs).set (k * 8) (.int .i64 q.1.area)).set (k * 8 + 1) (.int .i64 q.1.kind)).set (k * 8 + 2) (.int .i64 q.1.owner)).set (k * 8 + 3) (.int .i64 q.1.key)).set (k * 8 + 4) (.int .i64 q.1.seq)).set (k * 8 + 6) (.int .i64 q.1.cost)).set (k * 8 + 7) (.bool q.1.far)) = flat encP (xs.set k q) := by
  obtain ⟨hlt, _⟩ := List.getElem?_eq_some_iff.1 hk
  have e : (((((((((flat encP xs).set (k * 8) (.int .i64 q.1.area)).set (k * 8 + 1) (.int .i64 q.1.kind)).set (k * 8 + 2) (.int .i64 q.1.owner)).set (k * 8 + 3) (.int .i64 q.1.key)).set (k * 8 + 4) (.int .i64 q.1.seq)).set (k * 8 + 5) q.2).set (k * 8 + 6) (.int .i64 q.1.cost)).set (k * 8 + 7) (.bool q.1.far)) = flat encP (xs.set k q) := flat_set encP_len xs k q hlt
  rw [← e]
  congr 2
  have h5 : ((((((flat encP xs).set (k * 8) (.int .i64 q.1.area)).set (k * 8 + 1) (.int .i64 q.1.kind)).set (k * 8 + 2) (.int .i64 q.1.owner)).set (k * 8 + 3) (.int .i64 q.1.key)).set (k * 8 + 4) (.int .i64 q.1.seq))[k * 8 + 5]? = some q.2 := by
    rw [List.getElem?_set_ne (by omega), List.getElem?_set_ne (by omega), List.getElem?_set_ne (by omega), List.getElem?_set_ne (by omega), List.getElem?_set_ne (by omega), flat_get encP_len xs k 5 p hk (by omega), hq]
    rfl
  obtain ⟨h6, e6⟩ := List.getElem?_eq_some_iff.1 h5
  rw [← e6]
  exact (List.set_getElem_self h6).symm

theorem own_type_ne2 {W : World} {base size n z : Nat} {e t : TypeId} {v : Value} {xs : List Value} {C : Array Value} {fr : Nat × Nat} (ho : W.ownsRow base e size v n xs) (h : W.heap[z]? = some (.cells C t fr)) (hne : e ≠ t) : some z ≠ v.ownBlock := by
  intro eq
  rcases ho.2 with ⟨h1, _⟩ | ⟨g', cap', cur', hv', _, hh', _⟩
  · rw [h1] at eq; simp [Value.ownBlock] at eq
  · rw [hv'] at eq
    simp [Value.ownBlock] at eq
    subst eq
    rw [h] at hh'
    simp at hh'
    exact hne hh'.2.1.symm

abbrev set5 (W : World) (g o : Nat) (z : Int) : World := ((((W.setCell ⟨g, o, none⟩ (.int .i64 z)).setCell ⟨g, o + 1, none⟩ (.int .i64 (z + 1))).setCell ⟨g, o + 2, none⟩ (.int .i64 (z + 1 + 1))).setCell ⟨g, o + 3, none⟩ (.int .i64 (z + 1 + 1 + 1))).setCell ⟨g, o + 4, none⟩ (.int .i64 (z + 1 + 1 + 1 + 1))

theorem set5_grown (W : World) (g o : Nat) (z : Int) : W.grownBy (set5 W g o z) (some g) :=
  grown_trans (grown_trans (grown_trans (grown_trans (grown_set W g _ _) (grown_set _ g _ _)) (grown_set _ g _ _)) (grown_set _ g _ _)) (grown_set _ g _ _)

set_option maxRecDepth 100000 in
set_option maxHeartbeats 2000000 in
theorem markRecordS_any (v : Value) (lo hi : Nat) (ps : List RP) (c : Int) (w : World) (h : RecsOwn w lo hi v ps) (hn : tot ps ≤ 1048576) (hc : 0 ≤ c) (hc2 : c ≤ 10000000) :
    Calls Try.prog 46 #[v, .int .i64 c] w fun e w' => e = .returned (.int .i64 (mkE c ps)) ∧ RecsOwn w' lo hi v (mkL c ps) ∧ Frame lo hi w w' := by
  have hnl := tot_len ps
  by_cases h0 : ps.length = 0
  · have hps : ps = [] := List.length_eq_zero_iff.1 h0
    subst hps
    obtain ⟨a1, c1, rfl⟩ := owns_lenS h.row
    have H1 := hide h
    clear h
    go_enter Try.func46, Try.ntmps46
    go_wp2
    refine wp_loop_rounds 1 ?_
    rw [rounds_succ]
    go_wp2
    go_ret
    exact ⟨rfl, H1.out, Frame.refl _ _ _⟩
  · obtain ⟨g, cap, rfl, hg1, hl1⟩ := owns_shapeS h.row (by omega)
    have H1 := hide h
    have HG := hide (h.top g rfl)
    clear h h0
    go_enter Try.func46, Try.ntmps46
    go_wp2
    go_loopw [5, 1] (fun i r wr => ∃ (k : Nat), k ≤ ps.length ∧ i = .int .i64 k ∧ r = .int .i64 (mkE c (ps.take k)) ∧ RecsOwn wr lo hi (.slice (some ⟨g, 0, none⟩) ps.length cap) (mkL c (ps.take k) ++ ps.drop k) ∧ Frame lo hi w wr) (fun i _ _ => ps.length - (intOf i).toNat)
    case atStart => exact ⟨0, by omega, rfl, rfl, H1.out, Frame.refl _ _ _⟩
    case round =>
      clear H1
      obtain ⟨k, hk, rfl, rfl, hown, hnx⟩ := hrel
      by_cases hlt : k < ps.length
      · obtain ⟨p, hp⟩ : ∃ p, ps[k]? = some p := ⟨ps[k], List.getElem?_eq_getElem hlt⟩
        have hki : (0 : Int) ≤ (k : Int) := by omega
        have hkj : (k : Int) < (ps.length : Int) := by omega
        have ht1 := tot_takeLe ps k
        have ht2 := mkE_tot c (ps.take k)
        have hpl := tot_mem (List.mem_of_getElem? hp)
        obtain ⟨z, hz⟩ : ∃ z, z = mkE c (ps.take k) := ⟨_, rfl⟩
        rw [← hz] at ht2 ⊢
        have hz0 : 0 ≤ z := by omega
        have hz2 : z ≤ 100000000 := by omega
        obtain ⟨xs, hxs⟩ : ∃ xs, xs = mkL c (ps.take k) ++ ps.drop k := ⟨_, rfl⟩
        rw [← hxs] at hown
        have hxl : xs.length = ps.length := by rw [hxs]; simp [mkL_len]; omega
        have hxk : xs[k]? = some p := by
          rw [hxs, List.getElem?_append_right (by rw [mkL_len, List.length_take]; omega), mkL_len, List.length_take, Nat.min_eq_left (by omega), Nat.sub_self, List.getElem?_drop, Nat.add_zero]
          exact hp
        have hstep : xs.set k (mkR z p) = mkL c (ps.take (k + 1)) ++ ps.drop (k + 1) := by
          have ed : ps.drop k = p :: ps.drop (k + 1) := by
            obtain ⟨h1, e1⟩ := List.getElem?_eq_some_iff.1 hp
            rw [List.drop_eq_getElem_cons h1, e1]
          rw [hxs, mkL_step c hp, ← hz, List.set_append_right _ _ (by rw [mkL_len, List.length_take]; omega), mkL_len, List.length_take, Nat.min_eq_left (by omega), Nat.sub_self, ed, List.set_cons_zero]
          simp
        have hnext : mkE c (ps.take (k + 1)) = nxR z p := by rw [mkE_step c hp, hz]
        have hrow := hown.row
        rw [hxl] at hrow
        have hex : ∀ r, r < 8 → ∃ u, wr.cell? ⟨g, k * 8 + r, none⟩ = some u := fun r hr => own_cell hrow _ (by omega)
        obtain ⟨u0, d0⟩ := hex 0 (by omega)
        obtain ⟨u1, d1⟩ := hex 1 (by omega)
        obtain ⟨u2, d2⟩ := hex 2 (by omega)
        obtain ⟨u3, d3⟩ := hex 3 (by omega)
        obtain ⟨u4, d4⟩ := hex 4 (by omega)
        obtain ⟨u6, d6⟩ := hex 6 (by omega)
        obtain ⟨u7, d7⟩ := hex 7 (by omega)
        rw [Nat.add_zero] at d0
        have d5 : wr.cell? ⟨g, k * 8 + 5, none⟩ = some p.2 := by
          rw [hrow.cellAt _ (by omega), flat_get encP_len xs k 5 p hxk (by omega)]
          rfl
        have f0 := hrow.frozenAt (k * 8)
        have f1 := hrow.frozenAt (k * 8 + 1)
        have f2 := hrow.frozenAt (k * 8 + 2)
        have f3 := hrow.frozenAt (k * 8 + 3)
        have f4 := hrow.frozenAt (k * 8 + 4)
        have f5 := hrow.frozenAt (k * 8 + 5)
        have f6 := hrow.frozenAt (k * 8 + 6)
        have f7 := hrow.frozenAt (k * 8 + 7)
        have hnear := (hown.nears p (List.mem_of_getElem? hxk)).1
        obtain ⟨na, nc, hpn⟩ := owns_lenS hnear
        rw [hpn] at d5
        have hzr : w.heap.size ≤ wr.heap.size := hnx.size
        obtain ⟨curg, hcurg⟩ : ∃ cur, wr.heap[g]? = some (.cells cur 26 (0, 0)) := by
          rcases hrow.2 with ⟨h0, _⟩ | ⟨g', cap', cur', hv', _, hh', _⟩
          · cases h0
          · cases hv'; exact ⟨cur', hh'⟩
        have hgne : some g ≠ p.2.ownBlock := own_type_ne2 hnear hcurg (by decide)
        rw [hpn] at hnear hgne
        have row5 := ((((hrow.stored (k * 8) (.int .i64 z)).1.stored (k * 8 + 1) (.int .i64 (z + 1))).1.stored (k * 8 + 2) (.int .i64 (z + 1 + 1))).1.stored (k * 8 + 3) (.int .i64 (z + 1 + 1 + 1))).1.stored (k * 8 + 4) (.int .i64 (z + 1 + 1 + 1 + 1)) |>.1
        have gr5 := set5_grown wr g (k * 8) z
        have near5 : (set5 wr g (k * 8) z).ownsRow lo 67 2 (.slice na p.1.near.length nc) p.1.near.length (flat nrE p.1.near) := owns_keepB hnear (fun j hj => gr5.block j (hnear.lt j hj).2 (fun e => hgne (by rw [hj, e])))
        have HMN := hide (markNearS_any (.slice na p.1.near.length nc) lo p.1.near.length p.1.near (z + 1 + 1 + 1 + 1 + 1) (set5 wr g (k * 8) z) rfl near5 (by omega) (by omega) (by omega))
        have HOWN := hide hown
        have HROW5 := hide row5
        have HGR5 := hide gr5
        have HXL := hide hxl
        have HXK := hide hxk
        have HSTEP := hide hstep
        have HNEXT := hide hnext
        have HPN := hide hpn
        have HGNE := hide hgne
        have HZ := hide hz
        have HTK := hide ht2
        clear hown hrow hxl hxk hstep hnext hpn hnear hex hcurg hxs hz hp row5 gr5 near5 hgne ht2 ht1
        go_wp2_with fail
        refine HMN.out.mono ?_
        rintro e w6 ⟨rfl, near6, gr6⟩
        have row6 : w6.ownsRow lo 26 8 (.slice (some ⟨g, 0, none⟩) ps.length cap) ps.length _ := owns_keepB HROW5.out (fun j hj => gr6.block j (HROW5.out.lt j hj).2 (fun e => HGNE.out (by cases hj; exact e)))
        obtain ⟨x6, e6⟩ := own_cell row6 (k * 8 + 6) (by omega)
        obtain ⟨x7, e7⟩ := own_cell row6 (k * 8 + 7) (by omega)
        have t6 := row6.frozenAt (k * 8 + 6)
        have t7 := row6.frozenAt (k * 8 + 7)
        have row8 := (row6.stored (k * 8 + 6) (.int .i64 (mkR z p).1.cost)).1.stored (k * 8 + 7) (.bool (mkR z p).1.far) |>.1
        have e8 := set7 (q := mkR z p) HXK.out rfl
        have row8' : ((w6.setCell ⟨g, k * 8 + 6, none⟩ (.int .i64 (mkR z p).1.cost)).setCell ⟨g, k * 8 + 7, none⟩ (.bool (mkR z p).1.far)).ownsRow lo 26 8 (.slice (some ⟨g, 0, none⟩) ps.length cap) ps.length (flat encP (xs.set k (mkR z p))) := by
          rw [← e8]
          exact row8
        have gr8 : w6.grownBy ((w6.setCell ⟨g, k * 8 + 6, none⟩ (.int .i64 (mkR z p).1.cost)).setCell ⟨g, k * 8 + 7, none⟩ (.bool (mkR z p).1.far)) (some g) := grown_trans (grown_set _ _ _ _) (grown_set _ _ _ _)
        have near8 := owns_keepB near6 (W' := (w6.setCell ⟨g, k * 8 + 6, none⟩ (.int .i64 (mkR z p).1.cost)).setCell ⟨g, k * 8 + 7, none⟩ (.bool (mkR z p).1.far)) (fun j hj => gr8.block j (near6.lt j hj).2 (fun e => HGNE.out (by rw [hj, e])))
        have fr : Frame lo hi wr ((w6.setCell ⟨g, k * 8 + 6, none⟩ (.int .i64 (mkR z p).1.cost)).setCell ⟨g, k * 8 + 7, none⟩ (.bool (mkR z p).1.far)) :=
          ((Frame.grown HGR5.out (fun j hj => by simp at hj; have := HG.out; omega)).trans (Frame.grown gr6 (fun j hj => ⟨(near6.lt j hj).1, by have := (HOWN.out.nears p (List.mem_of_getElem? HXK.out)).2 j (by rw [HPN.out]; exact hj); exact this⟩))).trans (Frame.grown gr8 (fun j hj => by simp at hj; have := HG.out; omega))
        have fin := HOWN.out.turn (W8 := (w6.setCell ⟨g, k * 8 + 6, none⟩ (.int .i64 (mkR z p).1.cost)).setCell ⟨g, k * 8 + 7, none⟩ (.bool (mkR z p).1.far)) (q := mkR z p) HXL.out HXK.out rfl row8' (by
            have h9 := near8
            show World.ownsRow _ lo 67 2 p.2 (marks _ _).length (flat nrE (marks _ _))
            rw [HPN.out, marks_len]
            exact h9) (fun j h1 h2 h3 => by
            have g5 := HGR5.out.size
            have g6 := gr6.size
            rw [gr8.block j (by omega) (by simp; omega), gr6.block j (by omega) (by rw [← HPN.out]; exact h3), HGR5.out.block j h1 (by simp; omega)])
        rw [HSTEP.out] at fin
        have FIN := hide fin
        have FR := hide fr
        clear row6 row8 e8 row8' gr8 near8 fr fin near6 gr6 HOWN HROW5 HMN HGR5
        go_wp2
        refine ⟨⟨k + 1, by omega, by go_num, ?_, FIN.out, hnx.trans FR.out⟩, by simp [intOf]; omega⟩
        rw [HNEXT.out]
        rfl
      · have hkn : k = ps.length := by omega
        have KN := hide hkn
        have OW := hide hown
        clear hkn hown
        go_wp2
        go_ret
        have h1 := OW.out
        rw [KN.out, List.take_length, List.drop_length, List.append_nil] at h1
        exact ⟨ret_int1 (by rw [KN.out, List.take_length]), h1, hnx⟩

set_option maxRecDepth 100000 in
set_option maxHeartbeats 2000000 in
theorem heldRecordS_any (v : Value) (ps : List RP) (c : Int) (w : World) (h : RecsAt w v (mkL c ps) w.heap.size) (hn : tot ps ≤ 1048576) (hc : 0 ≤ c) (hc2 : c ≤ 10000000) :
    Calls Try.prog 50 #[v, .int .i64 c] w fun e w' => e = .returned (.int .i64 (mkE c ps)) ∧ w = w' := by
  obtain ⟨a, cap, rfl⟩ := h.shape
  rw [mkL_len] at *
  have H1 := hide h
  have hnl := tot_len ps
  clear h
  go_enter Try.func50, Try.ntmps50
  go_wp2
  go_loop [5, 1] (fun i r => ∃ k : Nat, k ≤ ps.length ∧ i = .int .i64 k ∧ r = .int .i64 (mkE c (ps.take k))) (fun i _ => ps.length - (intOf i).toNat)
  case atStart => exact ⟨0, by omega, rfl, rfl⟩
  case round =>
    obtain ⟨k, hk, rfl, rfl⟩ := hrel
    by_cases hlt : k < ps.length
    · obtain ⟨p, hp⟩ : ∃ p, ps[k]? = some p := ⟨ps[k], List.getElem?_eq_getElem hlt⟩
      have hki : (0 : Int) ≤ (k : Int) := by omega
      have hkj : (k : Int) < (ps.length : Int) := by omega
      have ht1 := tot_takeLe ps k
      have ht2 := mkE_tot c (ps.take k)
      have hpl := tot_mem (List.mem_of_getElem? hp)
      have hnext := mkE_step c hp
      have hat := mkL_at c hp
      obtain ⟨z, hz⟩ : ∃ z, z = mkE c (ps.take k) := ⟨_, rfl⟩
      rw [← hz] at ht2 hnext hat ⊢
      have hz0 : 0 ≤ z := by omega
      have hz2 : z ≤ 100000000 := by omega
      obtain ⟨b, off, cap', hve, hbb, s0, s1, s2, s3, s4, s5, s6, s7, hnr⟩ := H1.out.cells k (mkR z p) hat
      rw [mkL_len] at hve
      cases hve
      unfold mkR at s0 s1 s2 s3 s4 s5 s6 s7 hnr
      simp only [] at s0 s1 s2 s3 s4 s5 s6 s7 hnr
      obtain ⟨na, nc, hpn⟩ := hnr.shape
      rw [marks_len] at hpn
      rw [hpn] at s5 hnr
      have HH := hide (heldNearS_any _ p.1.near.length (z + 1 + 1 + 1 + 1 + 1) w hnr (by omega) (by omega) (by omega))
      have HNEXT := hide hnext
      have HZ := hide hz
      have hm0 : ¬ z + 1 + 1 + 1 + 1 + 1 + 2 * (p.1.near.length : Int) < 0 := by omega
      clear hp hnext hat hz hnr hpn ht1 ht2
      go_wp2_with fail
      refine HH.out.mono ?_
      rintro e w1 ⟨rfl, rfl⟩
      go_wp2
      go_round
      case rel => exact ⟨k + 1, by omega, by go_num, by rw [HNEXT.out]; rfl⟩
      case measure => simp [intOf]; omega
    · have hkn : k = ps.length := by omega
      have KN := hide hkn
      clear hkn
      go_wp2
      go_ret
      exact ⟨ret_int1 (by rw [KN.out, List.take_length]), rfl⟩
end Go.Proofs.Ytohjphhocdgpgaa
namespace Go.Proofs.Ytohjphhocdgpgaa
open Go.RowKit

theorem append_struct5 {α : Type} {enc : α → List Value} {sz bytes : Nat} (hlen : ∀ a, (enc a).length = sz) (hpos : 0 < sz) (hbb : bytes ≤ 100) {P : Program} (w : World) {ops : Array Oper} {rest : List Oper} {o : Oper} {a : Act} {Q : Exit → Act → World → Prop} (hgd : o.guard = none) (s x : Operand) (t : TypeId)
    (ho : o.op = .call { callee := .builtin .append, args := #[s, x], argTypes := #[t, t] }) (base : Nat) (e : TypeId) (ht : P.underlying t = some (.slice e)) (zv : Value) (hzv : zv.cells.size = sz)
    (hinfo : (P.info? e).map (fun i => (i.zero, i.size, i.bytes)) = some (some zv, sz, bytes))
    (v : Value) (l : List α) (y : α) (hone : ∀ u ∈ enc y, u.oneCell' = true) (hs : a.eval s = v) (hown : w.ownsRow base e sz v l.length (flat enc l))
    (ad : Addr) (c : Nat) (hx : a.eval x = .slice (some ad) 1 c) (hnews : ∀ j u, (enc y)[j]? = some u → w.cell? (ad.add j) = some u)
    (hl : l.length + 1 ≤ 1000000000) (hbase : base ≤ w.heap.size)
    (h : ∀ v' w', w'.ownsRow base e sz v' (l ++ [y]).length (flat enc (l ++ [y])) → w.grownBy w' v.ownBlock → wpList P ops Q rest (a.put o.dst v') w') : wpList P ops Q (o :: rest) a w := by
  obtain ⟨i0, hi, hz0, hz1, hz2⟩ := info_parts hinfo
  refine wpList_append_own w hgd s x t ho base e i0 zv sz bytes ht hi hz0 hz1 hz2 hzv hpos v l.length (flat enc l) hs hown ad 1 c (enc y) hx (by rw [hlen]; omega) hnews hone (by unfold maxLen; omega) ?_ hbase ?_
  · have : (l.length + 1) * bytes ≤ 1000000000 * 100 := Nat.mul_le_mul hl hbb
    omega
  · intro v' w' h1 h2 _
    have e1 : flat enc l ++ enc y = flat enc (l ++ [y]) := by rw [flat_append]; simp [flat]
    rw [e1] at h1
    exact h v' w' (by simpa using h1) h2

theorem encP_one (x : RecD) (a : Option Addr) (n c : Nat) : ∀ u ∈ encP (x, .slice a n c), u.oneCell' = true := by
  intro u hu
  simp only [encP, List.mem_cons, List.not_mem_nil, or_false] at hu
  rcases hu with rfl | rfl | rfl | rfl | rfl | rfl | rfl | rfl <;> rfl

theorem near_row_ne {W : World} {lo lo2 hi n size2 : Nat} {v : Value} {xs : List Value} {q : RP} (hq : NearOwn W lo hi q) (hr : W.ownsRow lo2 26 size2 v n xs) (j : Nat) (hj : q.2.ownBlock = some j) : some j ≠ v.ownBlock := by
  intro e
  rcases hr.2 with ⟨h0, _⟩ | ⟨g, cap, cur, hv, _, hh, _⟩
  · rw [h0] at e; simp [Value.ownBlock] at e
  · rw [hv] at e
    simp [Value.ownBlock] at e
    subst e
    exact own_type_ne2 hq.1 hh (by decide) hj.symm

/-- one more record, its row behind all that was there -/
theorem RecsOwn.push {W Wa W2 : World} {lo : Nat} {v v' : Value} {qs : List RP} {p : RP} (h : RecsOwn W lo W.heap.size v qs) (hb : Below W.heap.size W Wa) (hlo : lo ≤ W.heap.size) (hp : NearOwn Wa W.heap.size Wa.heap.size p)
    (row : W2.ownsRow lo 26 8 v' (qs.length + 1) (flat encP (qs ++ [p]))) (hg : Wa.grownBy W2 v.ownBlock) : RecsOwn W2 lo W2.heap.size v' (qs ++ [p]) where
  row := by simpa using row
  top := fun k hk => (row.lt k hk).2
  apart := apart_add h.apart h.nears (fun k hk => (hp.1.lt k hk).1)
  nears := by
    have rowa := owns_below h.row hb (Nat.le_refl _)
    have key : ∀ q, NearOwn Wa lo Wa.heap.size q → NearOwn W2 lo W2.heap.size q := fun q hq =>
      ⟨owns_keepB hq.1 (fun j hj => hg.block j (hq.2 j hj) (near_row_ne hq rowa j hj)), fun k hk => Nat.lt_of_lt_of_le (hq.2 k hk) hg.size⟩
    intro q hq
    rcases List.mem_append.1 hq with h1 | h1
    · exact key q (((h.nears q h1).keep (W' := Wa) (fun j _ h2 _ => hb.block j h2)).wide (Nat.le_refl _) hb.size)
    · have : q = p := by simpa using h1
      subst this
      exact key q (hp.wide hlo (Nat.le_refl _))

theorem recs_lit (W : World) (lo : Nat) (hb : lo ≤ W.heap.size) : RecsOwn (W.alloc (.cells #[] 26)) lo (W.alloc (.cells #[] 26)).heap.size (.slice (some ⟨W.heap.size, 0, none⟩) 0 0) [] where
  row := World.ownsRow_lit W #[] 0 hb (by unfold maxLen; omega) (by simp)
  top := by intro k hk; simp [Value.ownBlock] at hk; subst hk; simp
  nears := by simp
  apart := by simp

theorem filter_take {ps : List RP} {k : Nat} {p : RP} (f : RecD → Bool) (h : ps[k]? = some p) : (fsts (ps.take (k + 1))).filter f = (fsts (ps.take k)).filter f ++ (if f p.1 then [p.1] else []) := by
  have e : fsts (ps.take (k + 1)) = fsts (ps.take k) ++ [p.1] := map_take h
  rw [e, List.filter_append]
  congr 1
  by_cases hf : f p.1 <;> simp [hf]
end Go.Proofs.Ytohjphhocdgpgaa
namespace Go.Proofs.Ytohjphhocdgpgaa
open Go.RowKit

theorem run_copy_rowS {P : Program} (w : World) (dT sT ty elem : TypeId) (g o dLen dCap : Nat) (a : Addr) (sLen sCap sz : Nat) (cur : Array Value) (t : TypeId) (cs : List Value)
    (hu : P.underlying dT = some (.slice elem)) (hs : (P.info? elem).map (·.size) = some sz)
    (hg : w.heap[g]? = some (.cells cur t (0, 0))) (hn : cs.length = Nat.min sLen dLen * sz)
    (hsrc : ∀ j v, cs[j]? = some v → w.cell? (a.add j) = some v) (hfit : o + cs.length ≤ cur.size) (h1 : ∀ v ∈ cs, v.oneCell' = true) :
    (Builtin.copy_ #[dT, sT] ty #[.slice (some ⟨g, o, none⟩) dLen dCap, .slice (some a) sLen sCap]).run P w =
      .ok (goInt (Nat.min sLen dLen)) (w.setRow g (cur.toList.take o ++ cs ++ cur.toList.drop (o + cs.length)).toArray) := by
  have hl := run_loadCells_list (P := P) w a cs hsrc
  have hst := run_storeCells_at P g o t cs 0 cur w hg (by simpa using hfit) h1
  cases hq : P.info? elem with
  | none => simp [hq] at hs
  | some i =>
    have hi : i.size = sz := by simpa [hq] using hs
    simp [Builtin.copy_, run_underlying hu, Builtin.lenOf, Builtin.firstCells, sizeOf, typeInfo, hq, hi, ← hn, hl, hst]

theorem append_types {P : Program} (w : World) (t t2 ty e : TypeId) (i : TypeInfo) (ht : P.underlying t = some (.slice e)) (ht2 : P.underlying t2 = some (.slice e)) (hi : P.info? e = some i) (b : Option Addr) (n c : Nat) (x : Value) :
    (Builtin.append_ #[t, t2] ty #[.slice b n c, x]).run P w = (Builtin.append_ #[t, t] ty #[.slice b n c, x]).run P w := by
  simp [Builtin.append_, run_underlying ht, run_underlying ht2, sizeOf, typeInfo, hi]

/-- what two copies leave -/
theorem seg_len (cur D R : List Value) (a d : Nat) (hD : D.length = d) (hR : R.length = 8) (hc : a + 8 + d ≤ cur.length) :
    ((cur.take (a + 8) ++ D ++ cur.drop (a + 8 + D.length)).take a ++ R ++ (cur.take (a + 8) ++ D ++ cur.drop (a + 8 + D.length)).drop (a + R.length)) = cur.take a ++ R ++ D ++ cur.drop (a + 8 + d) := by
  have e1 : (cur.take (a + 8) ++ D ++ cur.drop (a + 8 + D.length)).take a = cur.take a := by
    rw [List.append_assoc, List.take_append_of_le_length (by simp; omega), List.take_take, Nat.min_eq_left (by omega)]
  have e2 : (cur.take (a + 8) ++ D ++ cur.drop (a + 8 + D.length)).drop (a + R.length) = D ++ cur.drop (a + 8 + d) := by
    rw [hR, List.append_assoc, List.drop_append_of_le_length (by simp; omega), List.drop_of_length_le (by simp; omega), List.nil_append, hD]
  rw [e1, e2, List.append_assoc, List.append_assoc, List.append_assoc]

theorem take_of_parts {A B C D : List Value} {n : Nat} (h : A.length + B.length + C.length = n) : (A ++ B ++ C ++ D).take n = A ++ B ++ C := by
  rw [List.take_append_of_le_length (by simp; omega), List.take_of_length_le (by simp; omega)]

theorem flat_take (ps : List RP) (i : Nat) (h : i ≤ ps.length) : (flat encP ps).take (i * 8) = flat encP (ps.take i) := by
  conv => lhs; rw [← List.take_append_drop i ps, flat_append]
  have e : (flat encP (ps.take i)).length = i * 8 := by rw [flat_len encP_len, List.length_take, Nat.min_eq_left h]
  rw [← e, List.take_left]

theorem flat_drop (ps : List RP) (i : Nat) (h : i ≤ ps.length) : (flat encP ps).drop (i * 8) = flat encP (ps.drop i) := by
  conv => lhs; rw [← List.take_append_drop i ps, flat_append]
  have e : (flat encP (ps.take i)).length = i * 8 := by rw [flat_len encP_len, List.length_take, Nat.min_eq_left h]
  rw [← e, List.drop_left]

theorem flat_one (r : RP) : flat encP [r] = encP r := by simp [flat]

theorem flat_ins (ps : List RP) (r : RP) (i : Nat) : flat encP (ps.take i ++ [r] ++ ps.drop i) = flat encP (ps.take i) ++ encP r ++ flat encP (ps.drop i) := by
  rw [flat_append, flat_append, flat_one]

theorem ins_len (ps : List RP) (r : RP) (i : Nat) (h : i ≤ ps.length) : (ps.take i ++ [r] ++ ps.drop i).length = ps.length + 1 := by
  simp
  omega

theorem flat_oneCell (ps : List RP) (h : ∀ p ∈ ps, ∃ a n c, p.2 = .slice a n c) : ∀ u ∈ flat encP ps, u.oneCell' = true := by
  intro u hu
  simp only [flat, List.mem_flatMap] at hu
  obtain ⟨p, hp, hu⟩ := hu
  obtain ⟨a, n, c, e⟩ := h p hp
  obtain ⟨x, v⟩ := p
  simp only at e
  subst e
  exact encP_one x a n c u hu
end Go.Proofs.Ytohjphhocdgpgaa
namespace Go.Proofs.Ytohjphhocdgpgaa
open Go.RowKit

set_option linter.unusedSimpArgs false
set_option linter.unusedVariables false

theorem add8 (g o j : Nat) : (⟨g, o, none⟩ : Addr).add j = ⟨g, o + j, none⟩ := by
  simp only [Addr.add]
  split <;> simp_all

set_option maxRecDepth 100000 in
set_option maxHeartbeats 4000000 in
theorem ins_shift (base g cap n m i vb : Nat) (ps : List RP) (r : RP) (w : World) (hnp : n = ps.length) (hm : m = 1) (hrow : w.ownsRow base 26 8 (.slice (some ⟨g, 0, none⟩) n cap) n (flat encP ps)) (hi : i < n) (hroom : n + m ≤ cap)
    (hvb : w.heap[vb]? = some (.cells (encP r).toArray 26 (0, 0))) (hne : vb ≠ g) (hone : ∀ p ∈ ps, ∃ a k c, p.2 = .slice a k c) (hr1 : ∀ u ∈ encP r, u.oneCell' = true) :
    Calls Try.prog 110 #[.slice (some ⟨g, 0, none⟩) n cap, .int .i64 (i : Int), .slice (some ⟨vb, 0, none⟩) m 1] w fun e w' => ∃ v, e = .returned v ∧ w'.ownsRow base 26 8 v (n + m) (flat encP (ps.take i ++ [r] ++ ps.drop i)) ∧ w.grownBy w' (some g) := by
  have hnl : (flat encP ps).length = n * 8 := hrow.1
  have hui := Try.underlying94
  have hus := Try.underlying43
  obtain ⟨i0, hi0, hz0, hzs, hzb⟩ := info_parts Try.infoRec
  have hsz : (Try.prog.info? 26).map (·.size) = some 8 := by rw [hi0]; simp [hzs]

  rcases hrow.2 with ⟨h0, _⟩ | ⟨g', cap', cur, hv, hbg, hg, hnc, hcm, hcs, htk⟩
  · simp at h0
  simp at hv
  obtain ⟨rfl, rfl⟩ := hv
  have hmx : maxLen = 9223372036854775807 ∨ maxLen ≤ 9223372036854775807 := by unfold maxLen; omega
  have hc63 : cap ≤ 9223372036854775807 := by omega
  have hD : (flat encP (ps.drop i)).length = (n - i) * 8 := by rw [flat_len encP_len, List.length_drop, ← hnp]
  have hclen : cur.toList.length = cap * 8 := by simpa using hcs
  have hRl : (encP r).length = 8 := encP_len r
  have hov : ∀ lb cb, (callFunc 116 #[.slice (some ⟨vb, 0, none⟩) m 1, .slice (some ⟨g, (i + m) * 8, none⟩) lb cb]).run Try.prog w = .ok (.value (.bool false)) w := fun lb cb => by
    rw [run_callFunc_extern Try.func116 (by kernel_rfl) (by kernel_rfl) (by kernel_rfl) (e := Extern.SlicesOverlaps.overlaps #[43, 43] #[4]) (by kernel_rfl),
      Lib.run_overlaps_apart w 43 4 26 hus 8 (by intro w; simp [Go.sizeOf, typeInfo, hi0, hzs]) ⟨vb, 0, none⟩ ⟨g, (i + m) * 8, none⟩ m 1 lb cb hne 26 26 8 cur.size (by simp [World.shape?, hvb, hRl]) (by simp [World.shape?, hg]) (by omega) (frozen_at hvb 0) (frozen_at hvb 8)]
    rfl
  have hcell : ∀ (W : World), W.heap = w.heap → ∀ j u, (flat encP (ps.drop i))[j]? = some u → W.cell? ((⟨g, i * 8, none⟩ : Addr).add j) = some u := fun W hW j u hj => by
    rw [add8]
    simp only [World.cell?, hW, hg]
    rw [← flat_drop ps i (by omega), ← htk, List.getElem?_drop] at hj
    have h2 : i * 8 + j < n * 8 := by
      have h3 := (List.getElem?_eq_some_iff.1 hj).1
      rw [List.length_take] at h3
      omega
    rw [List.getElem?_take_of_lt h2] at hj
    simpa using hj
  have hcp1 : ∀ (W : World), W.heap = w.heap → ∀ ty dc sc, (Builtin.copy_ #[94, 94] ty #[.slice (some ⟨g, (i + m) * 8, none⟩) (n + m - (i + m)) dc, .slice (some ⟨g, i * 8, none⟩) (n + m - i) sc]).run Try.prog W = .ok (goInt (Nat.min (n + m - i) (n + m - (i + m)))) (W.setRow g (cur.toList.take ((i + m) * 8) ++ flat encP (ps.drop i) ++ cur.toList.drop ((i + m) * 8 + (flat encP (ps.drop i)).length)).toArray) := fun W hW ty dc sc =>
    run_copy_rowS W 94 94 ty 26 g ((i + m) * 8) (n + m - (i + m)) dc ⟨g, i * 8, none⟩ (n + m - i) sc 8 cur 26 (flat encP (ps.drop i)) hui hsz (by rw [hW]; exact hg)
      (by rw [hD]; congr 1; have : Nat.min (n + m - i) (n + m - (i + m)) = n + m - (i + m) := Nat.min_eq_right (by omega); omega) (hcell W hW) (by rw [hD]; omega) (flat_oneCell _ (fun p hp => hone p (List.mem_of_mem_drop hp)))
  obtain ⟨c1, hc1⟩ : ∃ c1, c1 = cur.toList.take ((i + m) * 8) ++ flat encP (ps.drop i) ++ cur.toList.drop ((i + m) * 8 + (flat encP (ps.drop i)).length) := ⟨_, rfl⟩
  rw [← hc1] at hcp1
  have hc1l : c1.length = cap * 8 := by rw [hc1]; simp only [List.length_append, List.length_take, List.length_drop, hclen, hD]; omega
  have hcp2 : ∀ (W : World), W.heap = (w.setRow g c1.toArray).heap → ∀ ty dc, (Builtin.copy_ #[94, 43] ty #[.slice (some ⟨g, i * 8, none⟩) (n + m - i) dc, .slice (some ⟨vb, 0, none⟩) m 1]).run Try.prog W = .ok (goInt (Nat.min m (n + m - i))) (W.setRow g (c1.take (i * 8) ++ encP r ++ c1.drop (i * 8 + (encP r).length)).toArray) := fun W hW ty dc => by
    have h := run_copy_rowS (P := Try.prog) W 94 43 ty 26 g (i * 8) (n + m - i) dc ⟨vb, 0, none⟩ m 1 8 c1.toArray 26 (encP r) hui hsz (by rw [hW]; exact setRow_heap w g cur _ 26 _ hg)
      (by rw [hRl]; have : Nat.min m (n + m - i) = m := Nat.min_eq_left (by omega); omega) (fun j u hj => by
        rw [add8]
        simp only [World.cell?, hW]
        rw [setRow_other w g vb _ hne, hvb]
        simpa using hj) (by rw [hRl]; simp only [List.size_toArray, hc1l]; omega) hr1
    simpa using h
  have hfin : c1.take (i * 8) ++ encP r ++ c1.drop (i * 8 + (encP r).length) = flat encP (ps.take i) ++ encP r ++ flat encP (ps.drop i) ++ cur.toList.drop (i * 8 + 8 + (n - i) * 8) := by
    have h := seg_len cur.toList (flat encP (ps.drop i)) (encP r) (i * 8) ((n - i) * 8) hD hRl (by omega)
    rw [show i * 8 + 8 = (i + m) * 8 by omega, ← hc1] at h
    rw [h]
    congr 3
    · rw [← flat_take ps i (by omega), ← htk, List.take_take, Nat.min_eq_left (by omega)]
    · omega
  have hdone : ∀ W : World, W.heap = ((w.setRow g c1.toArray).setRow g (c1.take (i * 8) ++ encP r ++ c1.drop (i * 8 + (encP r).length)).toArray).heap → W.os = w.os → W.tape = w.tape → W.output = w.output → W.ownsRow base 26 8 (.slice (some ⟨g, 0, none⟩) (n + m) cap) (n + m) (flat encP (ps.take i ++ [r] ++ ps.drop i)) ∧ w.grownBy W (some g) := by
    intro W hW h1 h2 h3
    have hAl : (flat encP (ps.take i)).length = i * 8 := by rw [flat_len encP_len, List.length_take, Nat.min_eq_left (by omega)]
    refine ⟨⟨?_, .inr ⟨g, cap, (flat encP (ps.take i) ++ encP r ++ flat encP (ps.drop i) ++ cur.toList.drop (i * 8 + 8 + (n - i) * 8)).toArray, rfl, hbg, ?_, hroom, hcm, ?_, ?_⟩⟩, ⟨h1, h2, h3, ?_, ?_⟩⟩
    · rw [flat_len encP_len, ins_len ps r i (by omega)]; omega
    · rw [hW, hfin]
      exact setRow_heap _ g c1.toArray _ 26 _ (setRow_heap w g cur _ 26 _ hg)
    · simp only [List.size_toArray, List.length_append, List.length_drop, hclen, hD, hRl, hAl]; omega
    · rw [flat_ins]
      exact take_of_parts (by rw [hAl, hRl, hD]; omega)
    · rw [hW]; simp
    · intro k _ hk
      have hkg : k ≠ g := fun e => hk (by rw [e])
      rw [hW, setRow_other _ g k _ hkg, setRow_other _ g k _ hkg]
  have hz1 : ¬ ((m : Int) = 0) := by omega
  have hz2 : ¬ ((i : Int) = (n : Int)) := by omega
  have hw1 : IntKind.i64.wrap ((i : Int) + (m : Int)) = (i : Int) + (m : Int) := by rw [IntKind.wrap_i64]; omega
  have hw2 : IntKind.i64.wrap ((n : Int) + (m : Int)) = (n : Int) + (m : Int) := by rw [IntKind.wrap_i64]; omega
  have hb1 : (0 : Int) ≤ (i : Int) + (m : Int) := by omega
  have hin : i ≤ n := by omega
  have htn : ((i : Int) + (m : Int)).toNat = i + m := by omega
  have htn2 : ((n : Int) + (m : Int)).toNat = n + m := by omega
  have hb2 : ¬ (cap = i + m) := by omega
  have hb3 : (i : Int) ≤ (n : Int) + (m : Int) := by omega
  have hb4 : ¬ (cap = i) := by omega
  have hb5 : ¬ ((cap : Int) < (n : Int) + (m : Int)) := by omega
  have HD := hide hdone
  have HC1 := hide (hcp1 w.drew rfl)
  have mixed : Try.prog.follows .mixedOrders = true := by kernel_rfl
  have HC2 := hide (hcp2 (w.drew.setRow g c1.toArray) rfl)
  have HOV := hide hov
  clear hdone hcp1 hcp2 hfin hc1 hcell hD hclen hRl hnl hov hc1l htk hcs hg hrow hvb hone hr1 hmx hsz hi0 hz0 hzs hzb hm hnp
  go_enter Try.func110, Try.ntmps110
  go_wp2_with (simp only [HOV.out])
  go_region_law_o (refine step_copy_runI rfl _ _ 94 94 rfl (.slice (some ⟨g, (i + m) * 8, none⟩) (n + m - (i + m)) (cap - (i + m))) (.slice (some ⟨g, i * 8, none⟩) (n + m - i) (cap - i)) (by simp [Act.eval, Act.put]) (by simp [Act.eval, Act.put]) (HC1.out 3 (cap - (i + m)) (cap - i)) ?_)
  go_wp2_with (refine wpList_copy_runI _ rfl _ _ 94 43 rfl (.slice (some ⟨g, i * 8, none⟩) (n + m - i) (cap - i)) (.slice (some ⟨vb, 0, none⟩) m 1) rfl rfl (HC2.out 3 (cap - i)) ?_)
  go_ret
  exact ⟨_, rfl, HD.out _ (by rw [← List.append_assoc]; rfl) rfl rfl rfl⟩

theorem run_append_end (base n m vb : Nat) (v : Value) (ps : List RP) (r : RP) (w : World) (hnp : n = ps.length) (hm : m = 1) (hbase : base ≤ w.heap.size) (hn : n ≤ 1048576) (hrow : w.ownsRow base 26 8 v n (flat encP ps))
    (hvb : w.heap[vb]? = some (.cells (encP r).toArray 26 (0, 0))) (hr1 : ∀ u ∈ encP r, u.oneCell' = true) : ∃ v' w', (∀ ty, (Builtin.append_ #[94, 43] ty #[v, .slice (some ⟨vb, 0, none⟩) m 1]).run Try.prog w = .ok v' w') ∧ w'.ownsRow base 26 8 v' (n + m) (flat encP (ps.take n ++ [r] ++ ps.drop n)) ∧ w.grownBy w' v.ownBlock := by
  obtain ⟨i0, hi0, hz0, hzs, hzb⟩ := info_parts Try.infoRec
  obtain ⟨a, c, hv⟩ := owns_lenS hrow
  obtain ⟨v', w', h1, h2, h3, _⟩ := run_append_own (P := Try.prog) w base 94 94 26 i0 _ 8 i0.bytes Try.underlying94 hi0 hz0 hzs rfl rfl (by omega) v n (flat encP ps) hrow ⟨vb, 0, none⟩ m 1 (encP r) (by rw [encP_len, hm]) (fun j u hj => by
    rw [add8, Nat.zero_add, cells_at hvb]
    simpa using hj) hr1 (by unfold maxLen; omega) (by rw [hzb]; omega) hbase
  refine ⟨v', w', fun ty => ?_, ?_, h3⟩
  · rw [hv, append_types w 94 43 ty 26 i0 Try.underlying94 Try.underlying43 hi0, ← hv]
    exact h1
  · rw [flat_ins, hnp, List.take_length, List.drop_length]
    rw [hnp] at h2
    simpa [flat] using h2

set_option maxRecDepth 100000 in
set_option maxHeartbeats 4000000 in
theorem ins_end (base n m vb : Nat) (v : Value) (ps : List RP) (r : RP) (w : World) (hnp : n = ps.length) (hm : m = 1) (hbase : base ≤ w.heap.size) (hn : n ≤ 1048576) (hrow : w.ownsRow base 26 8 v n (flat encP ps))
    (hvb : w.heap[vb]? = some (.cells (encP r).toArray 26 (0, 0))) (hr1 : ∀ u ∈ encP r, u.oneCell' = true) :
    Calls Try.prog 110 #[v, .int .i64 (n : Int), .slice (some ⟨vb, 0, none⟩) m 1] w fun e w' => ∃ v', e = .returned v' ∧ w'.ownsRow base 26 8 v' (n + m) (flat encP (ps.take n ++ [r] ++ ps.drop n)) ∧ w.grownBy w' v.ownBlock := by
  obtain ⟨v', w', h1, h2, h3⟩ := run_append_end base n m vb v ps r w hnp hm hbase hn hrow hvb hr1
  obtain ⟨va, vc, hve⟩ := owns_lenS h2
  subst hve
  have HR := hide h1
  generalize ps.take n ++ [r] ++ ps.drop n = l at *
  have H2 := hide h2
  have H3 := hide h3
  have hz1 : ¬ ((m : Int) = 0) := by omega
  clear h1 h2 h3 hvb hr1 hm hnp
  rcases hrow.2 with ⟨h0, hn0⟩ | ⟨g, cap, cur, hv, hbg, hg, hnc, hcm, hcs, htk⟩
  · subst h0
    clear hrow
    subst hn0
    go_enter Try.func110, Try.ntmps110
    go_wp2_with (at_builtin; refine Lib.wpList_append_run _ rfl _ _ _ _ rfl _ _ rfl rfl _ _ (HR.out _) ?_)
    go_ret
    exact ⟨_, rfl, (by simpa using H2.out), H3.out⟩
  · subst hv
    have hc63 : cap ≤ 9223372036854775807 := by unfold maxLen at hcm; omega
    clear hrow hg hcs htk
    go_enter Try.func110, Try.ntmps110
    go_wp2_with (at_builtin; refine Lib.wpList_append_run _ rfl _ _ _ _ rfl _ _ rfl rfl _ _ (HR.out _) ?_)
    all_goals (go_ret; exact ⟨_, rfl, H2.out, H3.out⟩)

set_option maxRecDepth 100000 in
set_option maxHeartbeats 4000000 in
theorem ins_grow (base g cap n m i vb : Nat) (ps : List RP) (r : RP) (w : World) (hnp : n = ps.length) (hm : m = 1) (hbase : base ≤ w.heap.size) (hn : n ≤ 1048576) (hrow : w.ownsRow base 26 8 (.slice (some ⟨g, 0, none⟩) n cap) n (flat encP ps)) (hi : i < n) (hroom : cap < n + m)
    (hvb : w.heap[vb]? = some (.cells (encP r).toArray 26 (0, 0))) (hone : ∀ p ∈ ps, ∃ a k c, p.2 = .slice a k c) (hr1 : ∀ u ∈ encP r, u.oneCell' = true) :
    Calls Try.prog 110 #[.slice (some ⟨g, 0, none⟩) n cap, .int .i64 (i : Int), .slice (some ⟨vb, 0, none⟩) m 1] w fun e w' => ∃ v, e = .returned v ∧ w'.ownsRow base 26 8 v (n + m) (flat encP (ps.take i ++ [r] ++ ps.drop i)) ∧ w.grownBy w' (some g) := by
  have hnl : (flat encP ps).length = n * 8 := hrow.1
  have hui := Try.underlying94
  have hus := Try.underlying43
  obtain ⟨i0, hi0, hz0, hzs, hzb⟩ := info_parts Try.infoRec
  have hsz : (Try.prog.info? 26).map (·.size) = some 8 := by rw [hi0]; simp [hzs]

  rcases hrow.2 with ⟨h0, _⟩ | ⟨g', cap', cur, hv, hbg, hg, hnc, hcm, hcs, htk⟩
  · simp at h0
  simp at hv
  obtain ⟨rfl, rfl⟩ := hv
  have hc63 : cap ≤ 9223372036854775807 := by unfold maxLen at hcm; omega
  have hgw := lt_of_heap hg
  have hvw := lt_of_heap hvb
  have hD : (flat encP (ps.drop i)).length = (n - i) * 8 := by rw [flat_len encP_len, List.length_drop, ← hnp]
  have hAl : (flat encP (ps.take i)).length = i * 8 := by rw [flat_len encP_len, List.length_take, Nat.min_eq_left (by omega)]
  have hRl : (encP r).length = 8 := encP_len r
  have hkk : (n : Int) + (m : Int) - (i : Int) = ((n + m - i : Nat) : Int) := by omega
  have hik : i + (n + m - i) = n + m := by omega
  have hcellw : ∀ (j : Nat) (u : Value), (flat encP ps)[j]? = some u → w.cell? ⟨g, j, none⟩ = some u := fun j u hj => by
    have h2 : j < n * 8 := by rw [← hnl]; exact (List.getElem?_eq_some_iff.1 hj).1
    rw [← htk, List.getElem?_take_of_lt h2] at hj
    rw [cells_at hg]
    simpa using hj
  have hold : (Builtin.firstCells i0.size i (.slice (some ⟨g, 0, none⟩) i cap)).run Try.prog w.drew = .ok (flat encP (ps.take i)).toArray w.drew := by
    rw [hzs]
    exact run_firstCells_some w.drew 8 i ⟨g, 0, none⟩ i cap (flat encP (ps.take i)) hAl (fun j v hj => by
      rw [add8, Nat.zero_add]
      refine hcellw j v ?_
      rw [← flat_take ps i (by omega), List.getElem?_take] at hj
      split at hj
      · exact hj
      · cases hj)
  have hrz0 := Lib.run_append_grow_zeros (P := Try.prog) w 94 3 94 26 i0 _ .i64 .i64 hui Try.underlying3 hi0 hz0 (some ⟨g, 0, none⟩) i cap (flat encP (ps.take i)) hold (n + m - i) (by omega) (by rw [hzs]; omega) (by omega) (by omega) (by rw [hzb]; omega) (by rw [hzb, hik]; exact growslice_fits hroom (by omega))
  rw [hik] at hrz0
  have hGn := grownCap_ge w (n + m) cap 26
  have hGm := grownCap_le_maxLen w (n + m) cap 26 (by unfold maxLen; omega)
  obtain ⟨G, hG⟩ : ∃ G, G = grownCap w (n + m) cap 26 := ⟨_, rfl⟩
  rw [← hG] at hrz0 hGn hGm
  obtain ⟨ROW, hROW⟩ : ∃ ROW : Array Value, ROW = (flat encP (ps.take i)).toArray ++ Builtin.zeroCells (Value.agg (recC zeroRD (.slice none 0 0))).cells (n + m - i) ++ Builtin.zeroCells (Value.agg (recC zeroRD (.slice none 0 0))).cells (G - (n + m)) := ⟨_, rfl⟩
  rw [← hROW] at hrz0
  have hRs : ROW.size = G * 8 := by
    rw [hROW]
    simp only [Array.size_append, List.size_toArray, size_zeroCells, hAl, show (Value.agg (recC zeroRD (.slice none 0 0))).cells.size = 8 from rfl]
    omega
  have hRt : ROW.toList.take (i * 8) = flat encP (ps.take i) := by
    rw [hROW]
    simp only [Array.toList_append, List.append_assoc]
    rw [← hAl]
    exact List.take_left
  obtain ⟨N, hN⟩ : ∃ N, N = w.heap.size := ⟨_, rfl⟩
  obtain ⟨W1, hW1⟩ : ∃ W1, W1 = w.drew.alloc (.cells ROW 26) := ⟨_, rfl⟩
  rw [← hW1, ← hN] at hrz0
  have hrz : ∀ ty, (Builtin.append_ #[94, 3] ty #[.slice (some ⟨g, 0, none⟩) i cap, .int .i64 ((n : Int) + (m : Int) - (i : Int))]).run Try.prog w = .ok (.slice (some ⟨N, 0, none⟩) (n + m) G) W1 := fun ty => by
    rw [hkk]
    exact hrz0
  have g1 : W1.heap[N]? = some (.cells ROW 26 (0, 0)) := by rw [hW1, hN]; exact heap_alloc_new w.drew _
  have b1 : ∀ k, k < N → W1.heap[k]? = w.heap[k]? := fun k hk => by rw [hW1]; exact Below.heap_alloc _ _ _ (by rw [hN] at hk; exact hk)
  have s1 : W1.heap.size = N + 1 := by rw [hW1, hN]; simp
  have hcpA : ∀ ty dc, (Builtin.copy_ #[94, 43] ty #[.slice (some ⟨N, i * 8, none⟩) (n + m - i) dc, .slice (some ⟨vb, 0, none⟩) m 1]).run Try.prog W1 = .ok (goInt (Nat.min m (n + m - i))) (W1.setRow N (ROW.toList.take (i * 8) ++ encP r ++ ROW.toList.drop (i * 8 + (encP r).length)).toArray) := fun ty dc =>
    run_copy_rowS W1 94 43 ty 26 N (i * 8) (n + m - i) dc ⟨vb, 0, none⟩ m 1 8 ROW 26 (encP r) hui hsz g1
      (by rw [hRl]; have : Nat.min m (n + m - i) = m := Nat.min_eq_left (by omega); omega) (fun j u hj => by
        rw [add8, Nat.zero_add]
        simp only [World.cell?]
        rw [b1 vb (by omega), hvb]
        simpa using hj) (by rw [hRl, hRs]; omega) hr1
  obtain ⟨c1, hc1⟩ : ∃ c1, c1 = ROW.toList.take (i * 8) ++ encP r ++ ROW.toList.drop (i * 8 + (encP r).length) := ⟨_, rfl⟩
  rw [← hc1] at hcpA
  have hc1l : c1.length = G * 8 := by
    rw [hc1]
    simp only [List.length_append, List.length_take, List.length_drop, Array.length_toList, hRs, hRl]
    omega
  have hc1t : c1.take ((i + m) * 8) = flat encP (ps.take i) ++ encP r := by
    rw [hc1, hRt]
    rw [List.take_append_of_le_length (by simp only [List.length_append, hAl, hRl]; omega), List.take_of_length_le (by simp only [List.length_append, hAl, hRl]; omega)]
  obtain ⟨W2, hW2⟩ : ∃ W2, W2 = W1.setRow N c1.toArray := ⟨_, rfl⟩
  rw [← hW2] at hcpA
  have g2 : W2.heap[N]? = some (.cells c1.toArray 26 (0, 0)) := by rw [hW2]; exact setRow_heap W1 N ROW _ 26 _ g1
  have b2 : ∀ k, k < N → W2.heap[k]? = w.heap[k]? := fun k hk => by rw [hW2, setRow_other W1 N k _ (by omega)]; exact b1 k hk
  have s2 : W2.heap.size = N + 1 := by rw [hW2]; simpa using s1
  have hcpB0 := fun dc sc => run_copy_rowS (P := Try.prog) W2.drew 94 94 3 26 N ((i + m) * 8) (n + m - (i + m)) dc ⟨g, i * 8, none⟩ (n - i) sc 8 c1.toArray 26 (flat encP (ps.drop i)) hui hsz g2
      (by rw [hD]; congr 1; have : Nat.min (n - i) (n + m - (i + m)) = n - i := Nat.min_eq_left (by omega); omega) (fun j u hj => by
        rw [add8]
        have h2 := hcellw (i * 8 + j) u (by rw [← flat_drop ps i (by omega), List.getElem?_drop] at hj; exact hj)
        simp only [World.cell?] at h2 ⊢
        rw [show W2.drew.heap[g]? = w.heap[g]? from b2 g (by omega)]
        exact h2) (by rw [hD]; simp only [List.size_toArray, hc1l]; omega) (flat_oneCell _ (fun p hp => hone p (List.mem_of_mem_drop hp)))
  obtain ⟨c2, hc2⟩ : ∃ c2, c2 = c1.take ((i + m) * 8) ++ flat encP (ps.drop i) ++ c1.drop ((i + m) * 8 + (flat encP (ps.drop i)).length) := ⟨_, rfl⟩
  simp only [← hc2] at hcpB0
  obtain ⟨W3, hW3⟩ : ∃ W3, W3 = W2.drew.setRow N c2.toArray := ⟨_, rfl⟩
  rw [← hW3] at hcpB0
  have g3 : W3.heap[N]? = some (.cells c2.toArray 26 (0, 0)) := by rw [hW3]; exact setRow_heap W2.drew N c1.toArray _ 26 _ g2
  have b3 : ∀ k, k < N → W3.heap[k]? = w.heap[k]? := fun k hk => by rw [hW3, setRow_other W2.drew N k _ (by omega)]; exact b2 k hk
  have s3 : W3.heap.size = N + 1 := by rw [hW3]; simpa using s2
  have hfin : W3.ownsRow base 26 8 (.slice (some ⟨N, 0, none⟩) (n + m) G) (n + m) (flat encP (ps.take i ++ [r] ++ ps.drop i)) ∧ w.grownBy W3 (some g) := by
    refine ⟨⟨?_, .inr ⟨N, G, c2.toArray, rfl, by rw [hN]; exact hbase, g3, hGn, hGm, ?_, ?_⟩⟩, ⟨?_, ?_, ?_, by omega, fun k hk _ => b3 k (by omega)⟩⟩
    · rw [flat_len encP_len, ins_len ps r i (by omega)]; omega
    · rw [hc2, hc1t]
      simp only [List.size_toArray, List.length_append, List.length_drop, hc1l, hD, hRl, hAl]
      omega
    · rw [flat_ins, hc2, hc1t]
      exact take_of_parts (by rw [hAl, hRl, hD]; omega)
    · rw [hW3, hW2, hW1]; rfl
    · rw [hW3, hW2, hW1]; rfl
    · rw [hW3, hW2, hW1]; rfl
  have hz1 : ¬ ((m : Int) = 0) := by omega
  have hz2 : ¬ ((i : Int) = (n : Int)) := by omega
  have hz3 : (cap : Int) < (n : Int) + (m : Int) := by omega
  have hw1 : IntKind.i64.wrap ((i : Int) + (m : Int)) = (i : Int) + (m : Int) := by rw [IntKind.wrap_i64]; omega
  have hw2 : IntKind.i64.wrap ((n : Int) + (m : Int)) = (n : Int) + (m : Int) := by rw [IntKind.wrap_i64]; omega
  have hw3 : IntKind.i64.wrap ((n : Int) + (m : Int) - (i : Int)) = (n : Int) + (m : Int) - (i : Int) := by rw [IntKind.wrap_i64]; omega
  have hb1 : (0 : Int) ≤ (i : Int) + (m : Int) := by omega
  have hin : i ≤ n := by omega
  have htn : ((i : Int) + (m : Int)).toNat = i + m := by omega
  have hb3 : (i : Int) ≤ (n : Int) := by omega
  have hGi : ¬ (G = i) := by omega
  have hGim : ¬ (G = i + m) := by omega
  have hci : ¬ (cap = i) := by omega
  have hG63 : G ≤ 9223372036854775807 := by unfold maxLen at hGm; omega
  have HD := hide hfin
  have HA := hide hrz
  have HC1 := hide hcpA
  have HC2 := hide hcpB0
  have mixed : Try.prog.follows .mixedOrders = true := by kernel_rfl
  clear hfin hrz hcpA hcpB0 hrz0 g1 g2 g3 b1 b2 b3 s1 s2 s3 hW1 hW2 hW3 hc1 hc2 hc1l hc1t hROW hRs hRt hold hcellw hkk hik hN hG hGm hD hAl hRl hnl htk hcs hg hrow hvb hone hr1 hsz hi0 hz0 hzs hzb hm hnp
  go_enter Try.func110, Try.ntmps110
  go_wp2_with (first
    | (at_builtin; refine Lib.wpList_append_run _ rfl _ _ _ _ rfl _ _ rfl rfl _ _ (HA.out _) ?_)
    | (refine wpList_copy_runI _ rfl _ _ 94 43 rfl (.slice (some ⟨N, i * 8, none⟩) (n + m - i) (G - i)) (.slice (some ⟨vb, 0, none⟩) m 1) rfl rfl (HC1.out 3 (G - i)) ?_))
  go_region_law_o (refine step_copy_runI rfl _ _ 94 94 rfl (.slice (some ⟨N, (i + m) * 8, none⟩) (n + m - (i + m)) (G - (i + m))) (.slice (some ⟨g, i * 8, none⟩) (n - i) (cap - i)) (by simp [Act.eval, Act.put]) (by simp [Act.eval, Act.put]) (HC2.out (G - (i + m)) (cap - i)) ?_)
  go_wp2
  go_ret
  exact ⟨_, rfl, HD.out⟩

end Go.Proofs.Ytohjphhocdgpgaa
namespace Go.Proofs.Ytohjphhocdgpgaa
open Go.RowKit

def sameKeyB (x y : RecD) : Bool := x.area == y.area && x.kind == y.kind && x.owner == y.owner && x.key == y.key

def sameBodyB (x y : RecD) : Bool := sameKeyB x y && x.cost == y.cost && x.far == y.far && decide (x.near = y.near)

set_option maxRecDepth 100000 in
set_option maxHeartbeats 4000000 in
theorem ssameKey_any (v1 v2 : Value) (x y : RecD) (w : World) : Calls Try.prog 31 #[.agg (recC x v1), .agg (recC y v2)] w fun e w' => e = .returned (.bool (sameKeyB x y)) ∧ Below w.heap.size w w' := by
  obtain ⟨a0, a1, a2, a3, a4, ns, a6, a7⟩ := x
  obtain ⟨b0, b1, b2, b3, b4, ms, b6, b7⟩ := y
  unfold recC
  simp only []
  go_enter Try.func31, Try.ntmps31
  go_wp2
  all_goals go_ret
  all_goals refine ⟨ret_bool ?_, below_two _ _⟩
  all_goals (simp only [sameKeyB]; grind)

theorem near_neq (w : World) (a b a' b' : Int) : (binOp .neq 67 (.agg #[.int .i64 a, .int .i64 b]) (.agg #[.int .i64 a', .int .i64 b'])).run Try.prog w = .ok (.bool (!decide ((⟨a, b⟩ : Nr) = ⟨a', b'⟩))) w := by
  go_simp
  by_cases h1 : a = a' <;> by_cases h2 : b = b' <;> simp [h1, h2]

set_option maxRecDepth 100000 in
set_option maxHeartbeats 4000000 in
theorem ssameBody_any (v1 v2 : Value) (x y : RecD) (w : World) (h1 : RecAt w v1 x w.heap.size) (h2 : RecAt w v2 y w.heap.size) (hl : x.near.length ≤ 1048576) (hm : y.near.length ≤ 9223372036854775807) :
    Calls Try.prog 28 #[v1, v2] w fun e w' => e = .returned (.bool (sameBodyB x y)) ∧ Below w.heap.size w w' := by
  obtain ⟨u1, rfl, k1⟩ := h1
  obtain ⟨u2, rfl, k2⟩ := h2
  obtain ⟨p1, c1, rfl⟩ := k1.shape
  obtain ⟨p2, c2, rfl⟩ := k2.shape
  have HSK := hide (ssameKey_any (.slice p1 x.near.length c1) (.slice p2 y.near.length c2) x y)
  obtain ⟨q, hq⟩ : ∃ q, q = sameKeyB x y := ⟨_, rfl⟩
  rw [← hq] at HSK
  have hB : sameBodyB x y = (q && x.cost == y.cost && x.far == y.far && decide (x.near = y.near)) := by rw [hq]; rfl
  rw [hB]
  clear hB hq
  obtain ⟨a0, a1, a2, a3, a4, ns, a6, a7⟩ := x
  obtain ⟨b0, b1, b2, b3, b4, ms, b6, b7⟩ := y
  unfold recC at HSK ⊢
  simp only [] at HSK k1 k2 hl hm ⊢
  have K1 := hide k1
  have K2 := hide k2
  clear k1 k2
  have hn0 := heap_alloc_new w (.cells #[.int .i64 a0, .int .i64 a1, .int .i64 a2, .int .i64 a3, .int .i64 a4, .slice p1 ns.length c1, .int .i64 a6, .bool a7] 26)
  go_enter Try.func28, Try.ntmps28
  go_wp2_with fail
  refine (HSK.out _).mono ?_
  rintro e w1 ⟨rfl, bb1⟩
  have bw1 : Below w.heap.size w w1 := (below_two _ _).trans (bb1.mono (by simp; omega))
  have hw0 : w1.heap[w.heap.size]? = some (.cells #[.int .i64 a0, .int .i64 a1, .int .i64 a2, .int .i64 a3, .int .i64 a4, .slice p1 ns.length c1, .int .i64 a6, .bool a7] 26) := by
    rw [bb1.block _ (by simp; omega), Below.heap_alloc _ _ _ (by simp), heap_alloc_new]
  have hw1 : w1.heap[w.heap.size + 1]? = some (.cells #[.int .i64 b0, .int .i64 b1, .int .i64 b2, .int .i64 b3, .int .i64 b4, .slice p2 ms.length c2, .int .i64 b6, .bool b7] 26) := by
    rw [bb1.block _ (by simp)]
    have := heap_alloc_new (w.alloc (.cells #[.int .i64 a0, .int .i64 a1, .int .i64 a2, .int .i64 a3, .int .i64 a4, .slice p1 ns.length c1, .int .i64 a6, .bool a7] 26)) (.cells #[.int .i64 b0, .int .i64 b1, .int .i64 b2, .int .i64 b3, .int .i64 b4, .slice p2 ms.length c2, .int .i64 b6, .bool b7] 26)
    simpa using this
  have s5 := cells_at hw0 5
  have s6 := cells_at hw0 6
  have s7 := cells_at hw0 7
  have t5 := cells_at hw1 5
  have t6 := cells_at hw1 6
  have t7 := cells_at hw1 7
  simp at s5 s6 s7 t5 t6 t7
  have HW0 := hide hw0
  have HW1 := hide hw1
  clear bb1 hw0 hw1 hn0
  cases q
  · go_wp2
    go_ret
    exact ⟨by simp, bw1⟩
  by_cases h6 : a6 = b6
  case neg =>
    have hd : (a6 != b6) = true := by simpa using h6
    have he : (a6 == b6) = false := by simpa using h6
    have HE := hide he
    clear he
    go_wp2
    go_ret
    exact ⟨ret_bool (by rw [HE.out]; simp), bw1⟩
  subst h6
  by_cases h7 : a7 = b7
  case neg =>
    have hd : (a7 != b7) = true := by simpa using h7
    have he : (a7 == b7) = false := by simpa using h7
    have HE := hide he
    clear he
    go_wp2
    go_ret
    exact ⟨ret_bool (by rw [HE.out]; simp), bw1⟩
  subst h7
  by_cases hln : ns.length = ms.length
  case neg =>
    have hd : ((ns.length : Int) != (ms.length : Int)) = true := by simp; omega
    have he : decide (ns = ms) = false := decide_eq_false (fun h => hln (by rw [h]))
    have HE := hide he
    clear he
    go_wp2
    go_ret
    exact ⟨ret_bool (by rw [HE.out]; simp), bw1⟩
  have HLN := hide hln
  have hln2 : (ms.length : Int) = (ns.length : Int) := by omega
  clear hln hm
  go_wp2
  clear hln2
  go_loopw [5] (fun i wr => ∃ k : Nat, k ≤ ns.length ∧ i = .int .i64 k ∧ (∀ j, j < k → ns[j]? = ms[j]?) ∧ Below w.heap.size w wr ∧ wr.heap[w.heap.size]? = some (.cells #[.int .i64 a0, .int .i64 a1, .int .i64 a2, .int .i64 a3, .int .i64 a4, .slice p1 ns.length c1, .int .i64 a6, .bool a7] 26) ∧ wr.heap[w.heap.size + 1]? = some (.cells #[.int .i64 b0, .int .i64 b1, .int .i64 b2, .int .i64 b3, .int .i64 b4, .slice p2 ms.length c2, .int .i64 a6, .bool a7] 26)) (fun i _ => ns.length - (intOf i).toNat)
  case atStart => exact ⟨0, by omega, rfl, by omega, bw1, HW0.out, HW1.out⟩
  case round =>
    clear s5 s6 s7 t5 t6 t7 HW0 HW1 bw1
    obtain ⟨k, hk, rfl, hall, hb, hx, hy⟩ := hrel
    have s5 := cells_at hx 5
    have t5 := cells_at hy 5
    simp at s5 t5
    have HX := hide hx
    have HY := hide hy
    have HALL := hide hall
    clear hx hy hall
    by_cases hlt : k < ns.length
    · obtain ⟨x, hx⟩ : ∃ l, ns[k]? = some l := ⟨ns[k], List.getElem?_eq_getElem hlt⟩
      obtain ⟨y, hy⟩ : ∃ l, ms[k]? = some l := ⟨ms[k]'(by have := HLN.out; omega), List.getElem?_eq_getElem _⟩
      obtain ⟨d1, o1, cp1, hv1, hd1, f0, f1⟩ := K1.out.cells k x hx
      obtain ⟨d2, o2, cp2, hv2, hd2, g0, g1⟩ := K2.out.cells k y hy
      cases hv1
      cases hv2
      rw [← hb.cell (p := ⟨d1, o1 + k * 2, none⟩) hd1] at f0
      rw [← hb.cell (p := ⟨d1, o1 + k * 2 + 1, none⟩) hd1] at f1
      rw [← hb.cell (p := ⟨d2, o2 + k * 2, none⟩) hd2] at g0
      rw [← hb.cell (p := ⟨d2, o2 + k * 2 + 1, none⟩) hd2] at g1
      have hki : (0 : Int) ≤ (k : Int) := by omega
      have hkj : (k : Int) < (ns.length : Int) := by omega
      have hkm : (k : Int) < (ms.length : Int) := by have := HLN.out; omega
      have e0 := fun W => near_neq W x.to x.c y.to y.c
      have HXX := hide hx
      have HYY := hide hy
      clear hx hy
      by_cases hxy : (⟨x.to, x.c⟩ : Nr) = ⟨y.to, y.c⟩
      · rw [decide_eq_true hxy] at e0
        have HXY := hide hxy
        clear hxy
        go_wp2
        go_quiet (fail)
        go_wp2
        go_roundw
        case rel => exact ⟨k + 1, by omega, by go_num, (fun j hj => by
          by_cases e : j = k
          · subst e; rw [HXX.out, HYY.out]; exact congrArg some HXY.out
          · exact HALL.out j (by omega)), ⟨hb.os, hb.tape, hb.output, hb.size, hb.block⟩, HX.out, HY.out⟩
        case measure => simp [intOf]; omega
      · rw [decide_eq_false hxy] at e0
        have he : decide (ns = ms) = false := decide_eq_false (fun h => hxy (by
          subst h
          have := HXX.out.symm.trans HYY.out
          exact Option.some.inj this))
        have HE := hide he
        clear hxy he
        go_wp2
        go_quiet (fail)
        go_wp2
        go_ret
        exact ⟨ret_bool (by rw [HE.out]; simp), ⟨hb.os, hb.tape, hb.output, hb.size, hb.block⟩⟩
    · have he : decide (ns = ms) = true := decide_eq_true (eq_all HLN.out (by have : k = ns.length := by omega
                                                                              rw [← this]; exact HALL.out))
      have HE := hide he
      clear he
      go_wp2
      go_ret
      exact ⟨ret_bool (by rw [HE.out]; simp), hb⟩
end Go.Proofs.Ytohjphhocdgpgaa
