/-
  laws.markRecordS, heldRecordS: only the list's own memory turns; what was marked is held.
-/
import Derived.Test.YthgihhngddhejaaRowsL
namespace Go.Proofs.Ythgihhngddhejaa
open Go.RowKit

/-- the numbers of a record that is marked from c on -/
def mkR (c : Int) (p : RP) : RP := (⟨c, c + 1, c + 1 + 1, c + 1 + 1 + 1, c + 1 + 1 + 1 + 1, marks (c + 1 + 1 + 1 + 1 + 1) p.1.near.length, c + 1 + 1 + 1 + 1 + 1 + 2 * (p.1.near.length : Int), (c + 1 + 1 + 1 + 1 + 1 + 2 * (p.1.near.length : Int) + 1) % 3 == 0⟩, p.2)

def nxR (c : Int) (p : RP) : Int := c + 1 + 1 + 1 + 1 + 1 + 2 * (p.1.near.length : Int) + 1 + 1

def mkL : Int → List RP → List RP
  | _, [] => []
  | c, p :: ps => mkR c p :: mkL (nxR c p) ps

def mkE : Int → List RP → Int
  | c, [] => c
  | c, p :: ps => mkE (nxR c p) ps

theorem mkL_len (c : Int) (ps : List RP) : (mkL c ps).length = ps.length := by
  induction ps generalizing c with
  | nil => rfl
  | cons p ps ih => simp [mkL, ih]

theorem mkE_append (c : Int) (a b : List RP) : mkE c (a ++ b) = mkE (mkE c a) b := by
  induction a generalizing c with
  | nil => rfl
  | cons p a ih => exact ih _

theorem mkL_append (c : Int) (a b : List RP) : mkL c (a ++ b) = mkL c a ++ mkL (mkE c a) b := by
  induction a generalizing c with
  | nil => rfl
  | cons p a ih => simp only [List.cons_append, mkL, mkE, ih]

theorem mkE_step {ps : List RP} {k : Nat} {p : RP} (c : Int) (h : ps[k]? = some p) : mkE c (ps.take (k + 1)) = nxR (mkE c (ps.take k)) p := by
  obtain ⟨hk, e⟩ := List.getElem?_eq_some_iff.1 h
  rw [List.take_succ_eq_append_getElem hk, mkE_append, e]
  rfl

theorem mkL_step {ps : List RP} {k : Nat} {p : RP} (c : Int) (h : ps[k]? = some p) : mkL c (ps.take (k + 1)) = mkL c (ps.take k) ++ [mkR (mkE c (ps.take k)) p] := by
  obtain ⟨hk, e⟩ := List.getElem?_eq_some_iff.1 h
  rw [List.take_succ_eq_append_getElem hk, mkL_append, e]
  rfl

theorem mkE_tot (c : Int) (ps : List RP) : c + 2 * (tot ps : Int) ≤ mkE c ps ∧ mkE c ps ≤ c + 7 * (tot ps : Int) := by
  induction ps generalizing c with
  | nil => simp [mkE, tot]
  | cons p ps ih =>
    have h := ih (nxR c p)
    rw [tot_cons]
    simp only [mkE]
    unfold nxR at h ⊢
    omega

theorem tot_takeLe (ps : List RP) (k : Nat) : tot (ps.take k) ≤ tot ps := by
  have h := tot_append (ps.take k) (ps.drop k)
  rw [List.take_append_drop] at h
  omega

theorem mkL_at {ps : List RP} {k : Nat} {p : RP} (c : Int) (h : ps[k]? = some p) : (mkL c ps)[k]? = some (mkR (mkE c (ps.take k)) p) := by
  obtain ⟨hk, e⟩ := List.getElem?_eq_some_iff.1 h
  have e2 : ps = ps.take k ++ (p :: ps.drop (k + 1)) := by
    rw [← e]
    simp
  have e3 : mkL c ps = mkL c (ps.take k) ++ (mkR (mkE c (ps.take k)) p :: mkL (nxR (mkE c (ps.take k)) p) (ps.drop (k + 1))) := by
    conv => lhs; rw [e2]
    rw [mkL_append]
    rfl
  rw [e3, List.getElem?_append_right (by rw [mkL_len, List.length_take]; omega), mkL_len, List.length_take, Nat.min_eq_left (by omega), Nat.sub_self]
  rfl

theorem apart_snd (ps : List RP) : ps.Pairwise Apart ↔ (ps.map (·.2)).Pairwise (fun a b : Value => ∀ k, a.ownBlock = some k → b.ownBlock ≠ some k) := by
  rw [List.pairwise_map]
  exact Iff.rfl

theorem apart_at {ps : List RP} (h : ps.Pairwise Apart) {i k : Nat} {p q : RP} (hi : ps[i]? = some p) (hk : ps[k]? = some q) (hne : i ≠ k) : Apart p q := by
  obtain ⟨h1, e1⟩ := List.getElem?_eq_some_iff.1 hi
  obtain ⟨h2, e2⟩ := List.getElem?_eq_some_iff.1 hk
  rw [List.pairwise_iff_getElem] at h
  rcases Nat.lt_or_ge i k with hl | hl
  · have := h i k h1 h2 hl
    rw [e1, e2] at this
    exact this
  · have := h k i h2 h1 (by omega)
    rw [e1, e2] at this
    exact fun j hj he => this j he hj

theorem set_snd {ps : List RP} {k : Nat} {p q : RP} (hk : ps[k]? = some p) (h : q.2 = p.2) : (ps.set k q).map (·.2) = ps.map (·.2) := by
  apply List.ext_getElem?
  intro i
  by_cases e : i = k
  · subst e
    obtain ⟨h1, e1⟩ := List.getElem?_eq_some_iff.1 hk
    rw [List.getElem?_map, List.getElem?_set_self h1, List.getElem?_map, hk]
    simp [h]
  · simp [List.getElem?_set_ne (Ne.symm e)]

/-- one record turned within its list -/
theorem RecsOwn.turn {W W8 : World} {lo hi g n cap k : Nat} {xs : List RP} {p q : RP} (h : RecsOwn W lo hi (.slice (some ⟨g, 0, none⟩) n cap) xs) (hn : xs.length = n) (hk : xs[k]? = some p) (hq : q.2 = p.2)
    (row : W8.ownsRow lo 35 8 (.slice (some ⟨g, 0, none⟩) n cap) n (flat encP (xs.set k q))) (near : W8.ownsRow lo 41 2 q.2 q.1.near.length (flat nrE q.1.near))
    (hkeep : ∀ j, j < W.heap.size → j ≠ g → some j ≠ p.2.ownBlock → W8.heap[j]? = W.heap[j]?) : RecsOwn W8 lo hi (.slice (some ⟨g, 0, none⟩) n cap) (xs.set k q) where
  row := by rw [List.length_set, hn]; exact row
  top := h.top
  apart := by rw [apart_snd, set_snd hk hq, ← apart_snd]; exact h.apart
  nears := by
    intro r hr
    obtain ⟨i, hi, e⟩ := List.getElem_of_mem hr
    have hr2 : (xs.set k q)[i]? = some r := by rw [← e]; exact List.getElem?_eq_getElem hi
    by_cases ek : i = k
    · subst ek
      rw [List.getElem?_set_self (by simpa using hi)] at hr2
      cases hr2
      refine ⟨near, ?_⟩
      rw [hq]
      exact (h.nears p (List.mem_of_getElem? hk)).2
    · rw [List.getElem?_set_ne (Ne.symm ek)] at hr2
      have ho := h.nears r (List.mem_of_getElem? hr2)
      refine ⟨owns_keepB ho.1 (fun j hj => ?_), ho.2⟩
      refine hkeep j (ho.1.lt j hj).2 ?_ ?_
      · rintro rfl
        obtain ⟨cur, hh⟩ : ∃ cur, W.heap[j]? = some (.cells cur 35 (0, 0)) := by
          rcases h.row.2 with ⟨h0, _⟩ | ⟨g', cap', cur', hv', _, hh', _⟩
          · cases h0
          · cases hv'; exact ⟨cur', hh'⟩
        rcases ho.1.2 with ⟨h0, _⟩ | ⟨g', cap', cur', hv', _, hh', _⟩
        · rw [h0] at hj; simp [Value.ownBlock] at hj
        · rw [hv'] at hj
          simp [Value.ownBlock] at hj
          subst hj
          rw [hh] at hh'
          simp at hh'
      · intro he
        exact apart_at h.apart hr2 hk ek j hj he.symm

theorem set7 {xs : List RP} {k : Nat} {p q : RP} (hk : xs[k]? = some p) (hq : q.2 = p.2) :
    ((((((((flat encP xs).set (k * 8) (.int .i64 q.1.area)).set (k * 8 + 1) (.int .i64 q.1.kind)).set (k * 8 + 2) (.int .i64 q.1.owner)).set (k * 8 + 3) (.int .i64 q.1.key)).set (k * 8 + 4) (.int .i64 q.1.seq)).set (k * 8 + 6) (.int .i64 q.1.cost)).set (k * 8 + 7) (.bool q.1.far)) = flat encP (xs.set k q) := by
  obtain ⟨hlt, _⟩ := List.getElem?_eq_some_iff.1 hk
  have e : (((((((((flat encP xs).set (k * 8) (.int .i64 q.1.area)).set (k * 8 + 1) (.int .i64 q.1.kind)).set (k * 8 + 2) (.int .i64 q.1.owner)).set (k * 8 + 3) (.int .i64 q.1.key)).set (k * 8 + 4) (.int .i64 q.1.seq)).set (k * 8 + 5) q.2).set (k * 8 + 6) (.int .i64 q.1.cost)).set (k * 8 + 7) (.bool q.1.far)) = flat encP (xs.set k q) := flat_set encP_len xs k q hlt
  rw [← e]
  congr 2
  have h5 : ((((((flat encP xs).set (k * 8) (.int .i64 q.1.area)).set (k * 8 + 1) (.int .i64 q.1.kind)).set (k * 8 + 2) (.int .i64 q.1.owner)).set (k * 8 + 3) (.int .i64 q.1.key)).set (k * 8 + 4) (.int .i64 q.1.seq))[k * 8 + 5]? = some q.2 := by
    rw [List.getElem?_set_ne (by omega), List.getElem?_set_ne (by omega), List.getElem?_set_ne (by omega), List.getElem?_set_ne (by omega), List.getElem?_set_ne (by omega), flat_get encP_len xs k 5 p hk (by omega), hq]
    rfl
  obtain ⟨h6, e6⟩ := List.getElem?_eq_some_iff.1 h5
  rw [← e6]
  exact (List.set_getElem_self h6).symm

theorem own_type_ne2 {W : World} {base size n z : Nat} {e t : TypeId} {v : Value} {xs : List Value} {C : Array Value} {fr : Nat × Nat} (ho : W.ownsRow base e size v n xs) (h : W.heap[z]? = some (.cells C t fr)) (hne : e ≠ t) : some z ≠ v.ownBlock := by
  intro eq
  rcases ho.2 with ⟨h1, _⟩ | ⟨g', cap', cur', hv', _, hh', _⟩
  · rw [h1] at eq; simp [Value.ownBlock] at eq
  · rw [hv'] at eq
    simp [Value.ownBlock] at eq
    subst eq
    rw [h] at hh'
    simp at hh'
    exact hne hh'.2.1.symm

abbrev set5 (W : World) (g o : Nat) (z : Int) : World := ((((W.setCell ⟨g, o, none⟩ (.int .i64 z)).setCell ⟨g, o + 1, none⟩ (.int .i64 (z + 1))).setCell ⟨g, o + 2, none⟩ (.int .i64 (z + 1 + 1))).setCell ⟨g, o + 3, none⟩ (.int .i64 (z + 1 + 1 + 1))).setCell ⟨g, o + 4, none⟩ (.int .i64 (z + 1 + 1 + 1 + 1))

theorem set5_grown (W : World) (g o : Nat) (z : Int) : W.grownBy (set5 W g o z) (some g) :=
  grown_trans (grown_trans (grown_trans (grown_trans (grown_set W g _ _) (grown_set _ g _ _)) (grown_set _ g _ _)) (grown_set _ g _ _)) (grown_set _ g _ _)

end Go.Proofs.Ythgihhngddhejaa
