/-
  impl's put: a record put into a list in order.
-/
import Derived.Test.YtdaigojpeofmpaaInsB
import Derived.Test.YtdaigojpeofmpaaPutMath
namespace Go.Proofs.Ytdaigojpeofmpaa
open Go.RowKit

set_option linter.unusedSimpArgs false

theorem near_one {W : World} {lo hi : Nat} {r : RP} (h : NearOwn W lo hi r) : ∀ u ∈ encP r, u.oneCell' = true := by
  obtain ⟨a, c, e⟩ := owns_lenS h.1
  obtain ⟨x, v⟩ := r
  simp only at e
  subst e
  exact encP_one x a _ c

theorem insert_any (lo i vb : Nat) (v : Value) (ps : List RP) (r : RP) (w : World) (hv : RecsOwn w lo w.heap.size v ps) (hlo : lo ≤ w.heap.size) (hi : i ≤ ps.length) (hn : ps.length ≤ 1048576) (hvb : w.heap[vb]? = some (.cells (encP r).toArray 56 (0, 0))) (hne : some vb ≠ v.ownBlock) (hr1 : ∀ u ∈ encP r, u.oneCell' = true) :
    Calls Try.prog 103 #[v, .int .i64 (i : Int), .slice (some ⟨vb, 0, none⟩) 1 1] w fun e w' => ∃ v', e = .returned v' ∧ w'.ownsRow lo 56 8 v' (ps.length + 1) (flat encP (ps.take i ++ [r] ++ ps.drop i)) ∧ GrownV w w' v.ownBlock v' := by
  by_cases he : i = ps.length
  · rw [he]
    exact ins_end lo ps.length 1 vb v ps r w rfl rfl hlo hn hv.row hvb hr1
  · have hone : ∀ p ∈ ps, ∃ a k c, p.2 = .slice a k c := fun p hp => by
      obtain ⟨a, c, e⟩ := owns_lenS (hv.nears p hp).1
      exact ⟨a, _, c, e⟩
    rcases hv.row.2 with ⟨_, h0⟩ | ⟨g, cap, cur, hve, _⟩
    · omega
    · subst hve
      have hne2 : vb ≠ g := fun e => hne (by rw [e]; rfl)
      by_cases hroom : ps.length + 1 ≤ cap
      · exact ins_shift lo g cap ps.length 1 i vb ps r w rfl rfl hv.row (by omega) hroom hvb hne2 hone hr1
      · exact ins_grow lo g cap ps.length 1 i vb ps r w rfl rfl hlo hn hv.row (by omega) (by omega) hvb hone hr1

theorem Apart.symm {p q : RP} (h : Apart p q) : Apart q p := fun k hk hp => h k hp hk

theorem nears_kept {W W2 : World} {lo : Nat} {v : Value} {ps : List RP} (h : RecsOwn W lo W.heap.size v ps) (hg : W.grownBy W2 v.ownBlock) {q : RP} (hq : NearOwn W lo W.heap.size q) : NearOwn W2 lo W2.heap.size q :=
  ⟨owns_keepB hq.1 (fun j hj => hg.block j (hq.2 j hj) (near_row_ne hq h.row j hj)), fun k hk => Nat.lt_of_lt_of_le (hq.2 k hk) hg.size⟩

theorem RecsOwn.ins {W W2 : World} {lo i : Nat} {v v' : Value} {ps : List RP} {r : RP} (h : RecsOwn W lo W.heap.size v ps) (hr : NearOwn W lo W.heap.size r) (hap : ∀ p ∈ ps, Apart p r) (hi : i ≤ ps.length)
    (row : W2.ownsRow lo 56 8 v' (ps.length + 1) (flat encP (ps.take i ++ [r] ++ ps.drop i))) (hg : W.grownBy W2 v.ownBlock) : RecsOwn W2 lo W2.heap.size v' (ps.take i ++ [r] ++ ps.drop i) where
  row := by rw [ins_len ps r i hi]; exact row
  top := fun k hk => (row.lt k hk).2
  nears := by
    intro q hq
    refine nears_kept h hg ?_
    rcases List.mem_append.1 hq with h1 | h1
    · rcases List.mem_append.1 h1 with h2 | h2
      · exact h.nears q (List.mem_of_mem_take h2)
      · have : q = r := by simpa using h2
        subst this
        exact hr
    · exact h.nears q (List.mem_of_mem_drop h1)
  apart := by
    have hp := h.apart
    rw [← List.take_append_drop i ps, List.pairwise_append] at hp
    rw [List.append_assoc, List.pairwise_append]
    refine ⟨hp.1, ?_, ?_⟩
    · rw [List.pairwise_append]
      refine ⟨by simp, hp.2.1, ?_⟩
      intro a ha b hb
      have : a = r := by simpa using ha
      subst this
      exact (hap b (List.mem_of_mem_drop hb)).symm
    · intro a ha b hb
      rcases List.mem_append.1 hb with h1 | h1
      · have : b = r := by simpa using h1
        subst this
        exact hap a (List.mem_of_mem_take ha)
      · exact hp.2.2 a ha b h1

theorem RecsOwn.put {W : World} {lo i g cap n : Nat} {ps : List RP} {r : RP} (h : RecsOwn W lo W.heap.size (.slice (some ⟨g, 0, none⟩) n cap) ps) (hn : n = ps.length) (hr : NearOwn W lo W.heap.size r) (hap : ∀ p ∈ ps, Apart p r) (hi : i < ps.length) : RecsOwn (putP W g (i * 8) r) lo (putP W g (i * 8) r).heap.size (.slice (some ⟨g, 0, none⟩) n cap) (ps.set i r) := by
  subst hn
  have hst := putP_owns (p := r) h.row hi
  have hg : W.grownBy (putP W g (i * 8) r) (Value.slice (some ⟨g, 0, none⟩) ps.length cap).ownBlock := putP_grown W g (i * 8) r
  refine ⟨by simpa using hst, fun k hk => (hst.lt k hk).2, ?_, ?_⟩
  · intro q hq
    refine nears_kept h hg ?_
    rcases List.mem_or_eq_of_mem_set hq with h1 | h1
    · exact h.nears q h1
    · subst h1; exact hr
  · have hp := h.apart
    rw [List.pairwise_iff_getElem] at hp ⊢
    intro a b ha hb hab
    simp only [List.length_set] at ha hb
    rw [List.getElem_set, List.getElem_set]
    by_cases e1 : i = a
    · rw [if_pos e1, if_neg (by omega)]
      exact (hap _ (List.getElem_mem hb)).symm
    · rw [if_neg e1]
      by_cases e2 : i = b
      · rw [if_pos e2]
        exact hap _ (List.getElem_mem ha)
      · rw [if_neg e2]
        exact hp a b ha hb hab

theorem fsts_take (ps : List RP) (i : Nat) : fsts (ps.take i) = (fsts ps).take i := by simp [fsts]
theorem fsts_drop (ps : List RP) (i : Nat) : fsts (ps.drop i) = (fsts ps).drop i := by simp [fsts]
theorem fsts_ins (ps : List RP) (r : RP) (i : Nat) : fsts (ps.take i ++ [r] ++ ps.drop i) = (fsts ps).take i ++ [r.1] ++ (fsts ps).drop i := by simp [fsts]
theorem fsts_set (ps : List RP) (r : RP) (i : Nat) : fsts (ps.set i r) = (fsts ps).set i r.1 := by simp [fsts, List.map_set]

/-- what putting a record into a list turns: the list's own row alone; the new one is that row or a new one, with the rows of Near that there were -/
structure PutFine (v : Value) (ps : List RP) (r : RP) (w w' : World) (x : Value) (qs : List RP) : Prop where
  keep : ∀ k, k < w.heap.size → v.ownBlock ≠ some k → w'.heap[k]? = w.heap[k]?
  row : ∀ k, x.ownBlock = some k → v.ownBlock = some k ∨ w.heap.size ≤ k
  near : ∀ q ∈ qs, q ∈ ps ∨ q.2 = r.2

set_option maxRecDepth 100000 in
set_option maxHeartbeats 4000000 in
theorem iput_fine (v : Value) (ps : List RP) (lo : Nat) (r : RP) (w : World) (hv : RecsOwn w lo w.heap.size v ps) (hlo : lo ≤ w.heap.size) (hn : tot ps ≤ 1048576) (hasc : Asc (fsts ps)) (hr : NearOwn w lo w.heap.size r) (hap : ∀ p ∈ ps, Apart p r) :
    Calls Try.prog 80 #[v, .agg (recC r.1 r.2)] w fun e w' => ∃ x qs, e = .returned x ∧ fsts qs = putD (fsts ps) r.1 ∧ RecsOwn w' lo w'.heap.size x qs ∧ Below lo w w' ∧ PutFine v ps r w w' x qs := by
  have hnl := tot_len ps
  have hfl : (fsts ps).length = ps.length := by simp [fsts]
  obtain ⟨a1, c1, hve⟩ := owns_lenS hv.row
  obtain ⟨ra, rc, hrn⟩ := owns_lenS hr.1
  have BX : Below w.heap.size w (w.alloc (.cells #[.int .i64 r.1.area, .int .i64 r.1.kind, .int .i64 r.1.owner, .int .i64 r.1.key, .int .i64 r.1.seq, .slice ra r.1.near.length rc, .int .i64 r.1.cost, .bool r.1.far] 56)) := (Below.refl _ _).alloc (Nat.le_refl _) _
  have hx := heap_alloc_new w (.cells #[.int .i64 r.1.area, .int .i64 r.1.kind, .int .i64 r.1.owner, .int .i64 r.1.key, .int .i64 r.1.seq, .slice ra r.1.near.length rc, .int .i64 r.1.cost, .bool r.1.far] 56)
  obtain ⟨w0, hw0⟩ : ∃ w0, w0 = w.alloc (.cells #[.int .i64 r.1.area, .int .i64 r.1.kind, .int .i64 r.1.owner, .int .i64 r.1.key, .int .i64 r.1.seq, .slice ra r.1.near.length rc, .int .i64 r.1.cost, .bool r.1.far] 56) := ⟨_, rfl⟩
  rw [← hw0] at BX hx
  have hs0 := lt_of_heap hx
  have hv0 := hv.below BX (Nat.le_refl _)
  have hr0 := hr.keep (W' := w0) (fun k _ _ h3 => BX.block k h3)
  have HS := search_any v ps w.heap.size r w0 hv0.in BX.size hn (hr0.wide (Nat.zero_le _) (Nat.le_refl _)) (by rw [← hfl]; exact asc_mono hasc r.1)
  have d0 := cells_at hx 0
  have d1 := cells_at hx 1
  have d2 := cells_at hx 2
  have d3 := cells_at hx 3
  have d4 := cells_at hx 4
  have d5 := cells_at hx 5
  have d6 := cells_at hx 6
  have d7 := cells_at hx 7
  simp at d0 d1 d2 d3 d4 d5 d6 d7
  have HV := hide hv0
  have HR := hide hr0
  have HA := hide hasc
  have HP := hide hap
  have H1 := hide hr
  have HFL := hide hfl
  have HRN := hide hrn
  have HVE := hide hve
  unfold recC at *
  rw [hrn] at HS ⊢
  subst hve
  have HSS := hide HS
  clear HS hv0 hr0 hasc hap hr hrn hv hfl
  go_enter Try.func80, Try.ntmps80
  go_wp2_with fail
  rw [← hw0]
  clear hw0
  refine HSS.out.mono ?_
  rintro e w1 ⟨i, f, rfl, hil, q1, q2, q3, b1⟩
  have b1s := b1.size
  have hx1 := (b1.block _ hs0).trans hx
  have B1 : Below w.heap.size w w1 := BX.trans (b1.mono BX.size)
  have hv1 := (HV.out.below b1 (by omega)).wide (Nat.le_refl _) (show w.heap.size ≤ w1.heap.size by omega)
  have hr1 := ((HR.out).keep (W' := w1) (fun k _ _ h3 => b1.block k h3)).wide (Nat.le_refl _) (show w.heap.size ≤ w1.heap.size by omega)
  have Q1 := hide q1
  have Q2 := hide q2
  have Q3 := hide q3
  clear q1 q2 q3 d0 d1 d2 d3 d4 d5 d6 d7 hx b1
  have d0 := cells_at hx1 0
  have d1 := cells_at hx1 1
  have d2 := cells_at hx1 2
  have d3 := cells_at hx1 3
  have d4 := cells_at hx1 4
  have d5 := cells_at hx1 5
  have d6 := cells_at hx1 6
  have d7 := cells_at hx1 7
  simp at d0 d1 d2 d3 d4 d5 d6 d7
  have hii : (0 : Int) ≤ (i : Int) := by omega
  cases f with
  | true =>
    have hil2 : i < ps.length := by
      obtain ⟨x, hx, _⟩ := Q3.out.1 rfl
      have := (List.getElem?_eq_some_iff.1 hx).1
      rw [HFL.out] at this
      exact this
    have hij : (i : Int) < (ps.length : Int) := by omega
    rcases hv1.row.2 with ⟨_, h0⟩ | ⟨g, cap, cur, hve, _⟩
    · omega
    · cases hve
      have hpr : r = (r.1, .slice ra r.1.near.length rc) := by rw [← HRN.out]
      have hfin := hv1.put (i := i) rfl hr1 HP.out hil2
      have hg := putP_grown w1 g (i * 8) r
      have hgl := hv1.row.lt g rfl
      have hB : Below lo w (putP w1 g (i * 8) r) := (B1.mono hlo).grown hg (by omega) (fun k hk => by simp at hk; omega)
      have hl : fsts (ps.set i r) = putD (fsts ps) r.1 := by
        obtain ⟨x, hx, h0⟩ := Q3.out.1 rfl
        obtain ⟨hi2, ex⟩ := List.getElem?_eq_some_iff.1 hx
        rw [fsts_set, putD_old HA.out hi2 Q1.out (by rw [HFL.out]; exact Q2.out) (by rw [ex]; exact h0)]
      obtain ⟨y0, f0⟩ := own_cell hv1.row (i * 8) (by omega)
      obtain ⟨y1, f1⟩ := own_cell hv1.row (i * 8 + 1) (by omega)
      obtain ⟨y2, f2⟩ := own_cell hv1.row (i * 8 + 2) (by omega)
      obtain ⟨y3, f3⟩ := own_cell hv1.row (i * 8 + 3) (by omega)
      obtain ⟨y4, f4⟩ := own_cell hv1.row (i * 8 + 4) (by omega)
      obtain ⟨y5, f5⟩ := own_cell hv1.row (i * 8 + 5) (by omega)
      obtain ⟨y6, f6⟩ := own_cell hv1.row (i * 8 + 6) (by omega)
      obtain ⟨y7, f7⟩ := own_cell hv1.row (i * 8 + 7) (by omega)
      have fz := fun j => hv1.row.frozenAt j
      have hne : g ≠ w.heap.size := by
        intro e
        have h5 := HV.out.top g rfl
        omega
      have hpf : ∀ r' : RP, r' = r → PutFine (.slice (some ⟨g, 0, none⟩) ps.length c1) ps r w (putP w1 g (i * 8) r') (.slice (some ⟨g, 0, none⟩) ps.length c1) (ps.set i r') := by
        rintro r' rfl
        refine ⟨fun k h1 h2 => ?_, fun k hk => .inl hk, fun q hq => ?_⟩
        · rw [(putP_grown w1 g (i * 8) r').block k (by omega) (fun e => h2 e.symm)]
          exact B1.block k h1
        · rcases List.mem_or_eq_of_mem_set hq with h | h
          · exact .inl h
          · exact .inr (by rw [h])
      have HPF := hide (hpf _ hpr.symm)
      clear hpf
      rw [hpr] at hfin hB hl
      have HF := hide hfin
      have HB := hide hB
      have HL := hide hl
      clear hfin hB hl hpr hg hv1 hr1
      go_wp2
      go_ret
      first
        | exact ⟨_, ps.set i (r.1, .slice ra r.1.near.length rc), rfl, HL.out, HF.out, HB.out, HPF.out⟩
        | exact ⟨_, rfl, ps.set i (r.1, .slice ra r.1.near.length rc), HL.out, HF.out, HB.out, HPF.out⟩
  | false =>
    have hl : fsts (ps.take i ++ [r] ++ ps.drop i) = putD (fsts ps) r.1 := by
      rw [fsts_ins, putD_new HA.out (by rw [HFL.out]; exact hil) Q1.out (by rw [HFL.out]; exact Q2.out) (fun h => by have := Q3.out.2 h; cases this)]
    have HL := hide hl
    clear hl
    have BY : Below w1.heap.size w1 (w1.alloc (.cells #[.int .i64 r.1.area, .int .i64 r.1.kind, .int .i64 r.1.owner, .int .i64 r.1.key, .int .i64 r.1.seq, .slice ra r.1.near.length rc, .int .i64 r.1.cost, .bool r.1.far] 56)) := (Below.refl _ _).alloc (Nat.le_refl _) _
    have hy := heap_alloc_new w1 (.cells #[.int .i64 r.1.area, .int .i64 r.1.kind, .int .i64 r.1.owner, .int .i64 r.1.key, .int .i64 r.1.seq, .slice ra r.1.near.length rc, .int .i64 r.1.cost, .bool r.1.far] 56)
    obtain ⟨w2, hw2⟩ : ∃ w2, w2 = w1.alloc (.cells #[.int .i64 r.1.area, .int .i64 r.1.kind, .int .i64 r.1.owner, .int .i64 r.1.key, .int .i64 r.1.seq, .slice ra r.1.near.length rc, .int .i64 r.1.cost, .bool r.1.far] 56) := ⟨_, rfl⟩
    rw [← hw2] at BY hy
    have hv2 := (hv1.below BY (Nat.le_refl _)).wide (Nat.le_refl _) BY.size
    have hr2 := (hr1.keep (W' := w2) (fun k _ _ h3 => BY.block k h3)).wide (Nat.le_refl _) BY.size
    have HI := insert_any lo i w1.heap.size _ ps r w2 hv2 (by have := BY.size; omega) hil (by omega) (by
      rw [hy]
      unfold encP
      rw [HRN.out]) (fun e => by
        have h6 := hv1.top _ e.symm
        omega) (near_one hr2)
    have HII := hide HI
    have HV2 := hide hv2
    have HR2 := hide hr2
    have B2 : Below w.heap.size w w2 := B1.trans (BY.mono (by omega))
    have hb2 := BY.size
    clear HI hv1 hr1 hv2 hr2
    go_wp2_with fail
    rw [← hw2]
    clear hw2
    refine HII.out.mono ?_
    rintro e w3 ⟨x, rfl, hrow, hg, hgv⟩
    have hfin := HV2.out.ins HR2.out HP.out hil hrow hg
    have hB : Below lo w w3 := (B2.mono hlo).grown hg (by omega) (fun k hk => (HV2.out.row.lt k hk).1)
    obtain ⟨xa, xc, rfl⟩ := owns_lenS hrow
    have hpf : PutFine (.slice a1 ps.length c1) ps r w w3 (.slice xa (ps.length + 1) xc) (ps.take i ++ [r] ++ ps.drop i) := by
      refine ⟨fun k h1 h2 => ?_, fun k hk => ?_, fun q hq => ?_⟩
      · rw [hg.block k (by have := B2.size; omega) (fun e => h2 e.symm)]
        exact B2.block k h1
      · rcases hgv k hk with h | h
        · exact .inl h
        · exact .inr (by have := B2.size; omega)
      · rcases List.mem_append.1 hq with h | h
        · rcases List.mem_append.1 h with h | h
          · exact .inl (List.mem_of_mem_take h)
          · exact .inr (by rw [List.mem_singleton.1 h])
        · exact .inl (List.mem_of_mem_drop h)
    have HPF := hide hpf
    have HF := hide hfin
    have HB := hide hB
    clear hfin hB hrow hg hgv hpf
    go_wp2
    go_ret
    first
      | exact ⟨_, _, rfl, HL.out, HF.out, HB.out, HPF.out⟩
      | exact ⟨_, rfl, _, HL.out, HF.out, HB.out, HPF.out⟩

theorem iput_any (v : Value) (ps : List RP) (lo : Nat) (r : RP) (w : World) (hv : RecsOwn w lo w.heap.size v ps) (hlo : lo ≤ w.heap.size) (hn : tot ps ≤ 1048576) (hasc : Asc (fsts ps)) (hr : NearOwn w lo w.heap.size r) (hap : ∀ p ∈ ps, Apart p r) :
    Calls Try.prog 80 #[v, .agg (recC r.1 r.2)] w fun e w' => ∃ x qs, e = .returned x ∧ fsts qs = putD (fsts ps) r.1 ∧ RecsOwn w' lo w'.heap.size x qs ∧ Below lo w w' := by
  refine (iput_fine v ps lo r w hv hlo hn hasc hr hap).mono ?_
  rintro e w' ⟨x, qs, h1, h2, h3, h4, _⟩
  exact ⟨x, qs, h1, h2, h3, h4⟩
end Go.Proofs.Ytdaigojpeofmpaa
