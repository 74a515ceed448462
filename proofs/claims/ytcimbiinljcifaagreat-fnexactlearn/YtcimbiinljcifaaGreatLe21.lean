/-
  impl's put: a record put into a list in order.
  laws.markRecordS: just the list's own blocks turn.
  What the laws of lists of records want.
-/
import Derived.Test.YtcimbiinljcifaaGreatLe17
import Derived.Test.YtcimbiinljcifaaGreatLe20
import Derived.Test.YtcimbiinljcifaaGreatLe5
namespace Go.Proofs.YtcimbiinljcifaaGreat
open Go.RowKit

set_option linter.unusedSimpArgs false

theorem near_one {W : World} {lo hi : Nat} {r : RP} (h : NearOwn W lo hi r) : ∀ u ∈ encP r, u.oneCell' = true := by
  obtain ⟨a, c, e⟩ := owns_lenS h.1
  obtain ⟨x, v⟩ := r
  simp only at e
  subst e
  exact encP_one x a _ c

theorem insert_any (lo i vb : Nat) (v : Value) (ps : List RP) (r : RP) (w : World) (hv : RecsOwn w lo w.heap.size v ps) (hlo : lo ≤ w.heap.size) (hi : i ≤ ps.length) (hn : ps.length ≤ 1048576) (hvb : w.heap[vb]? = some (.cells (encP r).toArray 40 (0, 0))) (hne : some vb ≠ v.ownBlock) (hr1 : ∀ u ∈ encP r, u.oneCell' = true) :
    Calls Tryz.prog 107 #[v, .int .i64 (i : Int), .slice (some ⟨vb, 0, none⟩) 1 1] w fun e w' => ∃ v', e = .returned v' ∧ w'.ownsRow lo 40 8 v' (ps.length + 1) (flat encP (ps.take i ++ [r] ++ ps.drop i)) ∧ GrownV w w' v.ownBlock v' := by
  by_cases he : i = ps.length
  · rw [he]
    exact ins_end lo ps.length 1 vb v ps r w rfl rfl hlo hn hv.row hvb hr1
  · have hone : ∀ p ∈ ps, ∃ a k c, p.2 = .slice a k c := fun p hp => by
      obtain ⟨a, c, e⟩ := owns_lenS (hv.nears p hp).1
      exact ⟨a, _, c, e⟩
    rcases hv.row.2 with ⟨_, h0⟩ | ⟨g, cap, cur, hve, _⟩
    · omega
    · subst hve
      have hne2 : vb ≠ g := fun e => hne (by rw [e]; rfl)
      by_cases hroom : ps.length + 1 ≤ cap
      · exact ins_shift lo g cap ps.length 1 i vb ps r w rfl rfl hv.row (by omega) hroom hvb hne2 hone hr1
      · exact ins_grow lo g cap ps.length 1 i vb ps r w rfl rfl hlo hn hv.row (by omega) (by omega) hvb hone hr1

theorem RecsOwn.ins {W W2 : World} {lo i : Nat} {v v' : Value} {ps : List RP} {r : RP} (h : RecsOwn W lo W.heap.size v ps) (hr : NearOwn W lo W.heap.size r) (hap : ∀ p ∈ ps, Apart p r) (hi : i ≤ ps.length)
    (row : W2.ownsRow lo 40 8 v' (ps.length + 1) (flat encP (ps.take i ++ [r] ++ ps.drop i))) (hg : W.grownBy W2 v.ownBlock) : RecsOwn W2 lo W2.heap.size v' (ps.take i ++ [r] ++ ps.drop i) where
  row := by rw [ins_len ps r i hi]; exact row
  top := fun k hk => (row.lt k hk).2
  nears := by
    intro q hq
    refine nears_kept h hg ?_
    rcases List.mem_append.1 hq with h1 | h1
    · rcases List.mem_append.1 h1 with h2 | h2
      · exact h.nears q (List.mem_of_mem_take h2)
      · have : q = r := by simpa using h2
        subst this
        exact hr
    · exact h.nears q (List.mem_of_mem_drop h1)
  apart := by
    have hp := h.apart
    rw [← List.take_append_drop i ps, List.pairwise_append] at hp
    rw [List.append_assoc, List.pairwise_append]
    refine ⟨hp.1, ?_, ?_⟩
    · rw [List.pairwise_append]
      refine ⟨by simp, hp.2.1, ?_⟩
      intro a ha b hb
      have : a = r := by simpa using ha
      subst this
      exact (hap b (List.mem_of_mem_drop hb)).symm
    · intro a ha b hb
      rcases List.mem_append.1 hb with h1 | h1
      · have : b = r := by simpa using h1
        subst this
        exact hap a (List.mem_of_mem_take ha)
      · exact hp.2.2 a ha b h1

/-- what putting a record into a list turns: the list's own row alone; the new one is that row or a new one, with the rows of Near that there were -/
structure PutFine (v : Value) (ps : List RP) (r : RP) (w w' : World) (x : Value) (qs : List RP) : Prop where
  keep : ∀ k, k < w.heap.size → v.ownBlock ≠ some k → w'.heap[k]? = w.heap[k]?
  row : ∀ k, x.ownBlock = some k → v.ownBlock = some k ∨ w.heap.size ≤ k
  near : ∀ q ∈ qs, q ∈ ps ∨ q.2 = r.2

set_option maxRecDepth 100000 in
set_option maxHeartbeats 4000000 in
theorem iput_fine (v : Value) (ps : List RP) (lo : Nat) (r : RP) (w : World) (hv : RecsOwn w lo w.heap.size v ps) (hlo : lo ≤ w.heap.size) (hn : tot ps ≤ 1048576) (hasc : Asc (fsts ps)) (hr : NearOwn w lo w.heap.size r) (hap : ∀ p ∈ ps, Apart p r) :
    Calls Tryz.prog 67 #[v, .agg (recC r.1 r.2)] w fun e w' => ∃ x qs, e = .returned x ∧ fsts qs = putD (fsts ps) r.1 ∧ RecsOwn w' lo w'.heap.size x qs ∧ Below lo w w' ∧ PutFine v ps r w w' x qs := by
  have hnl := tot_len ps
  have hfl : (fsts ps).length = ps.length := by simp [fsts]
  obtain ⟨a1, c1, hve⟩ := owns_lenS hv.row
  obtain ⟨ra, rc, hrn⟩ := owns_lenS hr.1
  have BX : Below w.heap.size w (w.alloc (.cells #[.int .i64 r.1.area, .int .i64 r.1.kind, .int .i64 r.1.owner, .int .i64 r.1.key, .int .i64 r.1.seq, .slice ra r.1.near.length rc, .int .i64 r.1.cost, .bool r.1.far] 40)) := (Below.refl _ _).alloc (Nat.le_refl _) _
  have hx := heap_alloc_new w (.cells #[.int .i64 r.1.area, .int .i64 r.1.kind, .int .i64 r.1.owner, .int .i64 r.1.key, .int .i64 r.1.seq, .slice ra r.1.near.length rc, .int .i64 r.1.cost, .bool r.1.far] 40)
  obtain ⟨w0, hw0⟩ : ∃ w0, w0 = w.alloc (.cells #[.int .i64 r.1.area, .int .i64 r.1.kind, .int .i64 r.1.owner, .int .i64 r.1.key, .int .i64 r.1.seq, .slice ra r.1.near.length rc, .int .i64 r.1.cost, .bool r.1.far] 40) := ⟨_, rfl⟩
  rw [← hw0] at BX hx
  have hs0 := lt_of_heap hx
  have hv0 := hv.below BX (Nat.le_refl _)
  have hr0 := hr.keep (W' := w0) (fun k _ _ h3 => BX.block k h3)
  have HS := search_any v ps w.heap.size r w0 hv0.in BX.size hn (hr0.wide (Nat.zero_le _) (Nat.le_refl _)) (by rw [← hfl]; exact asc_mono hasc r.1)
  have d0 := cells_at hx 0
  have d1 := cells_at hx 1
  have d2 := cells_at hx 2
  have d3 := cells_at hx 3
  have d4 := cells_at hx 4
  have d5 := cells_at hx 5
  have d6 := cells_at hx 6
  have d7 := cells_at hx 7
  simp at d0 d1 d2 d3 d4 d5 d6 d7
  have HV := hide hv0
  have HR := hide hr0
  have HA := hide hasc
  have HP := hide hap
  have H1 := hide hr
  have HFL := hide hfl
  have HRN := hide hrn
  have HVE := hide hve
  unfold recC at *
  rw [hrn] at HS ⊢
  subst hve
  have HSS := hide HS
  clear HS hv0 hr0 hasc hap hr hrn hv hfl
  go_enter Tryz.func67, Tryz.ntmps67
  go_wp2_with fail
  rw [← hw0]
  clear hw0
  refine HSS.out.mono ?_
  rintro e w1 ⟨i, f, rfl, hil, q1, q2, q3, b1⟩
  have b1s := b1.size
  have hx1 := (b1.block _ hs0).trans hx
  have B1 : Below w.heap.size w w1 := BX.trans (b1.mono BX.size)
  have hv1 := (HV.out.below b1 (by omega)).wide (Nat.le_refl _) (show w.heap.size ≤ w1.heap.size by omega)
  have hr1 := ((HR.out).keep (W' := w1) (fun k _ _ h3 => b1.block k h3)).wide (Nat.le_refl _) (show w.heap.size ≤ w1.heap.size by omega)
  have Q1 := hide q1
  have Q2 := hide q2
  have Q3 := hide q3
  clear q1 q2 q3 d0 d1 d2 d3 d4 d5 d6 d7 hx b1
  have d0 := cells_at hx1 0
  have d1 := cells_at hx1 1
  have d2 := cells_at hx1 2
  have d3 := cells_at hx1 3
  have d4 := cells_at hx1 4
  have d5 := cells_at hx1 5
  have d6 := cells_at hx1 6
  have d7 := cells_at hx1 7
  simp at d0 d1 d2 d3 d4 d5 d6 d7
  have hii : (0 : Int) ≤ (i : Int) := by omega
  cases f with
  | true =>
    have hil2 : i < ps.length := by
      obtain ⟨x, hx, _⟩ := Q3.out.1 rfl
      have := (List.getElem?_eq_some_iff.1 hx).1
      rw [HFL.out] at this
      exact this
    have hij : (i : Int) < (ps.length : Int) := by omega
    rcases hv1.row.2 with ⟨_, h0⟩ | ⟨g, cap, cur, hve, _⟩
    · omega
    · cases hve
      have hpr : r = (r.1, .slice ra r.1.near.length rc) := by rw [← HRN.out]
      have hfin := hv1.put (i := i) rfl hr1 HP.out hil2
      have hg := putP_grown w1 g (i * 8) r
      have hgl := hv1.row.lt g rfl
      have hB : Below lo w (putP w1 g (i * 8) r) := (B1.mono hlo).grown hg (by omega) (fun k hk => by simp at hk; omega)
      have hl : fsts (ps.set i r) = putD (fsts ps) r.1 := by
        obtain ⟨x, hx, h0⟩ := Q3.out.1 rfl
        obtain ⟨hi2, ex⟩ := List.getElem?_eq_some_iff.1 hx
        rw [fsts_set, putD_old HA.out hi2 Q1.out (by rw [HFL.out]; exact Q2.out) (by rw [ex]; exact h0)]
      obtain ⟨y0, f0⟩ := own_cell hv1.row (i * 8) (by omega)
      obtain ⟨y1, f1⟩ := own_cell hv1.row (i * 8 + 1) (by omega)
      obtain ⟨y2, f2⟩ := own_cell hv1.row (i * 8 + 2) (by omega)
      obtain ⟨y3, f3⟩ := own_cell hv1.row (i * 8 + 3) (by omega)
      obtain ⟨y4, f4⟩ := own_cell hv1.row (i * 8 + 4) (by omega)
      obtain ⟨y5, f5⟩ := own_cell hv1.row (i * 8 + 5) (by omega)
      obtain ⟨y6, f6⟩ := own_cell hv1.row (i * 8 + 6) (by omega)
      obtain ⟨y7, f7⟩ := own_cell hv1.row (i * 8 + 7) (by omega)
      have fz := fun j => hv1.row.frozenAt j
      have hne : g ≠ w.heap.size := by
        intro e
        have h5 := HV.out.top g rfl
        omega
      have hpf : ∀ r' : RP, r' = r → PutFine (.slice (some ⟨g, 0, none⟩) ps.length c1) ps r w (putP w1 g (i * 8) r') (.slice (some ⟨g, 0, none⟩) ps.length c1) (ps.set i r') := by
        rintro r' rfl
        refine ⟨fun k h1 h2 => ?_, fun k hk => .inl hk, fun q hq => ?_⟩
        · rw [(putP_grown w1 g (i * 8) r').block k (by omega) (fun e => h2 e.symm)]
          exact B1.block k h1
        · rcases List.mem_or_eq_of_mem_set hq with h | h
          · exact .inl h
          · exact .inr (by rw [h])
      have HPF := hide (hpf _ hpr.symm)
      clear hpf
      rw [hpr] at hfin hB hl
      have HF := hide hfin
      have HB := hide hB
      have HL := hide hl
      clear hfin hB hl hpr hg hv1 hr1
      go_wp2
      go_ret
      first
        | exact ⟨_, ps.set i (r.1, .slice ra r.1.near.length rc), rfl, HL.out, HF.out, HB.out, HPF.out⟩
        | exact ⟨_, rfl, ps.set i (r.1, .slice ra r.1.near.length rc), HL.out, HF.out, HB.out, HPF.out⟩
  | false =>
    have hl : fsts (ps.take i ++ [r] ++ ps.drop i) = putD (fsts ps) r.1 := by
      rw [fsts_ins, putD_new HA.out (by rw [HFL.out]; exact hil) Q1.out (by rw [HFL.out]; exact Q2.out) (fun h => by have := Q3.out.2 h; cases this)]
    have HL := hide hl
    clear hl
    have BY : Below w1.heap.size w1 (w1.alloc (.cells #[.int .i64 r.1.area, .int .i64 r.1.kind, .int .i64 r.1.owner, .int .i64 r.1.key, .int .i64 r.1.seq, .slice ra r.1.near.length rc, .int .i64 r.1.cost, .bool r.1.far] 40)) := (Below.refl _ _).alloc (Nat.le_refl _) _
    have hy := heap_alloc_new w1 (.cells #[.int .i64 r.1.area, .int .i64 r.1.kind, .int .i64 r.1.owner, .int .i64 r.1.key, .int .i64 r.1.seq, .slice ra r.1.near.length rc, .int .i64 r.1.cost, .bool r.1.far] 40)
    obtain ⟨w2, hw2⟩ : ∃ w2, w2 = w1.alloc (.cells #[.int .i64 r.1.area, .int .i64 r.1.kind, .int .i64 r.1.owner, .int .i64 r.1.key, .int .i64 r.1.seq, .slice ra r.1.near.length rc, .int .i64 r.1.cost, .bool r.1.far] 40) := ⟨_, rfl⟩
    rw [← hw2] at BY hy
    have hv2 := (hv1.below BY (Nat.le_refl _)).wide (Nat.le_refl _) BY.size
    have hr2 := (hr1.keep (W' := w2) (fun k _ _ h3 => BY.block k h3)).wide (Nat.le_refl _) BY.size
    have HI := insert_any lo i w1.heap.size _ ps r w2 hv2 (by have := BY.size; omega) hil (by omega) (by
      rw [hy]
      unfold encP
      rw [HRN.out]) (fun e => by
        have h6 := hv1.top _ e.symm
        omega) (near_one hr2)
    have HII := hide HI
    have HV2 := hide hv2
    have HR2 := hide hr2
    have B2 : Below w.heap.size w w2 := B1.trans (BY.mono (by omega))
    have hb2 := BY.size
    clear HI hv1 hr1 hv2 hr2
    go_wp2_with fail
    rw [← hw2]
    clear hw2
    refine HII.out.mono ?_
    rintro e w3 ⟨x, rfl, hrow, hg, hgv⟩
    have hfin := HV2.out.ins HR2.out HP.out hil hrow hg
    have hB : Below lo w w3 := (B2.mono hlo).grown hg (by omega) (fun k hk => (HV2.out.row.lt k hk).1)
    obtain ⟨xa, xc, rfl⟩ := owns_lenS hrow
    have hpf : PutFine (.slice a1 ps.length c1) ps r w w3 (.slice xa (ps.length + 1) xc) (ps.take i ++ [r] ++ ps.drop i) := by
      refine ⟨fun k h1 h2 => ?_, fun k hk => ?_, fun q hq => ?_⟩
      · rw [hg.block k (by have := B2.size; omega) (fun e => h2 e.symm)]
        exact B2.block k h1
      · rcases hgv k hk with h | h
        · exact .inl h
        · exact .inr (by have := B2.size; omega)
      · rcases List.mem_append.1 hq with h | h
        · rcases List.mem_append.1 h with h | h
          · exact .inl (List.mem_of_mem_take h)
          · exact .inr (by rw [List.mem_singleton.1 h])
        · exact .inl (List.mem_of_mem_drop h)
    have HPF := hide hpf
    have HF := hide hfin
    have HB := hide hB
    clear hfin hB hrow hg hgv hpf
    go_wp2
    go_ret
    first
      | exact ⟨_, _, rfl, HL.out, HF.out, HB.out, HPF.out⟩
      | exact ⟨_, rfl, _, HL.out, HF.out, HB.out, HPF.out⟩

end Go.Proofs.YtcimbiinljcifaaGreat
namespace Go.Proofs.YtcimbiinljcifaaGreat
open Go.RowKit

/-- the blocks of a list of records: its row, and the rows of its Near -/
def BlkOf (v : Value) (ps : List RP) (k : Nat) : Prop := v.ownBlock = some k ∨ ∃ p ∈ ps, p.2.ownBlock = some k

/-- only blocks of S turn -/
structure FrameS (S : Nat → Prop) (w w' : World) : Prop where
  os : w'.os = w.os
  tape : w'.tape = w.tape
  output : w'.output = w.output
  size : w.heap.size ≤ w'.heap.size
  block : ∀ k, k < w.heap.size → ¬ S k → w'.heap[k]? = w.heap[k]?

theorem FrameS.refl (S : Nat → Prop) (w : World) : FrameS S w w := ⟨rfl, rfl, rfl, Nat.le_refl _, fun _ _ _ => rfl⟩

theorem FrameS.trans {S : Nat → Prop} {a b c : World} (h : FrameS S a b) (k : FrameS S b c) : FrameS S a c :=
  ⟨k.os.trans h.os, k.tape.trans h.tape, k.output.trans h.output, Nat.le_trans h.size k.size, fun i hi hr => (k.block i (Nat.lt_of_lt_of_le hi h.size) hr).trans (h.block i hi hr)⟩

theorem FrameS.grown {S : Nat → Prop} {a b : World} {row : Option Nat} (g : a.grownBy b row) (hr : ∀ k, row = some k → S k) : FrameS S a b :=
  ⟨g.os, g.tape, g.output, g.size, fun k hk hh => g.block k hk (fun e => hh (hr k e.symm))⟩

theorem FrameS.mono {S T : Nat → Prop} {a b : World} (h : FrameS S a b) (hs : ∀ k, S k → T k) : FrameS T a b := ⟨h.os, h.tape, h.output, h.size, fun k hk hh => h.block k hk (fun e => hh (hs k e))⟩

theorem FrameS.frame {S : Nat → Prop} {lo hi : Nat} {a b : World} (h : FrameS S a b) (hs : ∀ k, S k → lo ≤ k ∧ k < hi) : Frame lo hi a b := ⟨h.os, h.tape, h.output, h.size, fun k hk hh => h.block k hk (fun e => by have := hs k e; omega)⟩

theorem RecsOwn.blk {W : World} {lo hi : Nat} {v : Value} {ps : List RP} (h : RecsOwn W lo hi v ps) (k : Nat) (hk : BlkOf v ps k) : lo ≤ k ∧ k < hi ∧ k < W.heap.size := by
  rcases hk with e | ⟨p, hp, e⟩
  · exact ⟨(h.row.lt k e).1, h.top k e, (h.row.lt k e).2⟩
  · exact ⟨((h.nears p hp).1.lt k e).1, (h.nears p hp).2 k e, ((h.nears p hp).1.lt k e).2⟩

/-- a list whose blocks did not turn -/
theorem RecsOwn.keepS {W W' : World} {lo hi : Nat} {v : Value} {ps : List RP} (h : RecsOwn W lo hi v ps) (hk : ∀ k, BlkOf v ps k → W'.heap[k]? = W.heap[k]?) : RecsOwn W' lo hi v ps where
  row := owns_keepB h.row (fun k e => hk k (.inl e))
  top := h.top
  nears := fun p hp => ⟨owns_keepB (h.nears p hp).1 (fun k e => hk k (.inr ⟨p, hp, e⟩)), (h.nears p hp).2⟩
  apart := h.apart

theorem mkL_snd (c : Int) (ps : List RP) : (mkL c ps).map (·.2) = ps.map (·.2) := by
  induction ps generalizing c with
  | nil => rfl
  | cons p ps ih => simp [mkL, mkR, ih]

theorem blk_mk {v : Value} {c : Int} {ps : List RP} {k : Nat} : BlkOf v (mkL c ps) k ↔ BlkOf v ps k := by
  have h : ∀ qs : List RP, (∃ p ∈ qs, p.2.ownBlock = some k) ↔ ∃ u ∈ qs.map (·.2), Value.ownBlock u = some k := fun qs => by simp only [List.mem_map]; exact ⟨fun ⟨p, hp, e⟩ => ⟨p.2, ⟨p, hp, rfl⟩, e⟩, fun ⟨u, ⟨p, hp, e1⟩, e⟩ => ⟨p, hp, by rw [e1]; exact e⟩⟩
  unfold BlkOf
  rw [h, h, mkL_snd]

set_option maxRecDepth 100000 in
set_option maxHeartbeats 2000000 in
theorem markRecordS_fine (v : Value) (lo hi : Nat) (ps : List RP) (c : Int) (w : World) (h : RecsOwn w lo hi v ps) (hn : tot ps ≤ 1048576) (hc : 0 ≤ c) (hc2 : c ≤ 10000000) :
    Calls Tryz.prog 21 #[v, .int .i64 c] w fun e w' => e = .returned (.int .i64 (mkE c ps)) ∧ RecsOwn w' lo hi v (mkL c ps) ∧ FrameS (BlkOf v ps) w w' := by
  have hnl := tot_len ps
  by_cases h0 : ps.length = 0
  · have hps : ps = [] := List.length_eq_zero_iff.1 h0
    subst hps
    obtain ⟨a1, c1, rfl⟩ := owns_lenS h.row
    have H1 := hide h
    clear h
    go_enter Tryz.func21, Tryz.ntmps21
    go_wp2
    refine wp_loop_rounds 1 ?_
    rw [rounds_succ]
    go_wp2
    go_ret
    exact ⟨rfl, H1.out, FrameS.refl _ _⟩
  · obtain ⟨g, cap, rfl, hg1, hl1⟩ := owns_shapeS h.row (by omega)
    have H1 := hide h
    have HG := hide (h.top g rfl)
    clear h h0
    go_enter Tryz.func21, Tryz.ntmps21
    go_wp2
    go_loopw [5, 1] (fun i r wr => ∃ (k : Nat), k ≤ ps.length ∧ i = .int .i64 k ∧ r = .int .i64 (mkE c (ps.take k)) ∧ RecsOwn wr lo hi (.slice (some ⟨g, 0, none⟩) ps.length cap) (mkL c (ps.take k) ++ ps.drop k) ∧ FrameS (BlkOf (.slice (some ⟨g, 0, none⟩) ps.length cap) ps) w wr) (fun i _ _ => ps.length - (intOf i).toNat)
    case atStart => exact ⟨0, by omega, rfl, rfl, H1.out, FrameS.refl _ _⟩
    case round =>
      clear H1
      obtain ⟨k, hk, rfl, rfl, hown, hnx⟩ := hrel
      by_cases hlt : k < ps.length
      · obtain ⟨p, hp⟩ : ∃ p, ps[k]? = some p := ⟨ps[k], List.getElem?_eq_getElem hlt⟩
        have hki : (0 : Int) ≤ (k : Int) := by omega
        have hkj : (k : Int) < (ps.length : Int) := by omega
        have ht1 := tot_takeLe ps k
        have ht2 := mkE_tot c (ps.take k)
        have hpl := tot_mem (List.mem_of_getElem? hp)
        obtain ⟨z, hz⟩ : ∃ z, z = mkE c (ps.take k) := ⟨_, rfl⟩
        rw [← hz] at ht2 ⊢
        have hz0 : 0 ≤ z := by omega
        have hz2 : z ≤ 100000000 := by omega
        obtain ⟨xs, hxs⟩ : ∃ xs, xs = mkL c (ps.take k) ++ ps.drop k := ⟨_, rfl⟩
        rw [← hxs] at hown
        have hxl : xs.length = ps.length := by rw [hxs]; simp [mkL_len]; omega
        have hxk : xs[k]? = some p := by
          rw [hxs, List.getElem?_append_right (by rw [mkL_len, List.length_take]; omega), mkL_len, List.length_take, Nat.min_eq_left (by omega), Nat.sub_self, List.getElem?_drop, Nat.add_zero]
          exact hp
        have hstep : xs.set k (mkR z p) = mkL c (ps.take (k + 1)) ++ ps.drop (k + 1) := by
          have ed : ps.drop k = p :: ps.drop (k + 1) := by
            obtain ⟨h1, e1⟩ := List.getElem?_eq_some_iff.1 hp
            rw [List.drop_eq_getElem_cons h1, e1]
          rw [hxs, mkL_step c hp, ← hz, List.set_append_right _ _ (by rw [mkL_len, List.length_take]; omega), mkL_len, List.length_take, Nat.min_eq_left (by omega), Nat.sub_self, ed, List.set_cons_zero]
          simp
        have hnext : mkE c (ps.take (k + 1)) = nxR z p := by rw [mkE_step c hp, hz]
        have hrow := hown.row
        rw [hxl] at hrow
        have hex : ∀ r, r < 8 → ∃ u, wr.cell? ⟨g, k * 8 + r, none⟩ = some u := fun r hr => own_cell hrow _ (by omega)
        obtain ⟨u0, d0⟩ := hex 0 (by omega)
        obtain ⟨u1, d1⟩ := hex 1 (by omega)
        obtain ⟨u2, d2⟩ := hex 2 (by omega)
        obtain ⟨u3, d3⟩ := hex 3 (by omega)
        obtain ⟨u4, d4⟩ := hex 4 (by omega)
        obtain ⟨u6, d6⟩ := hex 6 (by omega)
        obtain ⟨u7, d7⟩ := hex 7 (by omega)
        rw [Nat.add_zero] at d0
        have d5 : wr.cell? ⟨g, k * 8 + 5, none⟩ = some p.2 := by
          rw [hrow.cellAt _ (by omega), flat_get encP_len xs k 5 p hxk (by omega)]
          rfl
        have f0 := hrow.frozenAt (k * 8)
        have f1 := hrow.frozenAt (k * 8 + 1)
        have f2 := hrow.frozenAt (k * 8 + 2)
        have f3 := hrow.frozenAt (k * 8 + 3)
        have f4 := hrow.frozenAt (k * 8 + 4)
        have f5 := hrow.frozenAt (k * 8 + 5)
        have f6 := hrow.frozenAt (k * 8 + 6)
        have f7 := hrow.frozenAt (k * 8 + 7)
        have hnear := (hown.nears p (List.mem_of_getElem? hxk)).1
        obtain ⟨na, nc, hpn⟩ := owns_lenS hnear
        rw [hpn] at d5
        have hzr : w.heap.size ≤ wr.heap.size := hnx.size
        obtain ⟨curg, hcurg⟩ : ∃ cur, wr.heap[g]? = some (.cells cur 40 (0, 0)) := by
          rcases hrow.2 with ⟨h0, _⟩ | ⟨g', cap', cur', hv', _, hh', _⟩
          · cases h0
          · cases hv'; exact ⟨cur', hh'⟩
        have hgne : some g ≠ p.2.ownBlock := own_type_ne2 hnear hcurg (by decide)
        rw [hpn] at hnear hgne
        have row5 := ((((hrow.stored (k * 8) (.int .i64 z)).1.stored (k * 8 + 1) (.int .i64 (z + 1))).1.stored (k * 8 + 2) (.int .i64 (z + 1 + 1))).1.stored (k * 8 + 3) (.int .i64 (z + 1 + 1 + 1))).1.stored (k * 8 + 4) (.int .i64 (z + 1 + 1 + 1 + 1)) |>.1
        have gr5 := set5_grown wr g (k * 8) z
        have near5 : (set5 wr g (k * 8) z).ownsRow lo 98 2 (.slice na p.1.near.length nc) p.1.near.length (flat nrE p.1.near) := owns_keepB hnear (fun j hj => gr5.block j (hnear.lt j hj).2 (fun e => hgne (by rw [hj, e])))
        have HMN := hide (markNearS_any (.slice na p.1.near.length nc) lo p.1.near.length p.1.near (z + 1 + 1 + 1 + 1 + 1) (set5 wr g (k * 8) z) rfl near5 (by omega) (by omega) (by omega))
        have HOWN := hide hown
        have HROW5 := hide row5
        have HGR5 := hide gr5
        have HXL := hide hxl
        have HXK := hide hxk
        have HSTEP := hide hstep
        have HNEXT := hide hnext
        have HPN := hide hpn
        have HPM := hide (List.mem_of_getElem? hp)
        have HGNE := hide hgne
        have HZ := hide hz
        have HTK := hide ht2
        clear hown hrow hxl hxk hstep hnext hpn hnear hex hcurg hxs hz hp row5 gr5 near5 hgne ht2 ht1
        go_wp2_with fail
        refine HMN.out.mono ?_
        rintro e w6 ⟨rfl, near6, gr6⟩
        have row6 : w6.ownsRow lo 40 8 (.slice (some ⟨g, 0, none⟩) ps.length cap) ps.length _ := owns_keepB HROW5.out (fun j hj => gr6.block j (HROW5.out.lt j hj).2 (fun e => HGNE.out (by cases hj; exact e)))
        obtain ⟨x6, e6⟩ := own_cell row6 (k * 8 + 6) (by omega)
        obtain ⟨x7, e7⟩ := own_cell row6 (k * 8 + 7) (by omega)
        have t6 := row6.frozenAt (k * 8 + 6)
        have t7 := row6.frozenAt (k * 8 + 7)
        have row8 := (row6.stored (k * 8 + 6) (.int .i64 (mkR z p).1.cost)).1.stored (k * 8 + 7) (.bool (mkR z p).1.far) |>.1
        have e8 := set7 (q := mkR z p) HXK.out rfl
        have row8' : ((w6.setCell ⟨g, k * 8 + 6, none⟩ (.int .i64 (mkR z p).1.cost)).setCell ⟨g, k * 8 + 7, none⟩ (.bool (mkR z p).1.far)).ownsRow lo 40 8 (.slice (some ⟨g, 0, none⟩) ps.length cap) ps.length (flat encP (xs.set k (mkR z p))) := by
          rw [← e8]
          exact row8
        have gr8 : w6.grownBy ((w6.setCell ⟨g, k * 8 + 6, none⟩ (.int .i64 (mkR z p).1.cost)).setCell ⟨g, k * 8 + 7, none⟩ (.bool (mkR z p).1.far)) (some g) := grown_trans (grown_set _ _ _ _) (grown_set _ _ _ _)
        have near8 := owns_keepB near6 (W' := (w6.setCell ⟨g, k * 8 + 6, none⟩ (.int .i64 (mkR z p).1.cost)).setCell ⟨g, k * 8 + 7, none⟩ (.bool (mkR z p).1.far)) (fun j hj => gr8.block j (near6.lt j hj).2 (fun e => HGNE.out (by rw [hj, e])))
        have fr : FrameS (BlkOf (.slice (some ⟨g, 0, none⟩) ps.length cap) ps) wr ((w6.setCell ⟨g, k * 8 + 6, none⟩ (.int .i64 (mkR z p).1.cost)).setCell ⟨g, k * 8 + 7, none⟩ (.bool (mkR z p).1.far)) :=
          ((FrameS.grown HGR5.out (fun j hj => .inl hj)).trans (FrameS.grown gr6 (fun j hj => .inr ⟨p, HPM.out, by rw [HPN.out]; exact hj⟩))).trans (FrameS.grown gr8 (fun j hj => .inl hj))
        have fin := HOWN.out.turn (W8 := (w6.setCell ⟨g, k * 8 + 6, none⟩ (.int .i64 (mkR z p).1.cost)).setCell ⟨g, k * 8 + 7, none⟩ (.bool (mkR z p).1.far)) (q := mkR z p) HXL.out HXK.out rfl row8' (by
            have h9 := near8
            show World.ownsRow _ lo 98 2 p.2 (marks _ _).length (flat nrE (marks _ _))
            rw [HPN.out, marks_len]
            exact h9) (fun j h1 h2 h3 => by
            have g5 := HGR5.out.size
            have g6 := gr6.size
            rw [gr8.block j (by omega) (by simp; omega), gr6.block j (by omega) (by rw [← HPN.out]; exact h3), HGR5.out.block j h1 (by simp; omega)])
        rw [HSTEP.out] at fin
        have FIN := hide fin
        have FR := hide fr
        clear row6 row8 e8 row8' gr8 near8 fr fin near6 gr6 HOWN HROW5 HMN HGR5
        go_wp2
        refine ⟨⟨k + 1, by omega, by go_num, ?_, FIN.out, hnx.trans FR.out⟩, by simp [intOf]; omega⟩
        rw [HNEXT.out]
        rfl
      · have hkn : k = ps.length := by omega
        have KN := hide hkn
        have OW := hide hown
        clear hkn hown
        go_wp2
        go_ret
        have h1 := OW.out
        rw [KN.out, List.take_length, List.drop_length, List.append_nil] at h1
        exact ⟨ret_int1 (by rw [KN.out, List.take_length]), h1, hnx⟩

end Go.Proofs.YtcimbiinljcifaaGreat
namespace Go.Proofs.YtcimbiinljcifaaGreat
open Go.RowKit

def totD (xs : List RecD) : Nat := (xs.map (fun x => 1 + x.near.length)).sum

theorem tot_D (ps : List RP) : tot ps = totD (fsts ps) := by simp [tot, totD, fsts, List.map_map, Function.comp_def]

theorem totD_cons (x : RecD) (xs : List RecD) : totD (x :: xs) = 1 + x.near.length + totD xs := by simp [totD]

theorem eqRecS_own (v1 v2 : Value) (ps qs : List RP) (l1 h1 l2 h2 : Nat) (w : World) (k1 : RecsOwn w l1 h1 v1 ps) (k2 : RecsOwn w l2 h2 v2 qs) (he : fsts ps = fsts qs) (hn : tot ps ≤ 1048576) (g1 : h1 ≤ w.heap.size) (g2 : h2 ≤ w.heap.size) :
    Calls Tryz.prog 19 #[v1, v2] w fun e w' => e = .returned (.bool true) ∧ Below w.heap.size w w' := by
  have h := eqRecordS_any v1 v2 ps qs w (k1.at.more g1) (k2.at.more g2) (Nat.le_trans (tot_len ps) hn) (fun _ hp => Nat.le_trans (tot_mem hp) hn)
  rw [decide_eq_true he] at h
  exact h

theorem toRecS_own (v : Value) (ps : List RP) (w W : World) (h0 : RecsAt w v ps w.heap.size) (hb : Below w.heap.size w W) (hn : tot ps ≤ 1048576) :
    Calls Tryz.prog 17 #[v] W fun e w' => ∃ x qs, e = .returned x ∧ fsts qs = fsts ps ∧ RecsOwn w' W.heap.size w'.heap.size x qs ∧ Below W.heap.size W w' :=
  toRecordS_any v ps W (Nat.le_trans (tot_len ps) hn) (fun _ hp => Nat.le_trans (tot_mem hp) hn) ((h0.later hb (Nat.le_refl _)).more hb.size)

theorem tot_eq {ps qs : List RP} (h : fsts ps = fsts qs) : tot ps = tot qs := by rw [tot_D, tot_D, h]

end Go.Proofs.YtcimbiinljcifaaGreat
