/-
  laws.markRecordS: just the list's own blocks turn.
-/
import Derived.Test.YtdaigojpeofmpaaRowsM
namespace Go.Proofs.Ytdaigojpeofmpaa
open Go.RowKit

/-- the blocks of a list of records: its row, and the rows of its Near -/
def BlkOf (v : Value) (ps : List RP) (k : Nat) : Prop := v.ownBlock = some k ∨ ∃ p ∈ ps, p.2.ownBlock = some k

/-- only blocks of S turn -/
structure FrameS (S : Nat → Prop) (w w' : World) : Prop where
  os : w'.os = w.os
  tape : w'.tape = w.tape
  output : w'.output = w.output
  size : w.heap.size ≤ w'.heap.size
  block : ∀ k, k < w.heap.size → ¬ S k → w'.heap[k]? = w.heap[k]?

theorem FrameS.refl (S : Nat → Prop) (w : World) : FrameS S w w := ⟨rfl, rfl, rfl, Nat.le_refl _, fun _ _ _ => rfl⟩

theorem FrameS.trans {S : Nat → Prop} {a b c : World} (h : FrameS S a b) (k : FrameS S b c) : FrameS S a c :=
  ⟨k.os.trans h.os, k.tape.trans h.tape, k.output.trans h.output, Nat.le_trans h.size k.size, fun i hi hr => (k.block i (Nat.lt_of_lt_of_le hi h.size) hr).trans (h.block i hi hr)⟩

theorem FrameS.grown {S : Nat → Prop} {a b : World} {row : Option Nat} (g : a.grownBy b row) (hr : ∀ k, row = some k → S k) : FrameS S a b :=
  ⟨g.os, g.tape, g.output, g.size, fun k hk hh => g.block k hk (fun e => hh (hr k e.symm))⟩

theorem FrameS.mono {S T : Nat → Prop} {a b : World} (h : FrameS S a b) (hs : ∀ k, S k → T k) : FrameS T a b := ⟨h.os, h.tape, h.output, h.size, fun k hk hh => h.block k hk (fun e => hh (hs k e))⟩

theorem FrameS.frame {S : Nat → Prop} {lo hi : Nat} {a b : World} (h : FrameS S a b) (hs : ∀ k, S k → lo ≤ k ∧ k < hi) : Frame lo hi a b := ⟨h.os, h.tape, h.output, h.size, fun k hk hh => h.block k hk (fun e => by have := hs k e; omega)⟩

theorem RecsOwn.blk {W : World} {lo hi : Nat} {v : Value} {ps : List RP} (h : RecsOwn W lo hi v ps) (k : Nat) (hk : BlkOf v ps k) : lo ≤ k ∧ k < hi ∧ k < W.heap.size := by
  rcases hk with e | ⟨p, hp, e⟩
  · exact ⟨(h.row.lt k e).1, h.top k e, (h.row.lt k e).2⟩
  · exact ⟨((h.nears p hp).1.lt k e).1, (h.nears p hp).2 k e, ((h.nears p hp).1.lt k e).2⟩

/-- a list whose blocks did not turn -/
theorem RecsOwn.keepS {W W' : World} {lo hi : Nat} {v : Value} {ps : List RP} (h : RecsOwn W lo hi v ps) (hk : ∀ k, BlkOf v ps k → W'.heap[k]? = W.heap[k]?) : RecsOwn W' lo hi v ps where
  row := owns_keepB h.row (fun k e => hk k (.inl e))
  top := h.top
  nears := fun p hp => ⟨owns_keepB (h.nears p hp).1 (fun k e => hk k (.inr ⟨p, hp, e⟩)), (h.nears p hp).2⟩
  apart := h.apart

theorem mkL_snd (c : Int) (ps : List RP) : (mkL c ps).map (·.2) = ps.map (·.2) := by
  induction ps generalizing c with
  | nil => rfl
  | cons p ps ih => simp [mkL, mkR, ih]

theorem blk_mk {v : Value} {c : Int} {ps : List RP} {k : Nat} : BlkOf v (mkL c ps) k ↔ BlkOf v ps k := by
  have h : ∀ qs : List RP, (∃ p ∈ qs, p.2.ownBlock = some k) ↔ ∃ u ∈ qs.map (·.2), Value.ownBlock u = some k := fun qs => by simp only [List.mem_map]; exact ⟨fun ⟨p, hp, e⟩ => ⟨p.2, ⟨p, hp, rfl⟩, e⟩, fun ⟨u, ⟨p, hp, e1⟩, e⟩ => ⟨p, hp, by rw [e1]; exact e⟩⟩
  unfold BlkOf
  rw [h, h, mkL_snd]

set_option maxRecDepth 100000 in
set_option maxHeartbeats 2000000 in
theorem markRecordS_fine (v : Value) (lo hi : Nat) (ps : List RP) (c : Int) (w : World) (h : RecsOwn w lo hi v ps) (hn : tot ps ≤ 1048576) (hc : 0 ≤ c) (hc2 : c ≤ 10000000) :
    Calls Try.prog 16 #[v, .int .i64 c] w fun e w' => e = .returned (.int .i64 (mkE c ps)) ∧ RecsOwn w' lo hi v (mkL c ps) ∧ FrameS (BlkOf v ps) w w' := by
  have hnl := tot_len ps
  by_cases h0 : ps.length = 0
  · have hps : ps = [] := List.length_eq_zero_iff.1 h0
    subst hps
    obtain ⟨a1, c1, rfl⟩ := owns_lenS h.row
    have H1 := hide h
    clear h
    go_enter Try.func16, Try.ntmps16
    go_wp2
    refine wp_loop_rounds 1 ?_
    rw [rounds_succ]
    go_wp2
    go_ret
    exact ⟨rfl, H1.out, FrameS.refl _ _⟩
  · obtain ⟨g, cap, rfl, hg1, hl1⟩ := owns_shapeS h.row (by omega)
    have H1 := hide h
    have HG := hide (h.top g rfl)
    clear h h0
    go_enter Try.func16, Try.ntmps16
    go_wp2
    go_loopw [5, 1] (fun i r wr => ∃ (k : Nat), k ≤ ps.length ∧ i = .int .i64 k ∧ r = .int .i64 (mkE c (ps.take k)) ∧ RecsOwn wr lo hi (.slice (some ⟨g, 0, none⟩) ps.length cap) (mkL c (ps.take k) ++ ps.drop k) ∧ FrameS (BlkOf (.slice (some ⟨g, 0, none⟩) ps.length cap) ps) w wr) (fun i _ _ => ps.length - (intOf i).toNat)
    case atStart => exact ⟨0, by omega, rfl, rfl, H1.out, FrameS.refl _ _⟩
    case round =>
      clear H1
      obtain ⟨k, hk, rfl, rfl, hown, hnx⟩ := hrel
      by_cases hlt : k < ps.length
      · obtain ⟨p, hp⟩ : ∃ p, ps[k]? = some p := ⟨ps[k], List.getElem?_eq_getElem hlt⟩
        have hki : (0 : Int) ≤ (k : Int) := by omega
        have hkj : (k : Int) < (ps.length : Int) := by omega
        have ht1 := tot_takeLe ps k
        have ht2 := mkE_tot c (ps.take k)
        have hpl := tot_mem (List.mem_of_getElem? hp)
        obtain ⟨z, hz⟩ : ∃ z, z = mkE c (ps.take k) := ⟨_, rfl⟩
        rw [← hz] at ht2 ⊢
        have hz0 : 0 ≤ z := by omega
        have hz2 : z ≤ 100000000 := by omega
        obtain ⟨xs, hxs⟩ : ∃ xs, xs = mkL c (ps.take k) ++ ps.drop k := ⟨_, rfl⟩
        rw [← hxs] at hown
        have hxl : xs.length = ps.length := by rw [hxs]; simp [mkL_len]; omega
        have hxk : xs[k]? = some p := by
          rw [hxs, List.getElem?_append_right (by rw [mkL_len, List.length_take]; omega), mkL_len, List.length_take, Nat.min_eq_left (by omega), Nat.sub_self, List.getElem?_drop, Nat.add_zero]
          exact hp
        have hstep : xs.set k (mkR z p) = mkL c (ps.take (k + 1)) ++ ps.drop (k + 1) := by
          have ed : ps.drop k = p :: ps.drop (k + 1) := by
            obtain ⟨h1, e1⟩ := List.getElem?_eq_some_iff.1 hp
            rw [List.drop_eq_getElem_cons h1, e1]
          rw [hxs, mkL_step c hp, ← hz, List.set_append_right _ _ (by rw [mkL_len, List.length_take]; omega), mkL_len, List.length_take, Nat.min_eq_left (by omega), Nat.sub_self, ed, List.set_cons_zero]
          simp
        have hnext : mkE c (ps.take (k + 1)) = nxR z p := by rw [mkE_step c hp, hz]
        have hrow := hown.row
        rw [hxl] at hrow
        have hex : ∀ r, r < 8 → ∃ u, wr.cell? ⟨g, k * 8 + r, none⟩ = some u := fun r hr => own_cell hrow _ (by omega)
        obtain ⟨u0, d0⟩ := hex 0 (by omega)
        obtain ⟨u1, d1⟩ := hex 1 (by omega)
        obtain ⟨u2, d2⟩ := hex 2 (by omega)
        obtain ⟨u3, d3⟩ := hex 3 (by omega)
        obtain ⟨u4, d4⟩ := hex 4 (by omega)
        obtain ⟨u6, d6⟩ := hex 6 (by omega)
        obtain ⟨u7, d7⟩ := hex 7 (by omega)
        rw [Nat.add_zero] at d0
        have d5 : wr.cell? ⟨g, k * 8 + 5, none⟩ = some p.2 := by
          rw [hrow.cellAt _ (by omega), flat_get encP_len xs k 5 p hxk (by omega)]
          rfl
        have f0 := hrow.frozenAt (k * 8)
        have f1 := hrow.frozenAt (k * 8 + 1)
        have f2 := hrow.frozenAt (k * 8 + 2)
        have f3 := hrow.frozenAt (k * 8 + 3)
        have f4 := hrow.frozenAt (k * 8 + 4)
        have f5 := hrow.frozenAt (k * 8 + 5)
        have f6 := hrow.frozenAt (k * 8 + 6)
        have f7 := hrow.frozenAt (k * 8 + 7)
        have hnear := (hown.nears p (List.mem_of_getElem? hxk)).1
        obtain ⟨na, nc, hpn⟩ := owns_lenS hnear
        rw [hpn] at d5
        have hzr : w.heap.size ≤ wr.heap.size := hnx.size
        obtain ⟨curg, hcurg⟩ : ∃ cur, wr.heap[g]? = some (.cells cur 56 (0, 0)) := by
          rcases hrow.2 with ⟨h0, _⟩ | ⟨g', cap', cur', hv', _, hh', _⟩
          · cases h0
          · cases hv'; exact ⟨cur', hh'⟩
        have hgne : some g ≠ p.2.ownBlock := own_type_ne2 hnear hcurg (by decide)
        rw [hpn] at hnear hgne
        have row5 := ((((hrow.stored (k * 8) (.int .i64 z)).1.stored (k * 8 + 1) (.int .i64 (z + 1))).1.stored (k * 8 + 2) (.int .i64 (z + 1 + 1))).1.stored (k * 8 + 3) (.int .i64 (z + 1 + 1 + 1))).1.stored (k * 8 + 4) (.int .i64 (z + 1 + 1 + 1 + 1)) |>.1
        have gr5 := set5_grown wr g (k * 8) z
        have near5 : (set5 wr g (k * 8) z).ownsRow lo 120 2 (.slice na p.1.near.length nc) p.1.near.length (flat nrE p.1.near) := owns_keepB hnear (fun j hj => gr5.block j (hnear.lt j hj).2 (fun e => hgne (by rw [hj, e])))
        have HMN := hide (markNearS_any (.slice na p.1.near.length nc) lo p.1.near.length p.1.near (z + 1 + 1 + 1 + 1 + 1) (set5 wr g (k * 8) z) rfl near5 (by omega) (by omega) (by omega))
        have HOWN := hide hown
        have HROW5 := hide row5
        have HGR5 := hide gr5
        have HXL := hide hxl
        have HXK := hide hxk
        have HSTEP := hide hstep
        have HNEXT := hide hnext
        have HPN := hide hpn
        have HPM := hide (List.mem_of_getElem? hp)
        have HGNE := hide hgne
        have HZ := hide hz
        have HTK := hide ht2
        clear hown hrow hxl hxk hstep hnext hpn hnear hex hcurg hxs hz hp row5 gr5 near5 hgne ht2 ht1
        go_wp2_with fail
        refine HMN.out.mono ?_
        rintro e w6 ⟨rfl, near6, gr6⟩
        have row6 : w6.ownsRow lo 56 8 (.slice (some ⟨g, 0, none⟩) ps.length cap) ps.length _ := owns_keepB HROW5.out (fun j hj => gr6.block j (HROW5.out.lt j hj).2 (fun e => HGNE.out (by cases hj; exact e)))
        obtain ⟨x6, e6⟩ := own_cell row6 (k * 8 + 6) (by omega)
        obtain ⟨x7, e7⟩ := own_cell row6 (k * 8 + 7) (by omega)
        have t6 := row6.frozenAt (k * 8 + 6)
        have t7 := row6.frozenAt (k * 8 + 7)
        have row8 := (row6.stored (k * 8 + 6) (.int .i64 (mkR z p).1.cost)).1.stored (k * 8 + 7) (.bool (mkR z p).1.far) |>.1
        have e8 := set7 (q := mkR z p) HXK.out rfl
        have row8' : ((w6.setCell ⟨g, k * 8 + 6, none⟩ (.int .i64 (mkR z p).1.cost)).setCell ⟨g, k * 8 + 7, none⟩ (.bool (mkR z p).1.far)).ownsRow lo 56 8 (.slice (some ⟨g, 0, none⟩) ps.length cap) ps.length (flat encP (xs.set k (mkR z p))) := by
          rw [← e8]
          exact row8
        have gr8 : w6.grownBy ((w6.setCell ⟨g, k * 8 + 6, none⟩ (.int .i64 (mkR z p).1.cost)).setCell ⟨g, k * 8 + 7, none⟩ (.bool (mkR z p).1.far)) (some g) := grown_trans (grown_set _ _ _ _) (grown_set _ _ _ _)
        have near8 := owns_keepB near6 (W' := (w6.setCell ⟨g, k * 8 + 6, none⟩ (.int .i64 (mkR z p).1.cost)).setCell ⟨g, k * 8 + 7, none⟩ (.bool (mkR z p).1.far)) (fun j hj => gr8.block j (near6.lt j hj).2 (fun e => HGNE.out (by rw [hj, e])))
        have fr : FrameS (BlkOf (.slice (some ⟨g, 0, none⟩) ps.length cap) ps) wr ((w6.setCell ⟨g, k * 8 + 6, none⟩ (.int .i64 (mkR z p).1.cost)).setCell ⟨g, k * 8 + 7, none⟩ (.bool (mkR z p).1.far)) :=
          ((FrameS.grown HGR5.out (fun j hj => .inl hj)).trans (FrameS.grown gr6 (fun j hj => .inr ⟨p, HPM.out, by rw [HPN.out]; exact hj⟩))).trans (FrameS.grown gr8 (fun j hj => .inl hj))
        have fin := HOWN.out.turn (W8 := (w6.setCell ⟨g, k * 8 + 6, none⟩ (.int .i64 (mkR z p).1.cost)).setCell ⟨g, k * 8 + 7, none⟩ (.bool (mkR z p).1.far)) (q := mkR z p) HXL.out HXK.out rfl row8' (by
            have h9 := near8
            show World.ownsRow _ lo 120 2 p.2 (marks _ _).length (flat nrE (marks _ _))
            rw [HPN.out, marks_len]
            exact h9) (fun j h1 h2 h3 => by
            have g5 := HGR5.out.size
            have g6 := gr6.size
            rw [gr8.block j (by omega) (by simp; omega), gr6.block j (by omega) (by rw [← HPN.out]; exact h3), HGR5.out.block j h1 (by simp; omega)])
        rw [HSTEP.out] at fin
        have FIN := hide fin
        have FR := hide fr
        clear row6 row8 e8 row8' gr8 near8 fr fin near6 gr6 HOWN HROW5 HMN HGR5
        go_wp2
        refine ⟨⟨k + 1, by omega, by go_num, ?_, FIN.out, hnx.trans FR.out⟩, by simp [intOf]; omega⟩
        rw [HNEXT.out]
        rfl
      · have hkn : k = ps.length := by omega
        have KN := hide hkn
        have OW := hide hown
        clear hkn hown
        go_wp2
        go_ret
        have h1 := OW.out
        rw [KN.out, List.take_length, List.drop_length, List.append_nil] at h1
        exact ⟨ret_int1 (by rw [KN.out, List.take_length]), h1, hnx⟩

end Go.Proofs.Ytdaigojpeofmpaa
