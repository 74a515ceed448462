/-
  spec.Install, impl.Install: their contracts.
-/
import Derived.Test.YtmpfjlkncpckgaaMergeI
namespace Go.Proofs.Ytmpfjlkncpckgaa
open Go.RowKit

set_option linter.unusedSimpArgs false

/-- whether Install takes r -/
def insB (xs : List RecD) (r : RecD) : Bool := storeB xs && takesB xs r

def insD (xs : List RecD) (r : RecD) : List RecD := if insB xs r then putD xs r else []

theorem put_new (ps : List RP) (r : RecD) (lo : Nat) (w3 w4 : World) (x3 n4 : Value) (q3 : List RP) (hf : fsts q3 = fsts ps) (o3 : RecsOwn w3 lo w3.heap.size x3 q3) (o4 : w4.ownsRow w3.heap.size 67 2 n4 r.near.length (flat nrE r.near)) (b4 : Below w3.heap.size w3 w4) (hlo : lo ≤ w3.heap.size) (hn : tot ps ≤ 1048576) (ha : Asc (fsts ps)) :
    Calls Try.prog 83 #[x3, .agg (recC r n4)] w4 fun e w' => ∃ x qs, e = .returned x ∧ fsts qs = putD (fsts ps) r ∧ RecsOwn w' lo w'.heap.size x qs ∧ Below lo w4 w' := by
  have b4s := b4.size
  have h := iput_any x3 q3 lo (r, n4) w4 ((o3.below b4 (Nat.le_refl _)).wide (Nat.le_refl _) b4s) (by omega) (by rw [tot_map hf]; exact hn) (by rw [hf]; exact ha) ⟨owns_baseS o4 hlo, fun k hk => (o4.lt k hk).2⟩ (fun q hq k h1 h2 => by
    have h3 := (o3.nears q hq).2 k h1
    have h4 := (o4.lt k h2).1
    omega)
  rw [hf] at h
  exact h

theorem recs_nil (W : World) (lo hi : Nat) : RecsOwn W lo hi (.slice none 0 0) [] where
  row := World.ownsRow_nil W lo _ _
  top := by intro k hk; simp [Value.ownBlock] at hk
  nears := by simp
  apart := by simp

set_option maxRecDepth 100000 in
set_option maxHeartbeats 4000000 in
theorem iinst_any (v : Value) (ps : List RP) (hi : Nat) (r : RP) (w : World) (hv : RecsIn w hi v ps) (hhi : hi ≤ w.heap.size) (hn : tot ps ≤ 1048576) (hr : NearOwn w 0 hi r) (hrl : r.1.near.length ≤ 1048576) :
    Calls Try.prog 34 #[v, .agg (recC r.1 r.2)] w fun e w' => ∃ x qs, e = .returned (.tuple #[x, .bool (insB (fsts ps) r.1)]) ∧ fsts qs = insD (fsts ps) r.1 ∧ RecsOwn w' w.heap.size w'.heap.size x qs ∧ Below w.heap.size w w' := by
  obtain ⟨TT, hTT⟩ : ∃ T, T = insB (fsts ps) r.1 := ⟨_, rfl⟩
  obtain ⟨LL, hLL⟩ : ∃ T, T = insD (fsts ps) r.1 := ⟨_, rfl⟩
  rw [← hTT, ← hLL]
  have HT0 := hide hTT
  have HL0 := hide hLL
  clear hTT hLL
  have hnl := tot_len ps
  obtain ⟨a1, c1, rfl⟩ := owns_lenS hv.row
  obtain ⟨ra, rc, hrn⟩ := owns_lenS hr.1
  have BX : Below w.heap.size w (w.alloc (.cells #[.int .i64 r.1.area, .int .i64 r.1.kind, .int .i64 r.1.owner, .int .i64 r.1.key, .int .i64 r.1.seq, .slice ra r.1.near.length rc, .int .i64 r.1.cost, .bool r.1.far] 26)) := (Below.refl _ _).alloc (Nat.le_refl _) _
  have hx := heap_alloc_new w (.cells #[.int .i64 r.1.area, .int .i64 r.1.kind, .int .i64 r.1.owner, .int .i64 r.1.key, .int .i64 r.1.seq, .slice ra r.1.near.length rc, .int .i64 r.1.cost, .bool r.1.far] 26)
  obtain ⟨w0, hw0⟩ : ∃ w0, w0 = w.alloc (.cells #[.int .i64 r.1.area, .int .i64 r.1.kind, .int .i64 r.1.owner, .int .i64 r.1.key, .int .i64 r.1.seq, .slice ra r.1.near.length rc, .int .i64 r.1.cost, .bool r.1.far] 26) := ⟨_, rfl⟩
  rw [← hw0] at BX hx
  have hsx := lt_of_heap hx
  have HST := hide (istoreOk_any (.slice a1 ps.length c1) ps w0 hn (((hv.below BX hhi).at).more (by have := BX.size; omega)))
  have HTK := hide (fun W (hb : Below w.heap.size w W) => takes_any (.slice a1 ps.length c1) ps hi r W (hv.below hb hhi) (by have := hb.size; omega) hn (hr.keep (fun j _ h2 _ => hb.block j (by omega))) hrl)
  have HOW := hide (fun W (hb : Below w.heap.size w W) => ownList_any (.slice a1 ps.length c1) ps hi W (hv.below hb hhi) (by have := hb.size; omega) hn)
  have HOR := hide (fun W (hb : Below w.heap.size w W) => ownRec_any r.1 r.2 0 W (hr.keep (fun j _ h2 _ => hb.block j (by omega))).1 hrl)
  have HPN := hide (put_new ps r.1)
  unfold recC at *
  rw [hrn] at HTK HOR ⊢
  clear hv hr hrn
  obtain ⟨q, hq⟩ : ∃ q, q = storeB (fsts ps) := ⟨_, rfl⟩
  rw [← hq] at HST
  have HQ := hide hq
  obtain ⟨T, hT⟩ : ∃ T, T = takesB (fsts ps) r.1 := ⟨_, rfl⟩
  rw [← hT] at HTK
  have HT := hide hT
  clear hq hT
  go_enter Try.func34, Try.ntmps34
  go_wp2_with fail
  rw [← hw0]
  clear hw0
  refine HST.out.mono ?_
  rintro e w1 ⟨rfl, b1⟩
  have b1s := b1.size
  have B1 : Below w.heap.size w w1 := BX.trans (b1.mono BX.size)
  have hx1 := (b1.block _ hsx).trans hx
  clear hx b1 HST
  have d0 := cells_at hx1 0
  have d1 := cells_at hx1 1
  have d2 := cells_at hx1 2
  have d3 := cells_at hx1 3
  have d4 := cells_at hx1 4
  have d5 := cells_at hx1 5
  have d6 := cells_at hx1 6
  have d7 := cells_at hx1 7
  simp at d0 d1 d2 d3 d4 d5 d6 d7
  have NO : Hid (TT = false → LL = []) := hide (fun h => by rw [HL0.out]; unfold insD; rw [← HT0.out, h]; rfl)
  cases q
  · have HF := hide (show TT = false by rw [HT0.out]; unfold insB; rw [← HQ.out]; rfl)
    go_wp2
    go_returns
    exact ⟨_, [], ret_tup HF.out, (NO.out HF.out).symm, recs_nil _ _ _, B1⟩
  go_wp2_with fail
  refine (HTK.out _ B1).mono ?_
  rintro e w2 ⟨rfl, b2⟩
  have b2s := b2.size
  have B2 : Below w.heap.size w w2 := B1.trans (b2.mono B1.size)
  have hx2 := (b2.block _ (lt_of_heap hx1)).trans hx1
  clear d0 d1 d2 d3 d4 d5 d6 d7 hx1 b2 HTK
  cases T
  · have HF := hide (show TT = false by rw [HT0.out]; unfold insB; rw [← HT.out]; simp)
    go_wp2
    go_returns
    exact ⟨_, [], ret_tup HF.out, (NO.out HF.out).symm, recs_nil _ _ _, B2⟩
  have HF := hide (show TT = true by rw [HT0.out]; unfold insB; rw [← HT.out, ← HQ.out]; rfl)
  have HLL := hide (show LL = putD (fsts ps) r.1 by rw [HL0.out]; unfold insD; rw [← HT0.out, HF.out]; rfl)
  have HA := hide (store_asc_of HQ.out.symm)
  have d0 := cells_at hx2 0
  have d1 := cells_at hx2 1
  have d2 := cells_at hx2 2
  have d3 := cells_at hx2 3
  have d4 := cells_at hx2 4
  have d5 := cells_at hx2 5
  have d6 := cells_at hx2 6
  have d7 := cells_at hx2 7
  simp at d0 d1 d2 d3 d4 d5 d6 d7
  have hz2 := lt_of_heap hx2
  have B2D : Below w.heap.size w w2.drew := B2.drew
  clear hx2
  go_wp2
  go_region_held3 (fun W => W.cell? ⟨w.heap.size, 0, none⟩ = some (.int .i64 r.1.area) ∧ W.cell? ⟨w.heap.size, 1, none⟩ = some (.int .i64 r.1.kind) ∧ W.cell? ⟨w.heap.size, 2, none⟩ = some (.int .i64 r.1.owner) ∧ W.cell? ⟨w.heap.size, 3, none⟩ = some (.int .i64 r.1.key) ∧ W.cell? ⟨w.heap.size, 4, none⟩ = some (.int .i64 r.1.seq) ∧ W.cell? ⟨w.heap.size, 5, none⟩ = some (.slice ra r.1.near.length rc) ∧ W.cell? ⟨w.heap.size, 6, none⟩ = some (.int .i64 r.1.cost) ∧ W.cell? ⟨w.heap.size, 7, none⟩ = some (.bool r.1.far)) (first | go_keep | (refine ⟨?_, ?_, ?_, ?_, ?_, ?_, ?_, ?_⟩ <;> (rw [b5.cell (by assumption), b4.cell (Nat.lt_of_lt_of_le (by assumption) b3.size), b3.cell (by assumption)]; assumption)) | (refine ⟨?_, ?_, ?_, ?_, ?_, ?_, ?_, ?_⟩ <;> (rw [b4.cell (Nat.lt_of_lt_of_le (by assumption) b3.size), b3.cell (by assumption)]; assumption)) | (refine ⟨?_, ?_, ?_, ?_, ?_, ?_, ?_, ?_⟩ <;> (rw [b3.cell (by assumption)]; assumption))) (first | (go_at_call 82; refine (HOW.out _ B2D).mono ?_; rintro e w3 ⟨x3, q3, rfl, f3, o3, b3⟩; obtain ⟨xa, xc, rfl⟩ := owns_lenS o3.row) | (go_at_call 84; refine (HOR.out _ (B2D.trans (b3.mono B2D.size))).mono ?_; rintro e w4 ⟨n4, rfl, o4, b4⟩; obtain ⟨na, nc, rfl⟩ := owns_lenS o4) | (go_at_call 83; refine (HPN.out _ _ _ _ _ _ f3 o3 o4 b4 b3.size hn HA.out).mono ?_; rintro e w5 ⟨x5, q5, rfl, f5, o5, b5⟩; obtain ⟨xa5, xc5, rfl⟩ := owns_lenS o5.row))
  all_goals skip
  have hB : Below w.heap.size w w5 := ((B2D.trans (b3.mono B2D.size)).trans (b4.mono (Nat.le_trans B2D.size b3.size))).trans (b5.mono B2D.size)
  have HB := hide hB
  have F5 := hide (f5.trans HLL.out.symm)
  have O5 := hide (o5.wide B2D.size (Nat.le_refl _))
  clear hB f5 o5 f3 o3 o4 b3 b4 b5
  go_wp2
  go_returns
  exact ⟨_, q5, ret_tup HF.out, F5.out, O5.out, HB.out⟩
end Go.Proofs.Ytmpfjlkncpckgaa
