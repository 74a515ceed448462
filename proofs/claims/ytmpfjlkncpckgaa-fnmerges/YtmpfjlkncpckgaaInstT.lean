/-
  spec.Install: its contract; how long a store can be.
-/
import Derived.Test.YtmpfjlkncpckgaaInstI
import Derived.Test.YtmpfjlkncpckgaaLaw5K
namespace Go.Proofs.Ytmpfjlkncpckgaa
open Go.RowKit

set_option linter.unusedSimpArgs false

theorem allOk_at {α : Type} {f : α → Bool} {xs : List α} (h : allOk f xs = true) (i : Nat) (hi : i < xs.length) : f xs[i] = true := by
  have h1 := List.all_eq_true.1 h i (List.mem_range.2 hi)
  unfold okAt at h1
  rw [List.getElem?_eq_getElem hi] at h1
  exact h1

theorem nears_le {o : Int} {ns : List Nr} (h : nearsB o ns = true) : ns.length ≤ 6 := by
  unfold nearsB at h
  simp only [Bool.and_eq_true] at h
  have hb : ∀ i (hi : i < ns.length), (i : Int) + 1 ≤ ns[i].to := by
    intro i
    induction i with
    | zero =>
      intro hi
      have h1 := allOk_at h.1 0 hi
      unfold nearOkB inB at h1
      simp only [Bool.and_eq_true, decide_eq_true_eq] at h1
      omega
    | succ i ih =>
      intro hi
      have h1 := ih (by omega)
      have h2 := List.all_eq_true.1 h.2 (i + 1) (List.mem_range.2 hi)
      rw [ascAt_eq (List.getElem?_eq_getElem (by omega)) (List.getElem?_eq_getElem hi)] at h2
      unfold ordN at h2
      simp only [decide_eq_true_eq] at h2
      omega
  cases Nat.lt_or_ge 6 ns.length with
  | inr h0 => exact h0
  | inl h0 =>
    have h1 := hb 6 h0
    have h2 := allOk_at h.1 6 h0
    unfold nearOkB inB at h2
    simp only [Bool.and_eq_true, decide_eq_true_eq] at h2
    omega

theorem recOk_near {x : RecD} (h : recOkB x = true) : x.near.length ≤ 6 := by
  unfold recOkB at h
  simp only [Bool.and_eq_true] at h
  have h2 := h.2
  split at h2
  · simp only [Bool.and_eq_true] at h2
    exact nears_le h2.1.1.2
  · split at h2
    · simp only [Bool.and_eq_true, beq_iff_eq] at h2
      omega
    · split at h2
      · simp only [Bool.and_eq_true, beq_iff_eq] at h2
        omega
      · cases h2

theorem totD_le {xs : List RecD} (h : ∀ x ∈ xs, recOkB x = true) : totD xs ≤ xs.length * 7 := by
  induction xs with
  | nil => simp [totD]
  | cons x xs ih =>
    rw [totD_cons, List.length_cons]
    have h1 := ih (fun y hy => h y (List.mem_cons_of_mem _ hy))
    have h2 := recOk_near (h x (List.mem_cons_self ..))
    omega

theorem store_ok {xs : List RecD} (h : storeB xs = true) : xs.length ≤ 150 ∧ (∀ x ∈ xs, recOkB x = true) ∧ Asc xs := by
  have h1 := store_asc_of h
  unfold storeB at h
  simp only [Bool.and_eq_true, decide_eq_true_eq] at h
  refine ⟨h.1.1, ?_, h1⟩
  intro x hx
  obtain ⟨i, hi, e⟩ := List.getElem_of_mem hx
  rw [← e]
  exact allOk_at h.1.2 i hi

theorem store_tot {xs : List RecD} (h : storeB xs = true) : totD xs ≤ 1050 := by
  have h1 := store_ok h
  have h2 := totD_le h1.2.1
  omega

theorem takes_ok {xs : List RecD} {r : RecD} (h : takesB xs r = true) : recOkB r = true := by
  unfold takesB at h
  simp only [Bool.and_eq_true] at h
  exact h.1

theorem put_tot (xs : List RecD) (r : RecD) : totD (putD xs r) ≤ totD xs + (1 + r.near.length) := by
  have h := tot_put (xs.map (fun x => (x, Value.slice none 0 0))) (r, Value.slice none 0 0)
  rw [tot_D, tot_D, putL_fsts] at h
  have e : fsts (xs.map (fun x => (x, Value.slice none 0 0))) = xs := by simp [fsts, List.map_map, Function.comp_def]
  rw [e] at h
  exact h

theorem insD_tot (xs : List RecD) (r : RecD) : totD (insD xs r) ≤ 1057 := by
  unfold insD
  split
  · rename_i h
    unfold insB at h
    simp only [Bool.and_eq_true] at h
    have h1 := store_tot h.1
    have h2 := recOk_near (takes_ok h.2)
    have h3 := put_tot xs r
    omega
  · simp [totD]

set_option maxRecDepth 100000 in
set_option maxHeartbeats 4000000 in
theorem sInst_any (v : Value) (ps : List RP) (hi : Nat) (r : RP) (w : World) (hv : RecsIn w hi v ps) (hhi : hi ≤ w.heap.size) (hn : tot ps ≤ 1048576) (hr : NearOwn w 0 hi r) (hrl : r.1.near.length ≤ 1048576) :
    Calls Try.prog 48 #[v, .agg (recC r.1 r.2)] w fun e w' => ∃ x qs, e = .returned (.tuple #[x, .bool (insB (fsts ps) r.1)]) ∧ fsts qs = insD (fsts ps) r.1 ∧ RecsOwn w' w.heap.size w'.heap.size x qs ∧ Below w.heap.size w w' := by
  have hTL := insD_tot (fsts ps) r.1
  obtain ⟨TT, hTT⟩ : ∃ T, T = insB (fsts ps) r.1 := ⟨_, rfl⟩
  obtain ⟨LL, hLL⟩ : ∃ T, T = insD (fsts ps) r.1 := ⟨_, rfl⟩
  rw [← hTT, ← hLL]
  have HT0 := hide hTT
  have HL0 := hide hLL
  clear hTT hLL
  have hnl := tot_len ps
  obtain ⟨a1, c1, rfl⟩ := owns_lenS hv.row
  obtain ⟨ra, rc, hrn⟩ := owns_lenS hr.1
  have BX : Below w.heap.size w (w.alloc (.cells #[.int .i64 r.1.area, .int .i64 r.1.kind, .int .i64 r.1.owner, .int .i64 r.1.key, .int .i64 r.1.seq, .slice ra r.1.near.length rc, .int .i64 r.1.cost, .bool r.1.far] 26)) := (Below.refl _ _).alloc (Nat.le_refl _) _
  have hx := heap_alloc_new w (.cells #[.int .i64 r.1.area, .int .i64 r.1.kind, .int .i64 r.1.owner, .int .i64 r.1.key, .int .i64 r.1.seq, .slice ra r.1.near.length rc, .int .i64 r.1.cost, .bool r.1.far] 26)
  obtain ⟨w0, hw0⟩ : ∃ w0, w0 = w.alloc (.cells #[.int .i64 r.1.area, .int .i64 r.1.kind, .int .i64 r.1.owner, .int .i64 r.1.key, .int .i64 r.1.seq, .slice ra r.1.near.length rc, .int .i64 r.1.cost, .bool r.1.far] 26) := ⟨_, rfl⟩
  rw [← hw0] at BX hx
  have hsx := lt_of_heap hx
  have HST := hide (sstoreOk_any (.slice a1 ps.length c1) ps w0 hn (((hv.below BX hhi).at).more (by have := BX.size; omega)))
  have HIN := hide (fun W (hb : Below w.heap.size w W) => sinst_any (.slice a1 ps.length c1) ps hi r W (hv.below hb hhi) (by have := hb.size; omega) hn (hr.keep (fun j _ h2 _ => hb.block j (by omega))) hrl)
  unfold recC at *
  rw [hrn] at HIN ⊢
  clear hv hr hrn
  obtain ⟨q, hq⟩ : ∃ q, q = storeB (fsts ps) := ⟨_, rfl⟩
  rw [← hq] at HST
  have HQ := hide hq
  obtain ⟨T, hT⟩ : ∃ T, T = takesB (fsts ps) r.1 := ⟨_, rfl⟩
  rw [← hT] at HIN
  have HT := hide hT
  clear hq hT
  go_enter Try.func48, Try.ntmps48
  go_wp2_with fail
  rw [← hw0]
  clear hw0
  refine HST.out.mono ?_
  rintro e w1 ⟨rfl, b1⟩
  have b1s := b1.size
  have B1 : Below w.heap.size w w1 := BX.trans (b1.mono BX.size)
  have hx1 := (b1.block _ hsx).trans hx
  clear hx b1 HST
  have d0 := cells_at hx1 0
  have d1 := cells_at hx1 1
  have d2 := cells_at hx1 2
  have d3 := cells_at hx1 3
  have d4 := cells_at hx1 4
  have d5 := cells_at hx1 5
  have d6 := cells_at hx1 6
  have d7 := cells_at hx1 7
  simp at d0 d1 d2 d3 d4 d5 d6 d7
  have NO : Hid (TT = false → LL = []) := hide (fun h => by rw [HL0.out]; unfold insD; rw [← HT0.out, h]; rfl)
  cases q
  · have HF := hide (show TT = false by rw [HT0.out]; unfold insB; rw [← HQ.out]; rfl)
    have RL := hide (recs_lit w1 w.heap.size B1.size)
    have BL := hide (B1.alloc B1.size (.cells #[] 26))
    go_wp2
    go_returns
    exact ⟨_, [], ret_tup HF.out, (NO.out HF.out).symm, RL.out, BL.out⟩
  go_wp2_with fail
  refine (HIN.out _ B1).mono ?_
  rintro e w2 ⟨x2, rfl, o2, b2⟩
  have b2s := b2.size
  have B2 : Below w.heap.size w w2 := B1.trans (b2.mono B1.size)
  clear d0 d1 d2 d3 d4 d5 d6 d7 hx1 b2 HIN
  cases T
  · have HF := hide (show TT = false by rw [HT0.out]; unfold insB; rw [← HT.out]; simp)
    have RL := hide (recs_lit w2 w.heap.size B2.size)
    have BL := hide (B2.alloc B2.size (.cells #[] 26))
    obtain ⟨xa, xc, rfl⟩ := owns_lenS o2.row
    clear o2
    go_wp2
    go_returns
    exact ⟨_, [], ret_tup HF.out, (NO.out HF.out).symm, RL.out, BL.out⟩
  have HF := hide (show TT = true by rw [HT0.out]; unfold insB; rw [← HT.out, ← HQ.out]; rfl)
  have HLL := hide (show fsts (instL ps r) = LL by rw [HL0.out, instL_fsts]; unfold insD instD; rw [← HT0.out, HF.out, ← HT.out]; rfl)
  have HCL := hide (copyList_any x2 (instL ps r) w2.heap.size w2 o2 (Nat.le_refl _) (by rw [tot_D, HLL.out, HL0.out]; omega))
  obtain ⟨xa, xc, rfl⟩ := owns_lenS o2.row
  clear o2
  go_wp2_with fail
  refine HCL.out.mono ?_
  rintro e w3 ⟨x3, q3, rfl, f3, o3, b3⟩
  obtain ⟨ya, yc, rfl⟩ := owns_lenS o3.row
  have F3 := hide (f3.trans HLL.out)
  have O3 := hide (o3.wide B2.size (Nat.le_refl _))
  have B3 : Below w.heap.size w w3 := B2.trans (b3.mono B2.size)
  clear f3 o3 b3 HCL
  go_wp2
  go_returns
  exact ⟨_, q3, ret_tup HF.out, F3.out, O3.out, B3⟩
end Go.Proofs.Ytmpfjlkncpckgaa
