/-
  (*impl.wayFinder).found: its walk.
-/
import Derived.Test.YtbmphbeocbgalaaGrL
namespace Go.Proofs.Ytbmphbeocbgalaa
open Go.RowKit

set_option linter.unusedSimpArgs false

theorem bdrM (n : Nat) (w : World) : Below w.heap.size w (w.drewN n) := ⟨rfl, rfl, rfl, Nat.le_refl _, fun _ _ => rfl⟩

theorem bdr1 (w : World) : Below w.heap.size w w.drew := ⟨rfl, rfl, rfl, Nat.le_refl _, fun _ _ => rfl⟩

/-- what found may end with -/
def FoundPost (W : World) (lo z : Nat) (u : Value) (n : Nat) (q : Nat → Nat) (bp : Nat → Option Nat) (wd : Nat → WayD) (wv : Nat → Value) (t : Nat) (x : WayD) (v : Value) (k : Nat) (W' : World) : Prop :=
  Below lo W W' ∧ (((bp t = none ∨ ∃ kn, bp t = some kn ∧ x.cost < (wd kn).cost) ∧ ∃ u' q', FS W' lo z u' (n + 1) q' (upd bp t (some k)) (upd wd k x) (upd wv k v) ∧ Shuf (fun y => if y = n then k else q y) q' (n + 1))
    ∨ (∃ kn vy, bp t = some kn ∧ ¬ x.cost < (wd kn).cost ∧ FS W' lo z u n q bp (upd wd kn (togI (wd kn) x)) (upd wv kn vy)))

set_option maxRecDepth 100000 in
set_option maxHeartbeats 4000000 in
theorem found_any (W : World) (lo z : Nat) (u : Value) (n : Nat) (q : Nat → Nat) (bp : Nat → Option Nat) (wd : Nat → WayD) (wv : Nat → Value) (t : Nat) (x : WayD) (v : Value) (s : FS W lo z u n q bp wd wv) (hn : n ≤ 500) (ht : 1 ≤ t ∧ t ≤ 6) (hx : x.to = (t : Int)) (hrow : W.ownsRow lo 3 1 v x.hops.length (flat intE x.hops)) (hxl : x.hops.length ≤ 6)
    (hfr : ∀ v' k' b, bp v' = some k' → (wv k').ownBlock = some b → v.ownBlock ≠ some b) (hjl : ∀ kn, bp t = some kn → ¬ x.cost < (wd kn).cost → (togI (wd kn) x).hops.length ≤ 6 ∧ (togI (wd kn) x).cost = (wd kn).cost ∧ (togI (wd kn) x).to = (wd kn).to) :
    Calls Try.prog 62 #[.pointer (some ⟨z, 0, none⟩), .agg (wayC x v)] W fun e W' => e = .returned (.tuple #[]) ∧ FoundPost W lo z u n q bp wd wv t x v W.heap.size W' := by
  obtain ⟨xa, xc, rfl⟩ := owns_lenS hrow
  have hlo := s.size
  have BA : Below W.heap.size W (W.alloc (.cells #[.int .i64 (t : Int), .int .i64 x.cost, .slice xa x.hops.length xc] 27)) := (Below.refl _ _).alloc (Nat.le_refl _) _
  have hkn := heap_alloc_new W (.cells #[.int .i64 (t : Int), .int .i64 x.cost, .slice xa x.hops.length xc] 27)
  obtain ⟨W1, hW1⟩ : ∃ V, V = W.alloc (.cells #[.int .i64 (t : Int), .int .i64 x.cost, .slice xa x.hops.length xc] 27) := ⟨_, rfl⟩
  rw [← hW1] at BA hkn
  have s1 := s.below BA
  have hrow1 := owns_below hrow BA (Nat.le_refl _)
  have hqk : ∀ i, i < n → q i ≠ W.heap.size := fun i hi e => by have := lt_of_heap (s.hb.hq.way i hi); omega
  have hbk : ∀ v, bp v ≠ some W.heap.size := fun v e => by have := lt_of_heap (s.way v _ e).1; omega
  have hsz1 := BA.size
  obtain ⟨P, hP⟩ : ∃ P, P = FoundPost W lo z u n q bp wd wv t x (.slice xa x.hops.length xc) W.heap.size := ⟨_, rfl⟩
  rw [← hP]
  obtain ⟨k, hk⟩ : ∃ k, k = W.heap.size := ⟨_, rfl⟩
  rw [← hk] at hkn hqk hbk hP
  have hlk : lo ≤ k := by omega
  have hwc : wayC x (.slice xa x.hops.length xc) = #[.int .i64 (t : Int), .int .i64 x.cost, .slice xa x.hops.length xc] := by unfold wayC; rw [hx]
  have hknc : W1.heap[k]? = some (.cells (wayC x (.slice xa x.hops.length xc)) 27) := by rw [hwc]; exact hkn
  have HPC := hide (show ∀ W2 W3, Below W1.heap.size W1 W2 → Below (W2.setCell ⟨z, t, none⟩ (.pointer (some ⟨k, 0, none⟩))).heap.size (W2.setCell ⟨z, t, none⟩ (.pointer (some ⟨k, 0, none⟩))) W3 → (bp t = none ∨ ∃ kn, bp t = some kn ∧ x.cost < (wd kn).cost) → Calls Try.prog 90 #[.iface 112 (.pointer (some ⟨z, 7, none⟩)), .iface 79 (.pointer (some ⟨k, 0, none⟩))] W3 fun e W' => e = .returned (.tuple #[]) ∧ P W' by
    intro W2 W3 b2 b3 hcase
    have s2 := s1.below b2
    have hk2 := (b2.block _ (lt_of_heap hknc)).trans hknc
    obtain ⟨p1, p2, p3⟩ := s2.put ht x (.slice xa x.hops.length xc) hqk hk2
    have hlo3 : lo ≤ W3.heap.size := by have h1 := b3.size; have h2 := b2.size; simp at h1; omega
    refine (heapPush_any W3 lo z n _ u q _ _ k (p1.below b3) hlo3 (by omega) rfl s.lz ((b3.block _ (lt_of_heap p2)).trans p2) ⟨xa, x.hops.length, xc, upd_same _ _ _⟩ ?_).mono ?_
    · intro i h0 hi
      have h1 := par_lt h0
      show (upd wd k x (q (par i))).cost ≤ (upd wd k x (q i)).cost
      rw [upd_other _ _ (hqk i hi), upd_other _ _ (hqk _ (by omega))]
      exact s.hp i h0 hi
    · rintro e W' ⟨u', q', rfl, hi, hsh, hb', f'⟩
      rw [finC_next] at hb'
      have fs := s2.pushed ht hx hxl hk2 hlk hbk (owns_below hrow1 b2 (Nat.le_refl _)) hfr (p3.trans (FK.of_below b3 (by have h2 := b2.size; simp; omega))) f' hb' hi
      refine ⟨rfl, ?_⟩
      rw [hP]
      exact ⟨((BA.mono hlo).trans (b2.mono (by omega))).trans ((p3.trans (FK.of_below b3 (by have h2 := b2.size; simp; omega))).trans f').below, .inl ⟨hcase, u', q', fs, hsh⟩⟩)
  have ka0 := cells_at hkn 0
  have ka1 := cells_at hkn 1
  have ka2 := cells_at hkn 2
  simp at ka0 ka1 ka2
  have kz := s1.known ht
  have lk1 := lt_of_heap hkn
  have lz1 := lt_of_heap s1.hb.box
  have fz1 := frozen_at s1.hb.box
  have hti : (0 : Int) ≤ (t : Int) := by omega
  have htj : (t : Int) < 7 := by omega
  cases hbt : bp t with
  | none =>
    rw [hbt] at kz
    unfold ptrO at kz
    have HPC := hide (fun W2 W3 a b => HPC.out W2 W3 a b (.inl hbt))
    rw [hwc]
    clear hbt hP hjl s s1 hrow hrow1 hfr hxl hx hwc hknc hkn
    go_enter Try.func62, Try.ntmps62
    go_wp2
    rw [← hW1, ← hk]
    clear hW1 hk
    go_quiet (fail)
    have B2 := bdrM nq W1
    have ka0 : (W1.drewN nq).cell? ⟨k, 0, none⟩ = some (.int .i64 (t : Int)) := ka0
    have kz : (W1.drewN nq).cell? ⟨z, t, none⟩ = some (.pointer none) := kz
    have fz1 : ∀ j, (W1.drewN nq).frozen? ⟨z, j, none⟩ = false := fz1
    generalize W1.drewN nq = W2 at *
    go_wp2
    go_quiet (fail)
    have B3 := B2.trans ((bdrM nq W2).mono B2.size)
    have ka0 : (W2.drewN nq).cell? ⟨k, 0, none⟩ = some (.int .i64 (t : Int)) := ka0
    have kz : (W2.drewN nq).cell? ⟨z, t, none⟩ = some (.pointer none) := kz
    have fz1 : ∀ j, (W2.drewN nq).frozen? ⟨z, j, none⟩ = false := fz1
    generalize W2.drewN nq = W3 at *
    have ft := fz1 t
    go_wp2
    go_region
    go_wp2_with fail
    refine (HPC.out W3 _ B3 (bdr1 _)).mono ?_
    rintro e w9 ⟨rfl, hPP⟩
    have HPP := hide hPP
    clear hPP
    go_wp2
    go_returns
    exact ⟨rfl, HPP.out⟩
  | some kn =>
    rw [hbt] at kz
    unfold ptrO at kz
    obtain ⟨y, hy⟩ : ∃ y, y = wd kn := ⟨_, rfl⟩
    have hway1 := (s1.way t kn hbt).1
    have hrowk := s1.row t kn hbt
    obtain ⟨ya, yc, hyv⟩ := owns_lenS hrowk
    rw [hyv, ← hy] at hway1
    rw [hyv, ← hy] at hrowk
    have hyl : y.hops.length ≤ 6 := by rw [hy]; exact s1.short t kn hbt
    have hkl := (s1.way t kn hbt).2
    have ln1 := lt_of_heap hway1
    have hkk : kn ≠ k := fun e => hbk t (by rw [hbt, e])
    have kb0 := cells_at hway1 0
    have kb1 := cells_at hway1 1
    have kb2 := cells_at hway1 2
    simp [wayC] at kb0 kb1 kb2
    have HBT := hide (fun W => ibetter_any (.slice xa x.hops.length xc) (.slice ya y.hops.length yc) x y W)
    rw [hwc] at HBT
    unfold wayC betterB at HBT
    have HTG := hide (fun V (hb : Below W1.heap.size W1 V) => itog_any y x (.slice ya y.hops.length yc) (.slice xa x.hops.length xc) lo lo V (owns_below hrowk hb (Nat.le_refl _)) (owns_below hrow1 hb (Nat.le_refl _)) (by omega) (by omega))
    rw [hwc] at HTG
    obtain ⟨r, hr⟩ : ∃ r, r = togI y x := ⟨_, rfl⟩
    rw [← hr] at HTG
    unfold wayC at HTG
    have HJN := hide (show ¬ x.cost < y.cost → ∀ W2 V va vc, Below W1.heap.size W1 V → Below V.heap.size V W2 → W2.ownsRow V.heap.size 3 1 (.slice va r.hops.length vc) r.hops.length (flat intE r.hops) → P (((W2.setCell ⟨kn, 0, none⟩ (.int .i64 r.to)).setCell ⟨kn, 1, none⟩ (.int .i64 r.cost)).setCell ⟨kn, 2, none⟩ (.slice va r.hops.length vc)) by
      intro hnc W2 V va vc hbV hb2 ho
      have hj := hjl kn hbt (by rw [← hy]; exact hnc)
      rw [← hy, ← hr] at hj
      have hbW2 : Below W1.heap.size W1 W2 := hbV.trans (hb2.mono hbV.size)
      have fs := s1.joined (y := r) (vy := .slice va r.hops.length vc) hbt (by rw [hj.2.1, hy]) (by rw [hj.2.2, hy]) hj.1 hbW2 hbV.size ho
      rw [hP]
      refine ⟨((BA.mono hlo).trans (hbW2.mono (by omega))).trans ⟨rfl, rfl, rfl, by simp, fun j hj' => by
        have G := grownW3 W2 kn r (.slice va r.hops.length vc)
        exact G.block j (by have := hbW2.size; omega) (by simp; omega)⟩, .inr ⟨kn, .slice va r.hops.length vc, hbt, by rw [← hy]; exact hnc, ?_⟩⟩
      rw [← hy, ← hr]
      exact fs)
    have HPC := hide (fun (hc : x.cost < y.cost) W2 W3 a b => HPC.out W2 W3 a b (.inr ⟨kn, hbt, by rw [← hy]; exact hc⟩))
    rw [hwc]
    have HWY := hide hway1
    clear hbt hP hjl s s1 hrow hrow1 hfr hxl hx hwc hknc hkn hy hr hyv hrowk hway1
    have hS1 : W1.cell? ⟨k, 0, none⟩ = some (.int .i64 (t : Int)) ∧ W1.cell? ⟨k, 1, none⟩ = some (.int .i64 x.cost) ∧ W1.cell? ⟨k, 2, none⟩ = some (.slice xa x.hops.length xc) ∧ W1.cell? ⟨kn, 0, none⟩ = some (.int .i64 y.to) ∧ W1.cell? ⟨kn, 1, none⟩ = some (.int .i64 y.cost) ∧ W1.cell? ⟨kn, 2, none⟩ = some (.slice ya y.hops.length yc) := ⟨ka0, ka1, ka2, kb0, kb1, kb2⟩
    clear ka0 ka1 ka2 kb0 kb1 kb2
    have ka0 := hS1.1
    go_enter Try.func62, Try.ntmps62
    go_wp2
    rw [← hW1, ← hk]
    clear hW1 hk
    go_quiet (fail)
    have B2 := bdrM nq W1
    have hS2 : (W1.drewN nq).cell? ⟨k, 0, none⟩ = some (.int .i64 (t : Int)) ∧ (W1.drewN nq).cell? ⟨k, 1, none⟩ = some (.int .i64 x.cost) ∧ (W1.drewN nq).cell? ⟨k, 2, none⟩ = some (.slice xa x.hops.length xc) ∧ (W1.drewN nq).cell? ⟨kn, 0, none⟩ = some (.int .i64 y.to) ∧ (W1.drewN nq).cell? ⟨kn, 1, none⟩ = some (.int .i64 y.cost) ∧ (W1.drewN nq).cell? ⟨kn, 2, none⟩ = some (.slice ya y.hops.length yc) := hS1
    have kz : (W1.drewN nq).cell? ⟨z, t, none⟩ = some (.pointer (some ⟨kn, 0, none⟩)) := kz
    have fz1 : ∀ j, (W1.drewN nq).frozen? ⟨z, j, none⟩ = false := fz1
    have lk2 : k < (W1.drewN nq).heap.size := lk1
    have ln2 : kn < (W1.drewN nq).heap.size := ln1
    have lz2 : z < (W1.drewN nq).heap.size := lz1
    clear ka0 hS1
    generalize W1.drewN nq = W2 at *
    go_wp2
    refine wp_region_noPanic ?_
    have hS0 : W2.drew.cell? ⟨k, 0, none⟩ = some (.int .i64 (t : Int)) ∧ W2.drew.cell? ⟨k, 1, none⟩ = some (.int .i64 x.cost) ∧ W2.drew.cell? ⟨k, 2, none⟩ = some (.slice xa x.hops.length xc) ∧ W2.drew.cell? ⟨kn, 0, none⟩ = some (.int .i64 y.to) ∧ W2.drew.cell? ⟨kn, 1, none⟩ = some (.int .i64 y.cost) ∧ W2.drew.cell? ⟨kn, 2, none⟩ = some (.slice ya y.hops.length yc) := hS2
    have lk3 : k < W2.drew.heap.size := lk2
    have ln3 : kn < W2.drew.heap.size := ln2
    refine wp_region_start (S := fun W => W.cell? ⟨k, 0, none⟩ = some (.int .i64 (t : Int)) ∧ W.cell? ⟨k, 1, none⟩ = some (.int .i64 x.cost) ∧ W.cell? ⟨k, 2, none⟩ = some (.slice xa x.hops.length xc) ∧ W.cell? ⟨kn, 0, none⟩ = some (.int .i64 y.to) ∧ W.cell? ⟨kn, 1, none⟩ = some (.int .i64 y.cost) ∧ W.cell? ⟨kn, 2, none⟩ = some (.slice ya y.hops.length yc)) (by kernel_rfl) 9 rfl hS0 ?_
    intro ops hops _
    show wpAnyH Try.prog .any ops _ _ 9 #[false, false, false, false, false, false, false, false, false] _ W2.drew
    refine take_do 0 (oi := ?_) (v := ?_) ?_ (by rw [hops.out]; kernel_rfl) ?_ ?_ ?_ (by assumption) ?_
    rotate_left 2
    · rw [hops.out]; simp only [List.getElem?_toArray, List.getElem?_cons_succ, List.getElem?_cons_zero]; rfl
    · rw [hops.out]; kernel_rfl
    · intro W hW; obtain ⟨k1, k2, k3, k4, k5, k6⟩ := hW; go_simp <;> with_reducible rfl
    · exact fun _ _ _ h => h
    try simp only [Act.put, List.setIfInBounds_toArray, List.set_cons_zero, List.set_cons_succ]
    refine take_do 1 (oi := ?_) (v := ?_) ?_ (by rw [hops.out]; kernel_rfl) ?_ ?_ ?_ (by assumption) ?_
    rotate_left 2
    · rw [hops.out]; simp only [List.getElem?_toArray, List.getElem?_cons_succ, List.getElem?_cons_zero]; rfl
    · rw [hops.out]; kernel_rfl
    · intro W hW; obtain ⟨k1, k2, k3, k4, k5, k6⟩ := hW; go_simp <;> with_reducible rfl
    · exact fun _ _ _ h => h
    try simp only [Act.put, List.setIfInBounds_toArray, List.set_cons_zero, List.set_cons_succ]
    refine take_do 2 (oi := ?_) (v := ?_) ?_ (by rw [hops.out]; kernel_rfl) ?_ ?_ ?_ (by assumption) ?_
    rotate_left 2
    · rw [hops.out]; simp only [List.getElem?_toArray, List.getElem?_cons_succ, List.getElem?_cons_zero]; rfl
    · rw [hops.out]; kernel_rfl
    · intro W hW; obtain ⟨k1, k2, k3, k4, k5, k6⟩ := hW; go_simp <;> with_reducible rfl
    · exact fun _ _ _ h => h
    try simp only [Act.put, List.setIfInBounds_toArray, List.set_cons_zero, List.set_cons_succ]
    refine take_do 3 (oi := ?_) (v := ?_) ?_ (by rw [hops.out]; kernel_rfl) ?_ ?_ ?_ (by assumption) ?_
    rotate_left 2
    · rw [hops.out]; simp only [List.getElem?_toArray, List.getElem?_cons_succ, List.getElem?_cons_zero]; rfl
    · rw [hops.out]; kernel_rfl
    · intro W hW; obtain ⟨k1, k2, k3, k4, k5, k6⟩ := hW; go_simp <;> with_reducible rfl
    · exact fun _ _ _ h => h
    try simp only [Act.put, List.setIfInBounds_toArray, List.set_cons_zero, List.set_cons_succ]
    refine take_do 4 (oi := ?_) (v := ?_) ?_ (by rw [hops.out]; kernel_rfl) ?_ ?_ ?_ (by assumption) ?_
    rotate_left 2
    · rw [hops.out]; simp only [List.getElem?_toArray, List.getElem?_cons_succ, List.getElem?_cons_zero]; rfl
    · rw [hops.out]; kernel_rfl
    · intro W hW; obtain ⟨k1, k2, k3, k4, k5, k6⟩ := hW; go_simp <;> with_reducible rfl
    · exact fun _ _ _ h => h
    try simp only [Act.put, List.setIfInBounds_toArray, List.set_cons_zero, List.set_cons_succ]
    refine take_do 5 (oi := ?_) (v := ?_) ?_ (by rw [hops.out]; kernel_rfl) ?_ ?_ ?_ (by assumption) ?_
    rotate_left 2
    · rw [hops.out]; simp only [List.getElem?_toArray, List.getElem?_cons_succ, List.getElem?_cons_zero]; rfl
    · rw [hops.out]; kernel_rfl
    · intro W hW; obtain ⟨k1, k2, k3, k4, k5, k6⟩ := hW; go_simp <;> with_reducible rfl
    · exact fun _ _ _ h => h
    try simp only [Act.put, List.setIfInBounds_toArray, List.set_cons_zero, List.set_cons_succ]
    refine take_do 6 (oi := ?_) (v := ?_) ?_ (by rw [hops.out]; kernel_rfl) ?_ ?_ ?_ (by assumption) ?_
    rotate_left 2
    · rw [hops.out]; simp only [List.getElem?_toArray, List.getElem?_cons_succ, List.getElem?_cons_zero]; rfl
    · rw [hops.out]; kernel_rfl
    · intro W hW; obtain ⟨k1, k2, k3, k4, k5, k6⟩ := hW; go_simp <;> with_reducible rfl
    · exact fun _ _ _ h => h
    try simp only [Act.put, List.setIfInBounds_toArray, List.set_cons_zero, List.set_cons_succ]
    refine take_call 7 (oi := ?_) ?_ (by rw [hops.out]; kernel_rfl) ?_ ?_
    rotate_left 1
    · rw [hops.out]; simp only [List.getElem?_toArray, List.getElem?_cons_succ, List.getElem?_cons_zero]; rfl
    · rw [hops.out]; kernel_rfl
    intro K hK
    go_simp
    refine (HBT.out _).mono ?_
    rintro e w4 ⟨rfl, b4⟩
    have hK4 : w4.cell? ⟨k, 0, none⟩ = some (.int .i64 (t : Int)) ∧ w4.cell? ⟨k, 1, none⟩ = some (.int .i64 x.cost) ∧ w4.cell? ⟨k, 2, none⟩ = some (.slice xa x.hops.length xc) ∧ w4.cell? ⟨kn, 0, none⟩ = some (.int .i64 y.to) ∧ w4.cell? ⟨kn, 1, none⟩ = some (.int .i64 y.cost) ∧ w4.cell? ⟨kn, 2, none⟩ = some (.slice ya y.hops.length yc) := by
      refine ⟨?_, ?_, ?_, ?_, ?_, ?_⟩ <;> (rw [b4.cell (by first | exact lk3 | exact ln3)]; first | exact hS0.1 | exact hS0.2.1 | exact hS0.2.2.1 | exact hS0.2.2.2.1 | exact hS0.2.2.2.2.1 | exact hS0.2.2.2.2.2)
    refine hK.out _ _ hK4 (fun _ => ?_)
    clear hK K
    try simp only [Act.put, List.setIfInBounds_toArray, List.set_cons_zero, List.set_cons_succ]
    refine take_do 8 (oi := ?_) (v := ?_) ?_ (by rw [hops.out]; kernel_rfl) ?_ ?_ ?_ (by assumption) ?_
    rotate_left 2
    · rw [hops.out]; simp only [List.getElem?_toArray, List.getElem?_cons_succ, List.getElem?_cons_zero]; rfl
    · rw [hops.out]; kernel_rfl
    · intro W hW; obtain ⟨k1, k2, k3, k4, k5, k6⟩ := hW; go_simp <;> with_reducible rfl
    · exact fun _ _ _ h => h
    try simp only [Act.put, List.setIfInBounds_toArray, List.set_cons_zero, List.set_cons_succ]
    refine wpAnyH_done (by rw [hops.out]; kernel_rfl) ?_ _
    clear hops ops
    refine NoPanic.normal ?_
    have B4 : Below W1.heap.size W1 w4 := (B2.trans ((bdr1 W2).mono B2.size)).trans (b4.mono B2.size)
    by_cases hcc : x.cost < y.cost
    · rw [decide_eq_true hcc]
      have kz4 : w4.cell? ⟨z, t, none⟩ = some (.pointer (some ⟨kn, 0, none⟩)) := (b4.cell lz2).trans kz
      have fz4 : w4.frozen? ⟨z, t, none⟩ = false := (b4.frozen lz2).trans (fz1 t)
      have ka4 := hK4.1
      have HPC := hide (HPC.out hcc)
      clear hK4 hS0 hS2 HJN HTG HBT b4
      go_wp2
      go_region
      go_wp2_with fail
      refine (HPC.out w4 _ B4 (bdr1 _)).mono ?_
      rintro e w9 ⟨rfl, hPP⟩
      have HPP := hide hPP
      clear hPP
      go_wp2
      go_returns
      exact ⟨rfl, HPP.out⟩
    · rw [decide_eq_false hcc]
      have HJN := hide (HJN.out (by omega))
      have hkn4 := (B4.block _ ln1).trans HWY.out
      have hB5d : Below W1.heap.size W1 w4.drew := B4.trans ((bdr1 w4).mono B4.size)
      have ln5d : kn < w4.drew.heap.size := lt_of_heap hkn4
      have hkn5 : w4.drew.heap[kn]? = some (.cells (wayC y (.slice ya y.hops.length yc)) 27) := hkn4
      unfold wayC at hkn5
      clear hS0 hS2 HPC HBT b4 hkn4
      go_wp2
      refine wp_region_noPanic ?_
      refine wp_region_start (S := fun _ => True) (by kernel_rfl) 8 rfl trivial ?_
      intro ops hops _
      have a0 : w4.drew.cell? ⟨k, 0, none⟩ = some (.int .i64 (t : Int)) := hK4.1
      have a1 : w4.drew.cell? ⟨k, 1, none⟩ = some (.int .i64 x.cost) := hK4.2.1
      have a2 : w4.drew.cell? ⟨k, 2, none⟩ = some (.slice xa x.hops.length xc) := hK4.2.2.1
      have a3 : w4.drew.cell? ⟨kn, 0, none⟩ = some (.int .i64 y.to) := hK4.2.2.2.1
      have a4 : w4.drew.cell? ⟨kn, 1, none⟩ = some (.int .i64 y.cost) := hK4.2.2.2.2.1
      have a5 : w4.drew.cell? ⟨kn, 2, none⟩ = some (.slice ya y.hops.length yc) := hK4.2.2.2.2.2
      show wpAnyH Try.prog .any ops _ (fun _ => True) 8 #[false, false, false, false, false, false, false, false] _ w4.drew
      refine take_do 0 (oi := ?_) (v := ?_) ?_ (by rw [hops.out]; kernel_rfl) ?_ ?_ ?_ trivial ?_
      rotate_left 2
      · rw [hops.out]; simp only [List.getElem?_toArray, List.getElem?_cons_succ, List.getElem?_cons_zero]; rfl
      · rw [hops.out]; kernel_rfl
      · intro W _; go_simp <;> with_reducible rfl
      · exact fun _ _ _ h => h
      try simp only [Act.put, List.setIfInBounds_toArray, List.set_cons_zero, List.set_cons_succ]
      refine take_do 1 (oi := ?_) (v := ?_) ?_ (by rw [hops.out]; kernel_rfl) ?_ ?_ ?_ trivial ?_
      rotate_left 2
      · rw [hops.out]; simp only [List.getElem?_toArray, List.getElem?_cons_succ, List.getElem?_cons_zero]; rfl
      · rw [hops.out]; kernel_rfl
      · intro W _; go_simp <;> with_reducible rfl
      · exact fun _ _ _ h => h
      try simp only [Act.put, List.setIfInBounds_toArray, List.set_cons_zero, List.set_cons_succ]
      refine take_do 2 (oi := ?_) (v := ?_) ?_ (by rw [hops.out]; kernel_rfl) ?_ ?_ ?_ trivial ?_
      rotate_left 2
      · rw [hops.out]; simp only [List.getElem?_toArray, List.getElem?_cons_succ, List.getElem?_cons_zero]; rfl
      · rw [hops.out]; kernel_rfl
      · intro W _; go_simp <;> with_reducible rfl
      · exact fun _ _ _ h => h
      try simp only [Act.put, List.setIfInBounds_toArray, List.set_cons_zero, List.set_cons_succ]
      refine wpAnyH_ready (rs := [3, 4]) (by rw [hops.out]; kernel_rfl) (by simp) ?_
      refine AllReadyH.cons (o := ?_) ?_ (fun K hK => ?_) ?_
      rotate_left 1
      · rw [hops.out]; simp only [List.getElem?_toArray, List.getElem?_cons_succ, List.getElem?_cons_zero]; rfl
      · rw [if_pos (by rfl)]
        go_simp
        refine hK.out _ _ trivial (fun _ => ?_)
        clear hK K
        try simp only [Act.put, List.setIfInBounds_toArray, List.set_cons_zero, List.set_cons_succ]
        refine wpAnyH_ready (rs := [4]) (by rw [hops.out]; kernel_rfl) (by simp) ?_
        refine AllReadyH.cons (o := ?_) ?_ (fun K hK => ?_) ?_
        rotate_left 1
        · rw [hops.out]; simp only [List.getElem?_toArray, List.getElem?_cons_succ, List.getElem?_cons_zero]; rfl
        · rw [if_pos (by rfl)]
          go_simp
          refine hK.out _ _ trivial (fun _ => ?_)
          clear hK K
          try simp only [Act.put, List.setIfInBounds_toArray, List.set_cons_zero, List.set_cons_succ]
          refine take_call 5 (oi := ?_) ?_ (by rw [hops.out]; kernel_rfl) ?_ ?_
          rotate_left 1
          · rw [hops.out]; simp only [List.getElem?_toArray, List.getElem?_cons_succ, List.getElem?_cons_zero]; rfl
          · rw [hops.out]; kernel_rfl
          intro K hK
          go_simp
          refine (HTG.out w4.drew hB5d).mono ?_
          rintro e w6 ⟨vy, rfl, hoy, b6⟩
          obtain ⟨va, vc, rfl⟩ := owns_lenS hoy
          refine hK.out _ _ trivial (fun _ => ?_)
          clear hK K
          try simp only [Act.put, List.setIfInBounds_toArray, List.set_cons_zero, List.set_cons_succ]
          refine take_do 6 (oi := ?_) (v := ?_) ?_ (by rw [hops.out]; kernel_rfl) ?_ ?_ ?_ trivial ?_
          rotate_left 2
          · rw [hops.out]; simp only [List.getElem?_toArray, List.getElem?_cons_succ, List.getElem?_cons_zero]; rfl
          · rw [hops.out]; kernel_rfl
          · intro W _; go_simp <;> with_reducible rfl
          · exact fun _ _ _ h => h
          try simp only [Act.put, List.setIfInBounds_toArray, List.set_cons_zero, List.set_cons_succ]
          have hz6 := (b6.block _ ln5d).trans hkn5
          have u0 := cells_at hz6 0
          have u1 := cells_at hz6 1
          have u2 := cells_at hz6 2
          simp at u0 u1 u2
          have fu := frozen_at hz6
          have FIN := hide (HJN.out w6 w4.drew va vc hB5d b6 hoy)
          clear hz6 hoy b6
          refine take_call 7 (oi := ?_) ?_ (by rw [hops.out]; kernel_rfl) ?_ ?_
          rotate_left 1
          · rw [hops.out]; simp only [List.getElem?_toArray, List.getElem?_cons_succ, List.getElem?_cons_zero]; rfl
          · rw [hops.out]; kernel_rfl
          intro K hK
          go_simp
          refine hK.out _ _ trivial (fun _ => ?_)
          clear hK K
          try simp only [Act.put, List.setIfInBounds_toArray, List.set_cons_zero, List.set_cons_succ]
          refine wpAnyH_done (by rw [hops.out]; kernel_rfl) ?_ _
          clear hops ops
          refine NoPanic.normal ?_
          go_wp2
          go_returns
          exact ⟨rfl, FIN.out⟩
        exact AllReadyH.nil
      refine AllReadyH.cons (o := ?_) ?_ (fun K hK => ?_) ?_
      rotate_left 1
      · rw [hops.out]; simp only [List.getElem?_toArray, List.getElem?_cons_succ, List.getElem?_cons_zero]; rfl
      · rw [if_pos (by rfl)]
        go_simp
        refine hK.out _ _ trivial (fun _ => ?_)
        clear hK K
        try simp only [Act.put, List.setIfInBounds_toArray, List.set_cons_zero, List.set_cons_succ]
        refine wpAnyH_ready (rs := [3]) (by rw [hops.out]; kernel_rfl) (by simp) ?_
        refine AllReadyH.cons (o := ?_) ?_ (fun K hK => ?_) ?_
        rotate_left 1
        · rw [hops.out]; simp only [List.getElem?_toArray, List.getElem?_cons_succ, List.getElem?_cons_zero]; rfl
        · rw [if_pos (by rfl)]
          go_simp
          refine hK.out _ _ trivial (fun _ => ?_)
          clear hK K
          try simp only [Act.put, List.setIfInBounds_toArray, List.set_cons_zero, List.set_cons_succ]
          refine take_call 5 (oi := ?_) ?_ (by rw [hops.out]; kernel_rfl) ?_ ?_
          rotate_left 1
          · rw [hops.out]; simp only [List.getElem?_toArray, List.getElem?_cons_succ, List.getElem?_cons_zero]; rfl
          · rw [hops.out]; kernel_rfl
          intro K hK
          go_simp
          refine (HTG.out w4.drew hB5d).mono ?_
          rintro e w6 ⟨vy, rfl, hoy, b6⟩
          obtain ⟨va, vc, rfl⟩ := owns_lenS hoy
          refine hK.out _ _ trivial (fun _ => ?_)
          clear hK K
          try simp only [Act.put, List.setIfInBounds_toArray, List.set_cons_zero, List.set_cons_succ]
          refine take_do 6 (oi := ?_) (v := ?_) ?_ (by rw [hops.out]; kernel_rfl) ?_ ?_ ?_ trivial ?_
          rotate_left 2
          · rw [hops.out]; simp only [List.getElem?_toArray, List.getElem?_cons_succ, List.getElem?_cons_zero]; rfl
          · rw [hops.out]; kernel_rfl
          · intro W _; go_simp <;> with_reducible rfl
          · exact fun _ _ _ h => h
          try simp only [Act.put, List.setIfInBounds_toArray, List.set_cons_zero, List.set_cons_succ]
          have hz6 := (b6.block _ ln5d).trans hkn5
          have u0 := cells_at hz6 0
          have u1 := cells_at hz6 1
          have u2 := cells_at hz6 2
          simp at u0 u1 u2
          have fu := frozen_at hz6
          have FIN := hide (HJN.out w6 w4.drew va vc hB5d b6 hoy)
          clear hz6 hoy b6
          refine take_call 7 (oi := ?_) ?_ (by rw [hops.out]; kernel_rfl) ?_ ?_
          rotate_left 1
          · rw [hops.out]; simp only [List.getElem?_toArray, List.getElem?_cons_succ, List.getElem?_cons_zero]; rfl
          · rw [hops.out]; kernel_rfl
          intro K hK
          go_simp
          refine hK.out _ _ trivial (fun _ => ?_)
          clear hK K
          try simp only [Act.put, List.setIfInBounds_toArray, List.set_cons_zero, List.set_cons_succ]
          refine wpAnyH_done (by rw [hops.out]; kernel_rfl) ?_ _
          clear hops ops
          refine NoPanic.normal ?_
          go_wp2
          go_returns
          exact ⟨rfl, FIN.out⟩
        exact AllReadyH.nil
      exact AllReadyH.nil
end Go.Proofs.Ytbmphbeocbgalaa
