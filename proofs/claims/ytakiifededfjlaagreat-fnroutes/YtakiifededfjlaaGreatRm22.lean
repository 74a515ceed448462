/-
  (*impl.wayFinder).found: its walk.
  impl.onward: its contract.
  impl.placeOfNode, toldCost, Linked: their contracts; over a right store.
-/
import Derived.Test.YtakiifededfjlaaGreatRm21
import Derived.Test.YtakiifededfjlaaGreatRm8
import Derived.Test.YtakiifededfjlaaGreatRm7
import Derived.Test.YtakiifededfjlaaGreatRm2
namespace Go.Proofs.YtakiifededfjlaaGreat
open Go.RowKit
set_option linter.unusedSimpArgs false
set_option linter.unusedVariables false
set_option maxRecDepth 100000
set_option maxHeartbeats 8000000
theorem bdrM (n : Nat) (w : World) : Below w.heap.size w (w.drewN n) := ⟨rfl, rfl, rfl, Nat.le_refl _, fun _ _ => rfl⟩
theorem bdr1 (w : World) : Below w.heap.size w w.drew := ⟨rfl, rfl, rfl, Nat.le_refl _, fun _ _ => rfl⟩
def ZiQ (W : World) (lo z : Nat) (u : Value) (n : Nat) (q : Nat -> Nat) (bp : Nat -> Option Nat) (wd : Nat -> WayD) (wv : Nat -> Value) (t : Nat) (x : WayD) (v : Value) (k : Nat) (W' : World) : Prop :=
 Below lo W W' /\ (((bp t = none \/ ∃ kn, bp t = some kn /\ x.cost < (wd kn).cost) /\ ∃ u' q', FS W' lo z u' (n + 1) q' (upd bp t (some k)) (upd wd k x) (upd wv k v) /\ Shuf (fun y => if y = n then k else q y) q' (n + 1))
  \/ (∃ kn vy, bp t = some kn /\ ¬ x.cost < (wd kn).cost /\ FS W' lo z u n q bp (upd wd kn (togI (wd kn) x)) (upd wv kn vy)))
theorem Zic (W : World) (lo z : Nat) (u : Value) (n : Nat) (q : Nat -> Nat) (bp : Nat -> Option Nat) (wd : Nat -> WayD) (wv : Nat -> Value) (t : Nat) (x : WayD) (v : Value) (s : FS W lo z u n q bp wd wv) (hn : n <= 500) (ht : 1 <= t /\ t <= 6) (hx : x.to = (t : Int)) (hrow : W.ownsRow lo 3 1 v x.hops.length (flat intE x.hops)) (hxl : x.hops.length <= 6)
  (hfr : ∀ v' k' b, bp v' = some k' -> (wv k').ownBlock = some b -> v.ownBlock ≠ some b) (hjl : ∀ kn, bp t = some kn -> ¬ x.cost < (wd kn).cost -> (togI (wd kn) x).hops.length <= 6 /\ (togI (wd kn) x).cost = (wd kn).cost /\ (togI (wd kn) x).to = (wd kn).to) :
  Calls Tryz.prog 72 #[.pointer (some ⟨z, 0, none⟩), .agg (wayC x v)] W fun e W' => e = .returned (.tuple #[]) /\ ZiQ W lo z u n q bp wd wv t x v W.heap.size W' := by
 obtain ⟨xa, xc, rfl⟩ := Zac hrow
 have hlo := s.size
 have BA : Below W.heap.size W (W.alloc (.cells #[.int .i64 (t : Int), .int .i64 x.cost, .slice xa x.hops.length xc] 46)) := (Below.refl _ _).alloc (Nat.le_refl _) _
 have hkn := heap_alloc_new W (.cells #[.int .i64 (t : Int), .int .i64 x.cost, .slice xa x.hops.length xc] 46)
 obtain ⟨W1, hW1⟩ : ∃ V, V = W.alloc (.cells #[.int .i64 (t : Int), .int .i64 x.cost, .slice xa x.hops.length xc] 46) := ⟨_, rfl⟩
 rw [<- hW1] at BA hkn
 have s1 := s.below BA
 have hrow1 := Zae hrow BA (Nat.le_refl _)
 have hqk : ∀ i, i < n -> q i ≠ W.heap.size := fun i hi e => by have := Zab (s.hb.hq.way i hi); omega
 have hbk : ∀ v, bp v ≠ some W.heap.size := fun v e => by have := Zab (s.way v _ e).1; omega
 have hsz1 := BA.size
 obtain ⟨P, hP⟩ : ∃ P, P = ZiQ W lo z u n q bp wd wv t x (.slice xa x.hops.length xc) W.heap.size := ⟨_, rfl⟩
 rw [<- hP]
 obtain ⟨k, hk⟩ : ∃ k, k = W.heap.size := ⟨_, rfl⟩
 rw [<- hk] at hkn hqk hbk hP
 have hlk : lo <= k := by omega
 have hwc : wayC x (.slice xa x.hops.length xc) = #[.int .i64 (t : Int), .int .i64 x.cost, .slice xa x.hops.length xc] := by unfold wayC; rw [hx]
 have hknc : W1.heap[k]? = some (.cells (wayC x (.slice xa x.hops.length xc)) 46) := by rw [hwc]; exact hkn
 have HPC := hide (show ∀ W2 W3, Below W1.heap.size W1 W2 -> Below (W2.setCell ⟨z, t, none⟩ (.pointer (some ⟨k, 0, none⟩))).heap.size (W2.setCell ⟨z, t, none⟩ (.pointer (some ⟨k, 0, none⟩))) W3 -> (bp t = none \/ ∃ kn, bp t = some kn /\ x.cost < (wd kn).cost) -> Calls Tryz.prog 100 #[.iface 146 (.pointer (some ⟨z, 7, none⟩)), .iface 115 (.pointer (some ⟨k, 0, none⟩))] W3 fun e W' => e = .returned (.tuple #[]) /\ P W' by
  intro W2 W3 b2 b3 hcase
  have s2 := s1.below b2
  have hk2 := (b2.block _ (Zab hknc)).trans hknc
  obtain ⟨p1, p2, p3⟩ := s2.put ht x (.slice xa x.hops.length xc) hqk hk2
  have hlo3 : lo <= W3.heap.size := by have h1 := b3.size; have h2 := b2.size; simp at h1; omega
  refine (Ziy W3 lo z n _ u q _ _ k (p1.below b3) hlo3 (by omega) rfl s.lz ((b3.block _ (Zab p2)).trans p2) ⟨xa, x.hops.length, xc, Zau _ _ _⟩ ?_).mono ?_
  ·intro i h0 hi
   have h1 := Zdf h0
   show (upd wd k x (q (par i))).cost <= (upd wd k x (q i)).cost
   rw [Zao _ _ (hqk i hi), Zao _ _ (hqk _ (by omega))]
   exact s.hp i h0 hi
  ·rintro e W' ⟨u', q', rfl, hi, hsh, hb', f'⟩
   rw [Zge] at hb'
   have fs := s2.pushed ht hx hxl hk2 hlk hbk (Zae hrow1 b2 (Nat.le_refl _)) hfr (p3.trans (FK.of_below b3 (by have h2 := b2.size; simp; omega))) f' hb' hi
   refine ⟨rfl, ?_⟩
   rw [hP]
   exact ⟨((BA.mono hlo).trans (b2.mono (by omega))).trans ((p3.trans (FK.of_below b3 (by have h2 := b2.size; simp; omega))).trans f').below, .inl ⟨hcase, u', q', fs, hsh⟩⟩)
 have ka0 := Zaa hkn 0
 have ka1 := Zaa hkn 1
 have ka2 := Zaa hkn 2
 simp at ka0 ka1 ka2
 have kz := s1.known ht
 have lk1 := Zab hkn
 have lz1 := Zab s1.hb.box
 have fz1 := Zaf s1.hb.box
 have hti : (0 : Int) <= (t : Int) := by omega
 have htj : (t : Int) < 7 := by omega
 cases hbt : bp t with
 | none =>
  rw [hbt] at kz
  unfold ptrO at kz
  have HPC := hide (fun W2 W3 a b => HPC.out W2 W3 a b (.inl hbt))
  rw [hwc]
  clear hbt hP hjl s s1 hrow hrow1 hfr hxl hx hwc hknc hkn
  go_enter Tryz.func72, Tryz.ntmps72
  go_wp2
  rw [<- hW1, <- hk]
  clear hW1 hk
  go_quiet (fail)
  have B2 := bdrM nq W1
  have ka0 : (W1.drewN nq).cell? ⟨k, 0, none⟩ = some (.int .i64 (t : Int)) := ka0
  have kz : (W1.drewN nq).cell? ⟨z, t, none⟩ = some (.pointer none) := kz
  have fz1 : ∀ j, (W1.drewN nq).frozen? ⟨z, j, none⟩ = false := fz1
  generalize W1.drewN nq = W2 at *
  go_wp2
  go_quiet (fail)
  have B3 := B2.trans ((bdrM nq W2).mono B2.size)
  have ka0 : (W2.drewN nq).cell? ⟨k, 0, none⟩ = some (.int .i64 (t : Int)) := ka0
  have kz : (W2.drewN nq).cell? ⟨z, t, none⟩ = some (.pointer none) := kz
  have fz1 : ∀ j, (W2.drewN nq).frozen? ⟨z, j, none⟩ = false := fz1
  generalize W2.drewN nq = W3 at *
  have ft := fz1 t
  go_wp2
  go_region
  go_wp2_with fail
  refine (HPC.out W3 _ B3 (bdr1 _)).mono ?_
  rintro e w9 ⟨rfl, hPP⟩
  have HPP := hide hPP
  clear hPP
  go_wp2
  go_returns
  exact ⟨rfl, HPP.out⟩
 | some kn =>
  rw [hbt] at kz
  unfold ptrO at kz
  obtain ⟨y, hy⟩ : ∃ y, y = wd kn := ⟨_, rfl⟩
  have hway1 := (s1.way t kn hbt).1
  have hrowk := s1.row t kn hbt
  obtain ⟨ya, yc, hyv⟩ := Zac hrowk
  rw [hyv, <- hy] at hway1
  rw [hyv, <- hy] at hrowk
  have hyl : y.hops.length <= 6 := by rw [hy]; exact s1.short t kn hbt
  have hkl := (s1.way t kn hbt).2
  have ln1 := Zab hway1
  have hkk : kn ≠ k := fun e => hbk t (by rw [hbt, e])
  have kb0 := Zaa hway1 0
  have kb1 := Zaa hway1 1
  have kb2 := Zaa hway1 2
  simp [wayC] at kb0 kb1 kb2
  have HBT := hide (fun W => Zb9 (.slice xa x.hops.length xc) (.slice ya y.hops.length yc) x y W)
  rw [hwc] at HBT
  unfold wayC Zbb at HBT
  have HTG := hide (fun V (hb : Below W1.heap.size W1 V) => Zj1 y x (.slice ya y.hops.length yc) (.slice xa x.hops.length xc) lo lo V (Zae hrowk hb (Nat.le_refl _)) (Zae hrow1 hb (Nat.le_refl _)) (by omega) (by omega))
  rw [hwc] at HTG
  obtain ⟨r, hr⟩ : ∃ r, r = togI y x := ⟨_, rfl⟩
  rw [<- hr] at HTG
  unfold wayC at HTG
  have HJN := hide (show ¬ x.cost < y.cost -> ∀ W2 V va vc, Below W1.heap.size W1 V -> Below V.heap.size V W2 -> W2.ownsRow V.heap.size 3 1 (.slice va r.hops.length vc) r.hops.length (flat intE r.hops) -> P (((W2.setCell ⟨kn, 0, none⟩ (.int .i64 r.to)).setCell ⟨kn, 1, none⟩ (.int .i64 r.cost)).setCell ⟨kn, 2, none⟩ (.slice va r.hops.length vc)) by
   intro hnc W2 V va vc hbV hb2 ho
   have hj := hjl kn hbt (by rw [<- hy]; exact hnc)
   rw [<- hy, <- hr] at hj
   have hbW2 : Below W1.heap.size W1 W2 := hbV.trans (hb2.mono hbV.size)
   have fs := s1.joined (y := r) (vy := .slice va r.hops.length vc) hbt (by rw [hj.2.1, hy]) (by rw [hj.2.2, hy]) hj.1 hbW2 hbV.size ho
   rw [hP]
   refine ⟨((BA.mono hlo).trans (hbW2.mono (by omega))).trans ⟨rfl, rfl, rfl, by simp, fun j hj' => by
    have G := ZaX W2 kn r (.slice va r.hops.length vc)
    exact G.block j (by have := hbW2.size; omega) (by simp; omega)⟩, .inr ⟨kn, .slice va r.hops.length vc, hbt, by rw [<- hy]; exact hnc, ?_⟩⟩
   rw [<- hy, <- hr]
   exact fs)
  have HPC := hide (fun (hc : x.cost < y.cost) W2 W3 a b => HPC.out W2 W3 a b (.inr ⟨kn, hbt, by rw [<- hy]; exact hc⟩))
  rw [hwc]
  have HWY := hide hway1
  clear hbt hP hjl s s1 hrow hrow1 hfr hxl hx hwc hknc hkn hy hr hyv hrowk hway1
  have hS1 : W1.cell? ⟨k, 0, none⟩ = some (.int .i64 (t : Int)) /\ W1.cell? ⟨k, 1, none⟩ = some (.int .i64 x.cost) /\ W1.cell? ⟨k, 2, none⟩ = some (.slice xa x.hops.length xc) /\ W1.cell? ⟨kn, 0, none⟩ = some (.int .i64 y.to) /\ W1.cell? ⟨kn, 1, none⟩ = some (.int .i64 y.cost) /\ W1.cell? ⟨kn, 2, none⟩ = some (.slice ya y.hops.length yc) := ⟨ka0, ka1, ka2, kb0, kb1, kb2⟩
  clear ka0 ka1 ka2 kb0 kb1 kb2
  have ka0 := hS1.1
  go_enter Tryz.func72, Tryz.ntmps72
  go_wp2
  rw [<- hW1, <- hk]
  clear hW1 hk
  go_quiet (fail)
  have B2 := bdrM nq W1
  have hS2 : (W1.drewN nq).cell? ⟨k, 0, none⟩ = some (.int .i64 (t : Int)) /\ (W1.drewN nq).cell? ⟨k, 1, none⟩ = some (.int .i64 x.cost) /\ (W1.drewN nq).cell? ⟨k, 2, none⟩ = some (.slice xa x.hops.length xc) /\ (W1.drewN nq).cell? ⟨kn, 0, none⟩ = some (.int .i64 y.to) /\ (W1.drewN nq).cell? ⟨kn, 1, none⟩ = some (.int .i64 y.cost) /\ (W1.drewN nq).cell? ⟨kn, 2, none⟩ = some (.slice ya y.hops.length yc) := hS1
  have kz : (W1.drewN nq).cell? ⟨z, t, none⟩ = some (.pointer (some ⟨kn, 0, none⟩)) := kz
  have fz1 : ∀ j, (W1.drewN nq).frozen? ⟨z, j, none⟩ = false := fz1
  have lk2 : k < (W1.drewN nq).heap.size := lk1
  have ln2 : kn < (W1.drewN nq).heap.size := ln1
  have lz2 : z < (W1.drewN nq).heap.size := lz1
  clear ka0 hS1
  generalize W1.drewN nq = W2 at *
  go_wp2
  refine wp_region_noPanic ?_
  have hS0 : W2.drew.cell? ⟨k, 0, none⟩ = some (.int .i64 (t : Int)) /\ W2.drew.cell? ⟨k, 1, none⟩ = some (.int .i64 x.cost) /\ W2.drew.cell? ⟨k, 2, none⟩ = some (.slice xa x.hops.length xc) /\ W2.drew.cell? ⟨kn, 0, none⟩ = some (.int .i64 y.to) /\ W2.drew.cell? ⟨kn, 1, none⟩ = some (.int .i64 y.cost) /\ W2.drew.cell? ⟨kn, 2, none⟩ = some (.slice ya y.hops.length yc) := hS2
  have lk3 : k < W2.drew.heap.size := lk2
  have ln3 : kn < W2.drew.heap.size := ln2
  refine Zai (S := fun W => W.cell? ⟨k, 0, none⟩ = some (.int .i64 (t : Int)) /\ W.cell? ⟨k, 1, none⟩ = some (.int .i64 x.cost) /\ W.cell? ⟨k, 2, none⟩ = some (.slice xa x.hops.length xc) /\ W.cell? ⟨kn, 0, none⟩ = some (.int .i64 y.to) /\ W.cell? ⟨kn, 1, none⟩ = some (.int .i64 y.cost) /\ W.cell? ⟨kn, 2, none⟩ = some (.slice ya y.hops.length yc)) (by kernel_rfl) 9 rfl hS0 ?_
  intro ops hops _
  show wpAnyH Tryz.prog .any ops _ _ 9 #[false, false, false, false, false, false, false, false, false] _ W2.drew
  iterate 7
   refine Zas 9 ?_ ?_ ?_ (by rw [hops.out]; kernel_rfl) ?_ ?_ (by assumption) ?_
   rotate_left 2
   ·rw [hops.out]; simp only [getS, Nat.reduceSub, Nat.reduceAdd]; rfl
   ·intro W hW; obtain ⟨k1, k2, k3, k4, k5, k6⟩ := hW; go_simp <;> with_reducible rfl
   ·exact fun _ _ _ => id
   try simp only [putS]
  refine Zak 7 (oi := ?_) ?_ (by rw [hops.out]; kernel_rfl) ?_ ?_
  rotate_left 1
  ·rw [hops.out]; simp only [getS]; rfl
  ·rw [hops.out]; kernel_rfl
  intro K hK
  go_simp
  refine (HBT.out _).mono ?_
  rintro e w4 ⟨rfl, b4⟩
  have hK4 : w4.cell? ⟨k, 0, none⟩ = some (.int .i64 (t : Int)) /\ w4.cell? ⟨k, 1, none⟩ = some (.int .i64 x.cost) /\ w4.cell? ⟨k, 2, none⟩ = some (.slice xa x.hops.length xc) /\ w4.cell? ⟨kn, 0, none⟩ = some (.int .i64 y.to) /\ w4.cell? ⟨kn, 1, none⟩ = some (.int .i64 y.cost) /\ w4.cell? ⟨kn, 2, none⟩ = some (.slice ya y.hops.length yc) := by
   refine ⟨?_, ?_, ?_, ?_, ?_, ?_⟩ <;> (rw [b4.cell (by first | exact lk3 | exact ln3)]; first | exact hS0.1 | exact hS0.2.1 | exact hS0.2.2.1 | exact hS0.2.2.2.1 | exact hS0.2.2.2.2.1 | exact hS0.2.2.2.2.2)
  refine hK.out _ _ hK4 (fun _ => ?_)
  clear hK K
  try simp only [putS]
  refine ZaZ 8 ?_ ?_ ?_ (by rw [hops.out]; kernel_rfl) ?_ ?_ (by assumption) ?_
  rotate_left 2
  ·rw [hops.out]; simp only [getS]; rfl
  ·intro W hW; obtain ⟨k1, k2, k3, k4, k5, k6⟩ := hW; go_simp <;> with_reducible rfl
  ·exact fun _ _ _ => id
  try simp only [putS]
  refine wpAnyH_done (by rw [hops.out]; kernel_rfl) ?_ _
  clear hops ops
  refine NoPanic.normal ?_
  have B4 : Below W1.heap.size W1 w4 := (B2.trans ((bdr1 W2).mono B2.size)).trans (b4.mono B2.size)
  by_cases hcc : x.cost < y.cost
  ·rw [decide_eq_true hcc]
   have kz4 : w4.cell? ⟨z, t, none⟩ = some (.pointer (some ⟨kn, 0, none⟩)) := (b4.cell lz2).trans kz
   have fz4 : w4.frozen? ⟨z, t, none⟩ = false := (b4.frozen lz2).trans (fz1 t)
   have ka4 := hK4.1
   have HPC := hide (HPC.out hcc)
   clear hK4 hS0 hS2 HJN HTG HBT b4
   go_wp2
   go_region
   go_wp2_with fail
   refine (HPC.out w4 _ B4 (bdr1 _)).mono ?_
   rintro e w9 ⟨rfl, hPP⟩
   have HPP := hide hPP
   clear hPP
   go_wp2
   go_returns
   exact ⟨rfl, HPP.out⟩
  ·rw [decide_eq_false hcc]
   have HJN := hide (HJN.out (by omega))
   have hkn4 := (B4.block _ ln1).trans HWY.out
   have hB5d : Below W1.heap.size W1 w4.drew := B4.trans ((bdr1 w4).mono B4.size)
   have ln5d : kn < w4.drew.heap.size := Zab hkn4
   have hkn5 : w4.drew.heap[kn]? = some (.cells (wayC y (.slice ya y.hops.length yc)) 46) := hkn4
   unfold wayC at hkn5
   clear hS0 hS2 HPC HBT b4 hkn4
   go_wp2
   refine wp_region_noPanic ?_
   refine Zai (S := fun _ => True) (by kernel_rfl) 8 rfl trivial ?_
   intro ops hops _
   have a0 : w4.drew.cell? ⟨k, 0, none⟩ = some (.int .i64 (t : Int)) := hK4.1
   have a1 : w4.drew.cell? ⟨k, 1, none⟩ = some (.int .i64 x.cost) := hK4.2.1
   have a2 : w4.drew.cell? ⟨k, 2, none⟩ = some (.slice xa x.hops.length xc) := hK4.2.2.1
   have a3 : w4.drew.cell? ⟨kn, 0, none⟩ = some (.int .i64 y.to) := hK4.2.2.2.1
   have a4 : w4.drew.cell? ⟨kn, 1, none⟩ = some (.int .i64 y.cost) := hK4.2.2.2.2.1
   have a5 : w4.drew.cell? ⟨kn, 2, none⟩ = some (.slice ya y.hops.length yc) := hK4.2.2.2.2.2
   show wpAnyH Tryz.prog .any ops _ (fun _ => True) 8 #[false, false, false, false, false, false, false, false] _ w4.drew
   iterate 3
    refine Zas 8 ?_ ?_ ?_ (by rw [hops.out]; kernel_rfl) ?_ ?_ trivial ?_
    rotate_left 2
    ·rw [hops.out]; simp only [getS, Nat.reduceSub, Nat.reduceAdd]; rfl
    ·intro W _; go_simp <;> with_reducible rfl
    ·exact fun _ _ _ => id
    try simp only [putS]
   refine wpAnyH_ready (rs := [3, 4]) (by rw [hops.out]; kernel_rfl) (by simp) ?_
   refine AllReadyH.cons (o := ?_) ?_ (fun K hK => ?_) ?_
   rotate_left 1
   ·rw [hops.out]; simp only [getS]; rfl
   ·rw [if_pos (by rfl)]
    go_simp
    refine hK.out _ _ trivial (fun _ => ?_)
    clear hK K
    try simp only [putS]
    refine wpAnyH_ready (rs := [4]) (by rw [hops.out]; kernel_rfl) (by simp) ?_
    refine AllReadyH.cons (o := ?_) ?_ (fun K hK => ?_) ?_
    rotate_left 1
    ·rw [hops.out]; simp only [getS]; rfl
    ·rw [if_pos (by rfl)]
     go_simp
     refine hK.out _ _ trivial (fun _ => ?_)
     clear hK K
     try simp only [putS]
     refine Zak 5 (oi := ?_) ?_ (by rw [hops.out]; kernel_rfl) ?_ ?_
     rotate_left 1
     ·rw [hops.out]; simp only [getS]; rfl
     ·rw [hops.out]; kernel_rfl
     intro K hK
     go_simp
     refine (HTG.out w4.drew hB5d).mono ?_
     rintro e w6 ⟨vy, rfl, hoy, b6⟩
     obtain ⟨va, vc, rfl⟩ := Zac hoy
     refine hK.out _ _ trivial (fun _ => ?_)
     clear hK K
     try simp only [putS]
     refine ZaZ 6 ?_ ?_ ?_ (by rw [hops.out]; kernel_rfl) ?_ ?_ trivial ?_
     rotate_left 2
     ·rw [hops.out]; simp only [getS]; rfl
     ·intro W _; go_simp <;> with_reducible rfl
     ·exact fun _ _ _ => id
     try simp only [putS]
     have hz6 := (b6.block _ ln5d).trans hkn5
     have u0 := Zaa hz6 0
     have u1 := Zaa hz6 1
     have u2 := Zaa hz6 2
     simp at u0 u1 u2
     have fu := Zaf hz6
     have FIN := hide (HJN.out w6 w4.drew va vc hB5d b6 hoy)
     clear hz6 hoy b6
     refine Zak 7 (oi := ?_) ?_ (by rw [hops.out]; kernel_rfl) ?_ ?_
     rotate_left 1
     ·rw [hops.out]; simp only [getS]; rfl
     ·rw [hops.out]; kernel_rfl
     intro K hK
     go_simp
     refine hK.out _ _ trivial (fun _ => ?_)
     clear hK K
     try simp only [putS]
     refine wpAnyH_done (by rw [hops.out]; kernel_rfl) ?_ _
     clear hops ops
     refine NoPanic.normal ?_
     go_wp2
     go_returns
     exact ⟨rfl, FIN.out⟩
    exact AllReadyH.nil
   refine AllReadyH.cons (o := ?_) ?_ (fun K hK => ?_) ?_
   rotate_left 1
   ·rw [hops.out]; simp only [getS]; rfl
   ·rw [if_pos (by rfl)]
    go_simp
    refine hK.out _ _ trivial (fun _ => ?_)
    clear hK K
    try simp only [putS]
    refine wpAnyH_ready (rs := [3]) (by rw [hops.out]; kernel_rfl) (by simp) ?_
    refine AllReadyH.cons (o := ?_) ?_ (fun K hK => ?_) ?_
    rotate_left 1
    ·rw [hops.out]; simp only [getS]; rfl
    ·rw [if_pos (by rfl)]
     go_simp
     refine hK.out _ _ trivial (fun _ => ?_)
     clear hK K
     try simp only [putS]
     refine Zak 5 (oi := ?_) ?_ (by rw [hops.out]; kernel_rfl) ?_ ?_
     rotate_left 1
     ·rw [hops.out]; simp only [getS]; rfl
     ·rw [hops.out]; kernel_rfl
     intro K hK
     go_simp
     refine (HTG.out w4.drew hB5d).mono ?_
     rintro e w6 ⟨vy, rfl, hoy, b6⟩
     obtain ⟨va, vc, rfl⟩ := Zac hoy
     refine hK.out _ _ trivial (fun _ => ?_)
     clear hK K
     try simp only [putS]
     refine ZaZ 6 ?_ ?_ ?_ (by rw [hops.out]; kernel_rfl) ?_ ?_ trivial ?_
     rotate_left 2
     ·rw [hops.out]; simp only [getS]; rfl
     ·intro W _; go_simp <;> with_reducible rfl
     ·exact fun _ _ _ => id
     try simp only [putS]
     have hz6 := (b6.block _ ln5d).trans hkn5
     have u0 := Zaa hz6 0
     have u1 := Zaa hz6 1
     have u2 := Zaa hz6 2
     simp at u0 u1 u2
     have fu := Zaf hz6
     have FIN := hide (HJN.out w6 w4.drew va vc hB5d b6 hoy)
     clear hz6 hoy b6
     refine Zak 7 (oi := ?_) ?_ (by rw [hops.out]; kernel_rfl) ?_ ?_
     rotate_left 1
     ·rw [hops.out]; simp only [getS]; rfl
     ·rw [hops.out]; kernel_rfl
     intro K hK
     go_simp
     refine hK.out _ _ trivial (fun _ => ?_)
     clear hK K
     try simp only [putS]
     refine wpAnyH_done (by rw [hops.out]; kernel_rfl) ?_ _
     clear hops ops
     refine NoPanic.normal ?_
     go_wp2
     go_returns
     exact ⟨rfl, FIN.out⟩
    exact AllReadyH.nil
   exact AllReadyH.nil
theorem World.size_alloc_drew (w : World) (o : Obj) : (w.drew.alloc o).heap.size = w.heap.size + 1 := by
 have : (w.drew.alloc o).heap.size = w.drew.heap.size + 1 := by simp
 exact this
def onwD (x : WayD) (to c : Int) : WayD := if x.hops = [] then ⟨to, x.cost + c, [to]⟩ else ⟨to, x.cost + c, x.hops⟩
theorem ZkO (x : WayD) (vx : Value) (bx : Nat) (to c : Int) (w : World) (hx : w.ownsRow bx 3 1 vx x.hops.length (flat intE x.hops)) (hlx : x.hops.length <= 1048576) (h0 : 0 <= x.cost + c) (h1 : x.cost + c <= 1000000) :
  Calls Tryz.prog 104 #[.agg (wayC x vx), .int .i64 to, .int .i64 c] w fun e w' => ∃ u, e = .returned (.agg (wayC (onwD x to c) u)) /\ w'.ownsRow w.heap.size 3 1 u (onwD x to c).hops.length (flat intE (onwD x to c).hops) /\ Below w.heap.size w w' := by
 obtain ⟨D, hD⟩ : ∃ D, D = onwD x to c := ⟨_, rfl⟩
 rw [<- hD]
 unfold onwD at hD
 have HD := hide hD
 clear hD
 obtain ⟨p1, q1, rfl⟩ := Zac hx
 have HOH := hide (fun W (hb : Below w.heap.size w W) => ZcQ x.hops (.slice p1 x.hops.length q1) bx W (Zae hx hb (Nat.le_refl _)) hlx)
 clear hx
 have hwc : IntKind.i64.wrap (x.cost + c) = x.cost + c := ZaM _ (by omega) (by omega)
 have m0 : ((w.alloc (.cells #[.int .i64 x.to, .int .i64 x.cost, .slice p1 x.hops.length q1] 46)).alloc (.cells #[.int .i64 0, .int .i64 0, .slice none 0 0] 46)).heap[w.heap.size]? = some (.cells #[.int .i64 x.to, .int .i64 x.cost, .slice p1 x.hops.length q1] 46) := by
  rw [Below.heap_alloc _ _ _ (by simp), heap_alloc_new]
 have m1 : ((w.alloc (.cells #[.int .i64 x.to, .int .i64 x.cost, .slice p1 x.hops.length q1] 46)).alloc (.cells #[.int .i64 0, .int .i64 0, .slice none 0 0] 46)).heap[w.heap.size + 1]? = some (.cells #[.int .i64 0, .int .i64 0, .slice none 0 0] 46) := by
  have e := heap_alloc_new (w.alloc (.cells #[.int .i64 x.to, .int .i64 x.cost, .slice p1 x.hops.length q1] 46)) (.cells #[.int .i64 0, .int .i64 0, .slice none 0 0] 46)
  rw [show (w.alloc (.cells #[.int .i64 x.to, .int .i64 x.cost, .slice p1 x.hops.length q1] 46)).heap.size = w.heap.size + 1 by simp] at e
  exact e
 have BQ : Below w.heap.size w ((w.alloc (.cells #[.int .i64 x.to, .int .i64 x.cost, .slice p1 x.hops.length q1] 46)).alloc (.cells #[.int .i64 0, .int .i64 0, .slice none 0 0] 46)) := ((Below.refl w.heap.size w).alloc (by simp) _).alloc (by simp) _
 obtain ⟨w1, hw1⟩ : ∃ W, W = ((w.alloc (.cells #[.int .i64 x.to, .int .i64 x.cost, .slice p1 x.hops.length q1] 46)).alloc (.cells #[.int .i64 0, .int .i64 0, .slice none 0 0] 46)) := ⟨_, rfl⟩
 rw [<- hw1] at m0 m1 BQ
 have s1 := Zaa m0 1
 have s2 := Zaa m0 2
 simp at s1 s2
 unfold wayC
 go_enter Tryz.func104, Tryz.ntmps104
 go_wp2
 rw [<- hw1]
 clear hw1
 refine wp_region_noPanic ?_
 have hS0 : w1.drew.cell? ⟨w.heap.size, 1, none⟩ = some (.int .i64 x.cost) /\ w1.drew.cell? ⟨w.heap.size, 2, none⟩ = some (.slice p1 x.hops.length q1) := ⟨s1, s2⟩
 refine Zai (S := fun W => W.cell? ⟨w.heap.size, 1, none⟩ = some (.int .i64 x.cost) /\ W.cell? ⟨w.heap.size, 2, none⟩ = some (.slice p1 x.hops.length q1)) (by kernel_rfl) 11 rfl hS0 ?_
 intro ops hops _
 show wpAnyH Tryz.prog .any ops _ _ 11 #[false, false, false, false, false, false, false, false, false, false, false] _ w1.drew
 iterate 7
  refine Zas 11 ?_ ?_ ?_ (by rw [hops.out]; kernel_rfl) ?_ ?_ (by assumption) ?_
  rotate_left 2
  ·rw [hops.out]; simp only [getS, Nat.reduceSub, Nat.reduceAdd]; rfl
  ·intro W hW; obtain ⟨k1, k2⟩ := hW; go_simp <;> with_reducible rfl
  ·exact fun _ _ _ => id
  try simp only [putS]
 refine wpAnyH_ready (rs := [7, 9]) (by rw [hops.out]; kernel_rfl) (by simp) ?_
 refine AllReadyH.cons (o := ?_) ?_ (fun K hK => ?_) ?_
 rotate_left 1
 ·rw [hops.out]; simp only [getS]; rfl
 ·rw [if_pos (by rfl)]
  go_simp
  refine (HOH.out _ (Zkq BQ)).mono ?_
  rintro e w4 ⟨u, rfl, hn2, b2⟩
  obtain ⟨na, nc, rfl⟩ := Zac hn2
  have hK2 : w4.cell? ⟨w.heap.size, 1, none⟩ = some (.int .i64 x.cost) /\ w4.cell? ⟨w.heap.size, 2, none⟩ = some (.slice p1 x.hops.length q1) := ⟨by rw [b2.cell (by exact Zab m0)]; exact s1, by rw [b2.cell (by exact Zab m0)]; exact s2⟩
  refine hK.out _ _ hK2 (fun _ => ?_)
  clear hK K
  try simp only [putS]
  refine ZaZ 8 ?_ ?_ ?_ (by rw [hops.out]; kernel_rfl) ?_ ?_ (by assumption) ?_
  rotate_left 2
  ·rw [hops.out]; simp only [getS]; rfl
  ·intro W hW; obtain ⟨k1, k2⟩ := hW; go_simp <;> with_reducible rfl
  ·exact fun _ _ _ => id
  try simp only [putS]
  refine Zak 9 (oi := ?_) ?_ (by rw [hops.out]; kernel_rfl) ?_ ?_
  rotate_left 1
  ·rw [hops.out]; simp only [getS]; rfl
  ·rw [hops.out]; kernel_rfl
  intro K hK
  go_simp
  have hK3 : (w4.alloc (.cells #[.int .i64 0, .int .i64 0, .slice none 0 0] 46)).cell? ⟨w.heap.size, 1, none⟩ = some (.int .i64 x.cost) /\ (w4.alloc (.cells #[.int .i64 0, .int .i64 0, .slice none 0 0] 46)).cell? ⟨w.heap.size, 2, none⟩ = some (.slice p1 x.hops.length q1) := ⟨by rw [World.cell?_of_block (w := w4) (Below.heap_alloc _ _ _ (by have h1 := Zab m0; have h2 := b2.size; have h3 : w1.heap.size <= w4.heap.size := h2; exact Nat.lt_of_lt_of_le h1 h3))]; exact hK2.1, by rw [World.cell?_of_block (w := w4) (Below.heap_alloc _ _ _ (by have h1 := Zab m0; have h2 := b2.size; have h3 : w1.heap.size <= w4.heap.size := h2; exact Nat.lt_of_lt_of_le h1 h3))]; exact hK2.2⟩
  refine hK.out _ _ hK3 (fun _ => ?_)
  clear hK K
  try simp only [putS]
  have h41 : w1.heap.size <= w4.heap.size := b2.size
  have l1 := Zab m1
  have z0 := (Below.heap_alloc w4 (.cells #[.int .i64 0, .int .i64 0, .slice none 0 0] 46) _ (by omega)).trans ((b2.block _ (Zab m0)).trans m0)
  have z1 := (Below.heap_alloc w4 (.cells #[.int .i64 0, .int .i64 0, .slice none 0 0] 46) _ (by omega)).trans ((b2.block _ (Zab m1)).trans m1)
  have zn := heap_alloc_new w4 (.cells #[.int .i64 0, .int .i64 0, .slice none 0 0] 46)
  have ho := Zag (b0 := w.heap.size + 2) (hn2.alloc (.cells #[.int .i64 0, .int .i64 0, .slice none 0 0] 46)) (by show w.heap.size + 2 <= w1.heap.size; omega)
  have hB : Below w.heap.size w (w4.alloc (.cells #[.int .i64 0, .int .i64 0, .slice none 0 0] 46)) := ((Zkq BQ).trans (b2.mono BQ.size)).alloc (by omega) _
  have hnb : w.heap.size + 1 < w4.heap.size := by omega
  have hvn : ∀ g, (Value.slice na x.hops.length nc).ownBlock = some g -> g ≠ w4.heap.size := fun g hv => by have := (hn2.lt g hv).2; omega
  clear hn2 b2 hK2
  generalize (w4.alloc (.cells #[.int .i64 0, .int .i64 0, .slice none 0 0] 46)) = W5 at *
  have u0 := Zaa zn 0
  have u1 := Zaa zn 1
  have u2 := Zaa zn 2
  simp at u0 u1 u2
  have fu := Zaf zn
  have FN := Zc7 (⟨to, x.cost + c, x.hops⟩ : WayD) (.slice na x.hops.length nc) zn
  have G8 := ZaX W5 w4.heap.size (⟨to, x.cost + c, x.hops⟩ : WayD) (.slice na x.hops.length nc)
  have ZZ0 := (G8.block _ (Zab z0) (by simp; omega)).trans z0
  have ZZ1 := (G8.block _ (Zab z1) (by simp; omega)).trans z1
  have OO := ho.kept G8 (by
   cases hv : (Value.slice na x.hops.length nc).ownBlock with
   | none => exact .inl rfl
   | some g => exact .inr (fun e => hvn g hv (by simpa using e)))
  have BB := hB.grown G8 hB.size (fun k hk => by simp at hk; omega)
  have hS6 : (Za0 W5 w4.heap.size (⟨to, x.cost + c, x.hops⟩ : WayD) (.slice na x.hops.length nc)).cell? ⟨w.heap.size, 1, none⟩ = some (.int .i64 x.cost) /\ (Za0 W5 w4.heap.size (⟨to, x.cost + c, x.hops⟩ : WayD) (.slice na x.hops.length nc)).cell? ⟨w.heap.size, 2, none⟩ = some (.slice p1 x.hops.length q1) := ⟨by have e := Zaa ZZ0 1; simpa using e, by have e := Zaa ZZ0 2; simpa using e⟩
  obtain ⟨W6, hW6⟩ : ∃ W, W = ((W5.setCell ⟨w4.heap.size, 0, none⟩ (.int .i64 to)).setCell ⟨w4.heap.size, 1, none⟩ (.int .i64 (x.cost + c))).setCell ⟨w4.heap.size, 2, none⟩ (.slice na x.hops.length nc) := ⟨_, rfl⟩
  have e6 : W6 = Za0 W5 w4.heap.size (⟨to, x.cost + c, x.hops⟩ : WayD) (.slice na x.hops.length nc) := hW6
  rw [<- e6] at FN ZZ0 ZZ1 OO BB hS6
  have HW6 := hide hW6
  clear e6 hW6
  have hnbB := hnb
  have HFN := hide FN
  have HZ0 := hide ZZ0
  have HZ1 := hide ZZ1
  have HOO := hide OO
  have HBB := hide BB
  clear FN G8 ZZ0 ZZ1 OO BB zn z0 z1 ho hB hvn
  refine Zak 10 (oi := ?_) ?_ (by rw [hops.out]; kernel_rfl) ?_ ?_
  rotate_left 1
  ·rw [hops.out]; simp only [getS]; rfl
  ·rw [hops.out]; kernel_rfl
  intro K hK
  go_simp
  rw [<- HW6.out]
  refine hK.out _ _ hS6 (fun _ => ?_)
  clear hK K
  try simp only [putS]
  refine wpAnyH_done (by rw [hops.out]; kernel_rfl) ?_ _
  clear hops ops u0 u1 u2 fu
  refine NoPanic.normal ?_
  clear HW6
  obtain ⟨NB, hNB⟩ : ∃ k, k = w4.heap.size := ⟨_, rfl⟩
  rw [<- hNB] at HFN hnbB |-
  clear hNB
  clear m0 m1 s1 s2 hS0 BQ
  have s2 := hS6.2
  have f0 := Zaa HFN.out 0
  have f1 := Zaa HFN.out 1
  have f2 := Zaa HFN.out 2
  simp [wayC] at f0 f1 f2
  have ff := Zaf HFN.out
  have v0 := Zaa HZ1.out 0
  have v1 := Zaa HZ1.out 1
  have v2 := Zaa HZ1.out 2
  simp at v0 v1 v2
  have fv := Zaf HZ1.out
  have lnB := Zab HFN.out
  by_cases hx0 : x.hops = []
  ·have hDe : D = ⟨to, x.cost + c, [to]⟩ := by rw [HD.out, if_pos hx0]
   subst hDe
   have hl0 : x.hops.length = 0 := by rw [hx0]; rfl
   have hlb : ((x.hops.length : Int) == 0) = true := by rw [hl0]; rfl
   have ez : (W6.setCell ⟨NB, 2, none⟩ (.slice (some ⟨W6.heap.size, 0, none⟩) 1 1)).heap.size = W6.heap.size := by simp
   have QA : (W6.setCell ⟨NB, 2, none⟩ (.slice (some ⟨W6.heap.size, 0, none⟩) 1 1)).heap[w.heap.size + 1]? = some (.cells #[.int .i64 0, .int .i64 0, .slice none 0 0] 46) := by
    rw [heap_setCell_other W6 ⟨NB, 2, none⟩ _ _ (by show w.heap.size + 1 ≠ NB; omega)]
    exact HZ1.out
   have F1 := Zc7 ⟨to, x.cost + c, [to]⟩ (.slice (some ⟨W6.heap.size, 0, none⟩) 1 1) QA
   have G9 := ZaX (W6.setCell ⟨NB, 2, none⟩ (.slice (some ⟨W6.heap.size, 0, none⟩) 1 1)) (w.heap.size + 1) ⟨to, x.cost + c, [to]⟩ (.slice (some ⟨W6.heap.size, 0, none⟩) 1 1)
   have B8 := (HBB.out.setCell (p := ⟨NB, 2, none⟩) (by show w.heap.size <= NB; omega) (.slice (some ⟨W6.heap.size, 0, none⟩) 1 1)).grown G9 (by rw [ez]; omega) (fun k hk => by simp at hk; omega)
   have ez2 : (Za0 (W6.setCell ⟨NB, 2, none⟩ (.slice (some ⟨W6.heap.size, 0, none⟩) 1 1)) (w.heap.size + 1) ⟨to, x.cost + c, [to]⟩ (.slice (some ⟨W6.heap.size, 0, none⟩) 1 1)).heap.size = W6.heap.size := by simp [Za0]
   have FF := hide ((Below.heap_alloc (Za0 (W6.setCell ⟨NB, 2, none⟩ (.slice (some ⟨W6.heap.size, 0, none⟩) 1 1)) (w.heap.size + 1) ⟨to, x.cost + c, [to]⟩ (.slice (some ⟨W6.heap.size, 0, none⟩) 1 1)) (.cells #[.int .i64 to] 3) (w.heap.size + 1) (by rw [ez2]; omega)).trans F1)
   have RW : ((Za0 (W6.setCell ⟨NB, 2, none⟩ (.slice (some ⟨W6.heap.size, 0, none⟩) 1 1)) (w.heap.size + 1) ⟨to, x.cost + c, [to]⟩ (.slice (some ⟨W6.heap.size, 0, none⟩) 1 1)).alloc (.cells #[.int .i64 to] 3)).ownsRow w.heap.size 3 1 (.slice (some ⟨(Za0 (W6.setCell ⟨NB, 2, none⟩ (.slice (some ⟨W6.heap.size, 0, none⟩) 1 1)) (w.heap.size + 1) ⟨to, x.cost + c, [to]⟩ (.slice (some ⟨W6.heap.size, 0, none⟩) 1 1)).heap.size, 0, none⟩) 1 1) [to].length (flat intE [to]) := World.ownsRow_lit _ #[.int .i64 to] 1 (by rw [ez2]; omega) (by unfold maxLen; omega) (by simp)
   rw [ez2] at RW
   have O9 := hide RW
   have B9 := hide (B8.alloc (by rw [ez2]; omega) (.cells #[.int .i64 to] 3))
   have HFIN := hide (fun W (hW : W = (Za0 (W6.setCell ⟨NB, 2, none⟩ (.slice (some ⟨W6.heap.size, 0, none⟩) 1 1)) (w.heap.size + 1) ⟨to, x.cost + c, [to]⟩ (.slice (some ⟨W6.heap.size, 0, none⟩) 1 1)).alloc (.cells #[.int .i64 to] 3)) => show W.heap[w.heap.size + 1]? = some (.cells (wayC ⟨to, x.cost + c, [to]⟩ (.slice (some ⟨W6.heap.size, 0, none⟩) 1 1)) 46) /\ W.ownsRow w.heap.size 3 1 (.slice (some ⟨W6.heap.size, 0, none⟩) 1 1) [to].length (flat intE [to]) /\ Below w.heap.size w W by subst hW; exact ⟨FF.out, O9.out, B9.out⟩)
   have QB := (Below.heap_alloc (W6.setCell ⟨NB, 2, none⟩ (.slice (some ⟨W6.heap.size, 0, none⟩) 1 1)) (.cells #[.int .i64 to] 3) (w.heap.size + 1) (by rw [ez]; omega)).trans QA
   have fb0 := Zaf QB 0
   have fb1 := Zaf QB 1
   have fb2 := Zaf QB 2
   have l6 : w.heap.size + 1 < W6.heap.size := by omega
   clear G9 RW QA QB F1 B8 ez ez2 FF O9 B9 hl0 hx0 HZ0 HZ1 HFN HOO HBB hS6 HOH HD
   go_wp2_with fail
   (try simp only [Exit.inBlock, Exit.then])
   obtain ⟨W7, hW7⟩ : ∃ W, W = (Za0 (W6.setCell ⟨NB, 2, none⟩ (.slice (some ⟨W6.heap.size, 0, none⟩) 1 1)) (w.heap.size + 1) ⟨to, x.cost + c, [to]⟩ (.slice (some ⟨W6.heap.size, 0, none⟩) 1 1)).alloc (.cells #[.int .i64 to] 3) := ⟨_, rfl⟩
   have R7 := HFIN.out W7 hW7
   rw [<- hW7]
   refine bodyPost_ret (results_cell_row rfl _ _ (w.heap.size + 1) 46 (wayC ⟨to, x.cost + c, [to]⟩ (.slice (some ⟨W6.heap.size, 0, none⟩) 1 1)) (0, 0) _ rfl R7.1 Tryz.underlying46 rfl (by kernel_rfl)) rfl ?_
   exact ⟨_, rfl, R7.2.1, R7.2.2⟩
  ·have hDe : D = ⟨to, x.cost + c, x.hops⟩ := by rw [HD.out, if_neg hx0]
   subst hDe
   have hl0 : x.hops.length ≠ 0 := fun e => hx0 (List.eq_nil_of_length_eq_zero e)
   have hlb : ((x.hops.length : Int) == 0) = false := by
    have h1 : ¬ (x.hops.length : Int) = 0 := by omega
    simpa using h1
   have FF := hide (Zc7 ⟨to, x.cost + c, x.hops⟩ (.slice na x.hops.length nc) HZ1.out)
   have G9 := ZaX W6 (w.heap.size + 1) ⟨to, x.cost + c, x.hops⟩ (.slice na x.hops.length nc)
   have O9 := hide (Zag (b0 := w.heap.size) (HOO.out.kept G9 (by
    cases hv : (Value.slice na x.hops.length nc).ownBlock with
    | none => exact .inl rfl
    | some g => exact .inr (fun e => by have := (HOO.out.lt g hv).1; simp at e; omega))) (by omega))
   have B9 := hide (HBB.out.grown G9 HBB.out.size (fun k hk => by simp at hk; omega))
   have hl1 : ¬ (x.hops.length : Int) = 0 := by omega
   clear G9 hl0 hx0 HZ0 HZ1 HFN HOO HBB hS6 HOH HD
   go_wp2_with fail
   (try simp only [Exit.inBlock, Exit.then])
   refine bodyPost_ret (results_cell_row rfl _ _ (w.heap.size + 1) 46 (wayC ⟨to, x.cost + c, x.hops⟩ (.slice na x.hops.length nc)) (0, 0) _ rfl FF.out Tryz.underlying46 rfl (by kernel_rfl)) rfl ?_
   exact ⟨_, rfl, O9.out, B9.out⟩
 refine AllReadyH.cons (o := ?_) ?_ (fun K hK => ?_) ?_
 rotate_left 1
 ·rw [hops.out]; simp only [getS]; rfl
 ·rw [if_pos (by rfl)]
  go_simp
  have hK2 : (w1.drew.alloc (.cells #[.int .i64 0, .int .i64 0, .slice none 0 0] 46)).cell? ⟨w.heap.size, 1, none⟩ = some (.int .i64 x.cost) /\ (w1.drew.alloc (.cells #[.int .i64 0, .int .i64 0, .slice none 0 0] 46)).cell? ⟨w.heap.size, 2, none⟩ = some (.slice p1 x.hops.length q1) := ⟨by rw [World.cell?_of_block (w := w1.drew) (Below.heap_alloc _ _ _ (by exact Zab m0))]; exact s1, by rw [World.cell?_of_block (w := w1.drew) (Below.heap_alloc _ _ _ (by exact Zab m0))]; exact s2⟩
  refine hK.out _ _ hK2 (fun _ => ?_)
  clear hK K
  try simp only [putS]
  refine Zak 7 (oi := ?_) ?_ (by rw [hops.out]; kernel_rfl) ?_ ?_
  rotate_left 1
  ·rw [hops.out]; simp only [getS]; rfl
  ·rw [hops.out]; kernel_rfl
  intro K hK
  go_simp
  refine (HOH.out (w1.drew.alloc (.cells #[.int .i64 0, .int .i64 0, .slice none 0 0] 46)) ((Zkq BQ).alloc (by exact BQ.size) _)).mono ?_
  rintro e w4 ⟨u, rfl, hn2, b2⟩
  obtain ⟨na, nc, rfl⟩ := Zac hn2
  have l0 : w.heap.size < (w1.drew.alloc (.cells #[.int .i64 0, .int .i64 0, .slice none 0 0] 46)).heap.size := by
   have h1 := Zab m0
   have h2 : (w1.drew.alloc (.cells #[.int .i64 0, .int .i64 0, .slice none 0 0] 46)).heap.size = w1.heap.size + 1 := by
    rw [World.size_alloc_drew]
   omega
  have hK3 : w4.cell? ⟨w.heap.size, 1, none⟩ = some (.int .i64 x.cost) /\ w4.cell? ⟨w.heap.size, 2, none⟩ = some (.slice p1 x.hops.length q1) := ⟨by rw [b2.cell l0]; exact hK2.1, by rw [b2.cell l0]; exact hK2.2⟩
  refine hK.out _ _ hK3 (fun _ => ?_)
  clear hK K
  try simp only [putS]
  refine ZaZ 8 ?_ ?_ ?_ (by rw [hops.out]; kernel_rfl) ?_ ?_ (by assumption) ?_
  rotate_left 2
  ·rw [hops.out]; simp only [getS]; rfl
  ·intro W hW; obtain ⟨k1, k2⟩ := hW; go_simp <;> with_reducible rfl
  ·exact fun _ _ _ => id
  try simp only [putS]
  have hsA : (w1.drew.alloc (.cells #[.int .i64 0, .int .i64 0, .slice none 0 0] 46)).heap.size = w1.heap.size + 1 := World.size_alloc_drew w1 _
  have l1 := Zab m1
  have z0 := (b2.block _ l0).trans ((Below.heap_alloc w1.drew (.cells #[.int .i64 0, .int .i64 0, .slice none 0 0] 46) _ (by exact Zab m0)).trans m0)
  have z1 := (b2.block _ (by omega)).trans ((Below.heap_alloc w1.drew (.cells #[.int .i64 0, .int .i64 0, .slice none 0 0] 46) _ (by exact Zab m1)).trans m1)
  have zn := (b2.block _ (by rw [hsA]; exact Nat.lt_succ_self w1.heap.size)).trans (heap_alloc_new w1.drew (.cells #[.int .i64 0, .int .i64 0, .slice none 0 0] 46))
  have ho := Zag (b0 := w.heap.size + 2) hn2 (by omega)
  have hB : Below w.heap.size w w4 := ((Zkq BQ).alloc (by exact BQ.size) _).trans (b2.mono (by omega))
  have hnb : w.heap.size + 1 < w1.heap.size := l1
  have hvn : ∀ g, (Value.slice na x.hops.length nc).ownBlock = some g -> g ≠ w1.heap.size := fun g hv => by have := (hn2.lt g hv).1; omega
  have zn : w4.heap[w1.heap.size]? = some (.cells #[.int .i64 0, .int .i64 0, .slice none 0 0] 46) := zn
  clear hn2 b2 hK2 hK3
  have u0 := Zaa zn 0
  have u1 := Zaa zn 1
  have u2 := Zaa zn 2
  simp at u0 u1 u2
  have fu := Zaf zn
  have FN := Zc7 (⟨to, x.cost + c, x.hops⟩ : WayD) (.slice na x.hops.length nc) zn
  have G8 := ZaX w4 w1.heap.size (⟨to, x.cost + c, x.hops⟩ : WayD) (.slice na x.hops.length nc)
  have ZZ0 := (G8.block _ (Zab z0) (by simp; omega)).trans z0
  have ZZ1 := (G8.block _ (Zab z1) (by simp; omega)).trans z1
  have OO := ho.kept G8 (by
   cases hv : (Value.slice na x.hops.length nc).ownBlock with
   | none => exact .inl rfl
   | some g => exact .inr (fun e => hvn g hv (by simpa using e)))
  have BB := hB.grown G8 hB.size (fun k hk => by simp at hk; omega)
  have hS6 : (Za0 w4 w1.heap.size (⟨to, x.cost + c, x.hops⟩ : WayD) (.slice na x.hops.length nc)).cell? ⟨w.heap.size, 1, none⟩ = some (.int .i64 x.cost) /\ (Za0 w4 w1.heap.size (⟨to, x.cost + c, x.hops⟩ : WayD) (.slice na x.hops.length nc)).cell? ⟨w.heap.size, 2, none⟩ = some (.slice p1 x.hops.length q1) := ⟨by have e := Zaa ZZ0 1; simpa using e, by have e := Zaa ZZ0 2; simpa using e⟩
  obtain ⟨W6, hW6⟩ : ∃ W, W = ((w4.setCell ⟨w1.heap.size, 0, none⟩ (.int .i64 to)).setCell ⟨w1.heap.size, 1, none⟩ (.int .i64 (x.cost + c))).setCell ⟨w1.heap.size, 2, none⟩ (.slice na x.hops.length nc) := ⟨_, rfl⟩
  have e6 : W6 = Za0 w4 w1.heap.size (⟨to, x.cost + c, x.hops⟩ : WayD) (.slice na x.hops.length nc) := hW6
  rw [<- e6] at FN ZZ0 ZZ1 OO BB hS6
  have HW6 := hide hW6
  clear e6 hW6
  have hnbB := hnb
  have HFN := hide FN
  have HZ0 := hide ZZ0
  have HZ1 := hide ZZ1
  have HOO := hide OO
  have HBB := hide BB
  clear FN G8 ZZ0 ZZ1 OO BB zn z0 z1 ho hB hvn
  refine Zak 10 (oi := ?_) ?_ (by rw [hops.out]; kernel_rfl) ?_ ?_
  rotate_left 1
  ·rw [hops.out]; simp only [getS]; rfl
  ·rw [hops.out]; kernel_rfl
  intro K hK
  go_simp
  rw [<- HW6.out]
  refine hK.out _ _ hS6 (fun _ => ?_)
  clear hK K
  try simp only [putS]
  refine wpAnyH_done (by rw [hops.out]; kernel_rfl) ?_ _
  clear hops ops u0 u1 u2 fu
  refine NoPanic.normal ?_
  clear HW6
  obtain ⟨NB, hNB⟩ : ∃ k, k = w1.heap.size := ⟨_, rfl⟩
  rw [<- hNB] at HFN hnbB |-
  clear hNB
  clear m0 m1 s1 s2 hS0 BQ
  have s2 := hS6.2
  have f0 := Zaa HFN.out 0
  have f1 := Zaa HFN.out 1
  have f2 := Zaa HFN.out 2
  simp [wayC] at f0 f1 f2
  have ff := Zaf HFN.out
  have v0 := Zaa HZ1.out 0
  have v1 := Zaa HZ1.out 1
  have v2 := Zaa HZ1.out 2
  simp at v0 v1 v2
  have fv := Zaf HZ1.out
  have lnB := Zab HFN.out
  by_cases hx0 : x.hops = []
  ·have hDe : D = ⟨to, x.cost + c, [to]⟩ := by rw [HD.out, if_pos hx0]
   subst hDe
   have hl0 : x.hops.length = 0 := by rw [hx0]; rfl
   have hlb : ((x.hops.length : Int) == 0) = true := by rw [hl0]; rfl
   have ez : (W6.setCell ⟨NB, 2, none⟩ (.slice (some ⟨W6.heap.size, 0, none⟩) 1 1)).heap.size = W6.heap.size := by simp
   have QA : (W6.setCell ⟨NB, 2, none⟩ (.slice (some ⟨W6.heap.size, 0, none⟩) 1 1)).heap[w.heap.size + 1]? = some (.cells #[.int .i64 0, .int .i64 0, .slice none 0 0] 46) := by
    rw [heap_setCell_other W6 ⟨NB, 2, none⟩ _ _ (by show w.heap.size + 1 ≠ NB; omega)]
    exact HZ1.out
   have F1 := Zc7 ⟨to, x.cost + c, [to]⟩ (.slice (some ⟨W6.heap.size, 0, none⟩) 1 1) QA
   have G9 := ZaX (W6.setCell ⟨NB, 2, none⟩ (.slice (some ⟨W6.heap.size, 0, none⟩) 1 1)) (w.heap.size + 1) ⟨to, x.cost + c, [to]⟩ (.slice (some ⟨W6.heap.size, 0, none⟩) 1 1)
   have B8 := (HBB.out.setCell (p := ⟨NB, 2, none⟩) (by show w.heap.size <= NB; omega) (.slice (some ⟨W6.heap.size, 0, none⟩) 1 1)).grown G9 (by rw [ez]; omega) (fun k hk => by simp at hk; omega)
   have ez2 : (Za0 (W6.setCell ⟨NB, 2, none⟩ (.slice (some ⟨W6.heap.size, 0, none⟩) 1 1)) (w.heap.size + 1) ⟨to, x.cost + c, [to]⟩ (.slice (some ⟨W6.heap.size, 0, none⟩) 1 1)).heap.size = W6.heap.size := by simp [Za0]
   have FF := hide ((Below.heap_alloc (Za0 (W6.setCell ⟨NB, 2, none⟩ (.slice (some ⟨W6.heap.size, 0, none⟩) 1 1)) (w.heap.size + 1) ⟨to, x.cost + c, [to]⟩ (.slice (some ⟨W6.heap.size, 0, none⟩) 1 1)) (.cells #[.int .i64 to] 3) (w.heap.size + 1) (by rw [ez2]; omega)).trans F1)
   have RW : ((Za0 (W6.setCell ⟨NB, 2, none⟩ (.slice (some ⟨W6.heap.size, 0, none⟩) 1 1)) (w.heap.size + 1) ⟨to, x.cost + c, [to]⟩ (.slice (some ⟨W6.heap.size, 0, none⟩) 1 1)).alloc (.cells #[.int .i64 to] 3)).ownsRow w.heap.size 3 1 (.slice (some ⟨(Za0 (W6.setCell ⟨NB, 2, none⟩ (.slice (some ⟨W6.heap.size, 0, none⟩) 1 1)) (w.heap.size + 1) ⟨to, x.cost + c, [to]⟩ (.slice (some ⟨W6.heap.size, 0, none⟩) 1 1)).heap.size, 0, none⟩) 1 1) [to].length (flat intE [to]) := World.ownsRow_lit _ #[.int .i64 to] 1 (by rw [ez2]; omega) (by unfold maxLen; omega) (by simp)
   rw [ez2] at RW
   have O9 := hide RW
   have B9 := hide (B8.alloc (by rw [ez2]; omega) (.cells #[.int .i64 to] 3))
   have HFIN := hide (fun W (hW : W = (Za0 (W6.setCell ⟨NB, 2, none⟩ (.slice (some ⟨W6.heap.size, 0, none⟩) 1 1)) (w.heap.size + 1) ⟨to, x.cost + c, [to]⟩ (.slice (some ⟨W6.heap.size, 0, none⟩) 1 1)).alloc (.cells #[.int .i64 to] 3)) => show W.heap[w.heap.size + 1]? = some (.cells (wayC ⟨to, x.cost + c, [to]⟩ (.slice (some ⟨W6.heap.size, 0, none⟩) 1 1)) 46) /\ W.ownsRow w.heap.size 3 1 (.slice (some ⟨W6.heap.size, 0, none⟩) 1 1) [to].length (flat intE [to]) /\ Below w.heap.size w W by subst hW; exact ⟨FF.out, O9.out, B9.out⟩)
   have QB := (Below.heap_alloc (W6.setCell ⟨NB, 2, none⟩ (.slice (some ⟨W6.heap.size, 0, none⟩) 1 1)) (.cells #[.int .i64 to] 3) (w.heap.size + 1) (by rw [ez]; omega)).trans QA
   have fb0 := Zaf QB 0
   have fb1 := Zaf QB 1
   have fb2 := Zaf QB 2
   have l6 : w.heap.size + 1 < W6.heap.size := by omega
   clear G9 RW QA QB F1 B8 ez ez2 FF O9 B9 hl0 hx0 HZ0 HZ1 HFN HOO HBB hS6 HOH HD
   go_wp2_with fail
   (try simp only [Exit.inBlock, Exit.then])
   obtain ⟨W7, hW7⟩ : ∃ W, W = (Za0 (W6.setCell ⟨NB, 2, none⟩ (.slice (some ⟨W6.heap.size, 0, none⟩) 1 1)) (w.heap.size + 1) ⟨to, x.cost + c, [to]⟩ (.slice (some ⟨W6.heap.size, 0, none⟩) 1 1)).alloc (.cells #[.int .i64 to] 3) := ⟨_, rfl⟩
   have R7 := HFIN.out W7 hW7
   rw [<- hW7]
   refine bodyPost_ret (results_cell_row rfl _ _ (w.heap.size + 1) 46 (wayC ⟨to, x.cost + c, [to]⟩ (.slice (some ⟨W6.heap.size, 0, none⟩) 1 1)) (0, 0) _ rfl R7.1 Tryz.underlying46 rfl (by kernel_rfl)) rfl ?_
   exact ⟨_, rfl, R7.2.1, R7.2.2⟩
  ·have hDe : D = ⟨to, x.cost + c, x.hops⟩ := by rw [HD.out, if_neg hx0]
   subst hDe
   have hl0 : x.hops.length ≠ 0 := fun e => hx0 (List.eq_nil_of_length_eq_zero e)
   have hlb : ((x.hops.length : Int) == 0) = false := by
    have h1 : ¬ (x.hops.length : Int) = 0 := by omega
    simpa using h1
   have FF := hide (Zc7 ⟨to, x.cost + c, x.hops⟩ (.slice na x.hops.length nc) HZ1.out)
   have G9 := ZaX W6 (w.heap.size + 1) ⟨to, x.cost + c, x.hops⟩ (.slice na x.hops.length nc)
   have O9 := hide (Zag (b0 := w.heap.size) (HOO.out.kept G9 (by
    cases hv : (Value.slice na x.hops.length nc).ownBlock with
    | none => exact .inl rfl
    | some g => exact .inr (fun e => by have := (HOO.out.lt g hv).1; simp at e; omega))) (by omega))
   have B9 := hide (HBB.out.grown G9 HBB.out.size (fun k hk => by simp at hk; omega))
   have hl1 : ¬ (x.hops.length : Int) = 0 := by omega
   clear G9 hl0 hx0 HZ0 HZ1 HFN HOO HBB hS6 HOH HD
   go_wp2_with fail
   (try simp only [Exit.inBlock, Exit.then])
   refine bodyPost_ret (results_cell_row rfl _ _ (w.heap.size + 1) 46 (wayC ⟨to, x.cost + c, x.hops⟩ (.slice na x.hops.length nc)) (0, 0) _ rfl FF.out Tryz.underlying46 rfl (by kernel_rfl)) rfl ?_
   exact ⟨_, rfl, O9.out, B9.out⟩
 exact AllReadyH.nil
def Zgu (area owner : Int) (x : RecD) : Bool := x.area == area && x.kind == 1 && x.owner == owner
def plN (xs : List RecD) (area owner : Int) : Option Nat := xs.findIdx? (Zgu area owner)
def plV2 : Option Nat -> Value
 | some k => .tuple #[.int .i64 (k : Int), .bool true]
 | none => .tuple #[.int .i64 0, .bool false]
theorem Zl3 {xs : List RecD} {area owner : Int} {x : RecD} {k : Nat} (hk : xs[k]? = some x) (hs : Zgu area owner x = true) (hall : ∀ j, j < k -> ∀ y, xs[j]? = some y -> Zgu area owner y = false) : plN xs area owner = some k := by
 obtain ⟨h1, e1⟩ := List.getElem?_eq_some_iff.1 hk
 unfold plN
 rw [List.findIdx?_eq_some_iff_getElem]
 refine ⟨h1, by rw [e1]; exact hs, fun j hj => ?_⟩
 have := hall j hj xs[j] (List.getElem?_eq_getElem (by omega))
 rw [this]
 simp
theorem Zm3 {xs : List RecD} {area owner : Int} (hall : ∀ j, j < xs.length -> ∀ y, xs[j]? = some y -> Zgu area owner y = false) : plN xs area owner = none := by
 unfold plN
 rw [List.findIdx?_eq_none_iff]
 intro x hx
 obtain ⟨j, hj, e⟩ := List.mem_iff_getElem.1 hx
 exact hall j hj x (by rw [List.getElem?_eq_getElem hj, e])
theorem ZmD {xs : List RecD} {k : Nat} {x : RecD} {f : RecD -> Bool} (h : ∀ j, j < k -> ∀ y, xs[j]? = some y -> f y = false) (hk : xs[k]? = some x) (hx : f x = false) : ∀ j, j < k + 1 -> ∀ y, xs[j]? = some y -> f y = false := by
 intro j hj y hy
 by_cases e : j = k
 ·subst e
  rw [hk] at hy
  cases hy
  exact hx
 ·exact h j (by omega) y hy
theorem Zg6 (v : Value) (ps : List RP) (hi : Nat) (area owner : Int) (w : World) (hv : RecsIn w hi v ps) (hhi : hi <= w.heap.size) (hn : tot ps <= 1048576) :
  Calls Tryz.prog 71 #[v, .int .i64 area, .int .i64 owner] w fun e w' => e = .returned (plV2 (plN (fsts ps) area owner)) /\ Below w.heap.size w w' := by
 have hnl := ZbL ps
 obtain ⟨R, hR⟩ : ∃ R, R = plN (fsts ps) area owner := ⟨_, rfl⟩
 rw [<- hR]
 have HR := hide hR
 clear hR
 obtain ⟨a1, c1, rfl⟩ := Zac hv.row
 have HV := hide hv
 clear hv
 go_enter Tryz.func71, Tryz.ntmps71
 go_wp2
 go_loopw [11] (fun i wr => ∃ (k : Nat), k <= ps.length /\ i = .int .i64 (k : Int) /\ Hid (∀ j, j < k -> ∀ y, (fsts ps)[j]? = some y -> Zgu area owner y = false) /\ Below w.heap.size w wr) (fun i _ => ps.length - (intOf i).toNat)
 case atStart => exact ⟨0, by omega, rfl, hide (by omega), Below.refl _ _⟩
 case round =>
  obtain ⟨k, hk, rfl, HALL, hnx⟩ := hrel
  by_cases hlt : k < ps.length
  ·obtain ⟨p, hp⟩ : ∃ p, ps[k]? = some p := ⟨ps[k], List.getElem?_eq_getElem hlt⟩
   have hat := HV.out.at
   obtain ⟨b, off, cap', hve, hbb, c0, c1, c2, _⟩ := hat.cells k p hp
   cases hve
   rw [<- hnx.cell (p := ⟨b, off + k * 8, none⟩) (Nat.lt_of_lt_of_le hbb hhi)] at c0
   rw [<- hnx.cell (p := ⟨b, off + k * 8 + 1, none⟩) (Nat.lt_of_lt_of_le hbb hhi)] at c1
   rw [<- hnx.cell (p := ⟨b, off + k * 8 + 2, none⟩) (Nat.lt_of_lt_of_le hbb hhi)] at c2
   have hki : (0 : Int) <= (k : Int) := by omega
   have hkj : (k : Int) < (ps.length : Int) := by omega
   have HPP := hide (Zbo hp)
   obtain ⟨x0, hx0⟩ : ∃ x, x = p.1.area := ⟨_, rfl⟩
   obtain ⟨x1, hx1⟩ : ∃ x, x = p.1.kind := ⟨_, rfl⟩
   obtain ⟨x2, hx2⟩ : ∃ x, x = p.1.owner := ⟨_, rfl⟩
   have HM := hide (show Zgu area owner p.1 = (x0 == area && x1 == 1 && x2 == owner) by rw [hx0, hx1, hx2]; rfl)
   rw [<- hx0] at c0
   rw [<- hx1] at c1
   rw [<- hx2] at c2
   clear hp hat hx0 hx1 hx2
   have NXT := hide (fun (e : (x0 == area && x1 == 1 && x2 == owner) = false) => ZmD HALL.out HPP.out (HM.out.trans e))
   by_cases h0 : x0 = area
   ·by_cases h1 : x1 = 1
    ·by_cases h2 : x2 = owner
     ·have HF := hide (show R = some k by rw [HR.out]; exact Zl3 HPP.out (by rw [HM.out]; simp [h0, h1, h2]) HALL.out)
      have hRR := HF.out
      subst hRR
      subst h0 h1 h2
      clear NXT HM
      go_wp2
      go_returns
      exact ⟨rfl, hnx⟩
     ·have HN := hide (NXT.out (by simp [h2]))
      have hb2 : (x2 == owner) = false := by simpa using h2
      subst h0 h1
      clear NXT HM
      go_wp2
      go_roundw
      case rel => exact ⟨k + 1, by omega, by go_num, HN, hnx⟩
      case measure => simp [intOf]; omega
    ·have HN := hide (NXT.out (by simp [h1]))
     have hb1 : (x1 == 1) = false := by simpa using h1
     subst h0
     clear NXT HM
     go_wp2
     go_roundw
     case rel => exact ⟨k + 1, by omega, by go_num, HN, hnx⟩
     case measure => simp [intOf]; omega
   ·have HN := hide (NXT.out (by simp [h0]))
    have hb0 : (x0 == area) = false := by simpa using h0
    clear NXT HM
    go_wp2
    go_roundw
    case rel => exact ⟨k + 1, by omega, by go_num, HN, hnx⟩
    case measure => simp [intOf]; omega
  ·have HF := hide (show R = none by rw [HR.out]; exact Zm3 (fun j hj => HALL.out j (by simp [fsts] at hj; omega)))
   have hRR := HF.out
   subst hRR
   go_wp2
   go_returns
   exact ⟨rfl, hnx⟩
def ZhV (xs : List RecD) (area owner to : Int) : Option Int := match plN xs area owner with
 | some k => match xs[k]? with
  | some x => (x.near.find? (fun n => n.to == to)).map (·.c)
  | none => none
 | none => none
def Zlo : Option Int -> Value
 | some c => .tuple #[.int .i64 c, .bool true]
 | none => .tuple #[.int .i64 0, .bool false]
theorem ZnM {xs : List RecD} {area owner : Int} {k : Nat} (h : plN xs area owner = some k) : ∃ x, xs[k]? = some x /\ Zgu area owner x = true /\ ∀ j, j < k -> ∀ y, xs[j]? = some y -> Zgu area owner y = false := by
 unfold plN at h
 obtain ⟨h1, h2, h3⟩ := List.findIdx?_eq_some_iff_getElem.1 h
 refine ⟨xs[k], List.getElem?_eq_getElem h1, h2, fun j hj y hy => ?_⟩
 have h4 := h3 j hj
 rw [List.getElem?_eq_getElem (by omega)] at hy
 cases hy
 simpa using h4
theorem ZmH {ns : List Nr} {k : Nat} {n : Nr} {b : Int} (h : ns[k]? = some n) (hno : ∀ q ∈ ns.take k, q.to ≠ b) (hb : n.to = b) : ns.find? (fun x => x.to == b) = some n := by
 obtain ⟨hk, e1⟩ := List.getElem?_eq_some_iff.1 h
 rw [List.find?_eq_some_iff_append]
 refine ⟨by simpa using hb, ns.take k, ns.drop (k + 1), ?_, ?_⟩
 ·rw [<- e1, <- List.drop_eq_getElem_cons hk, List.take_append_drop]
 ·intro x hx
  simpa using hno x hx
theorem Zki (v : Value) (ps : List RP) (hi : Nat) (area owner to : Int) (w : World) (hv : RecsIn w hi v ps) (hhi : hi <= w.heap.size) (hn : tot ps <= 1048576) :
  Calls Tryz.prog 125 #[v, .int .i64 area, .int .i64 owner, .int .i64 to] w fun e w' => e = .returned (Zlo (ZhV (fsts ps) area owner to)) /\ Below w.heap.size w w' := by
 have hnl := ZbL ps
 obtain ⟨R, hR⟩ : ∃ R, R = ZhV (fsts ps) area owner to := ⟨_, rfl⟩
 rw [<- hR]
 have HP := hide (Zg6 v ps hi area owner w hv hhi hn)
 obtain ⟨a1, c1, rfl⟩ := Zac hv.row
 unfold ZhV at hR
 cases hpl : plN (fsts ps) area owner with
 | none =>
  rw [hpl] at HP hR
  have hRR : R = none := hR
  subst hRR
  unfold plV2 at HP
  unfold Zlo
  clear hR hv
  go_enter Tryz.func125, Tryz.ntmps125
  go_wp2_with fail
  refine HP.out.mono ?_
  rintro e w1 ⟨rfl, b1⟩
  go_wp2
  go_returns
  exact ⟨rfl, b1⟩
 | some k =>
  rw [hpl] at HP hR
  obtain ⟨x, hx, _, _⟩ := ZnM hpl
  simp only [hx] at hR
  obtain ⟨p, hp, rfl⟩ := ZgX hx
  have hR2 : R = (p.1.near.find? (fun n => n.to == to)).map (·.c) := hR
  have HR := hide hR2
  clear hR hR2
  unfold plV2 at HP
  have hlt : k < ps.length := (List.getElem?_eq_some_iff.1 hp).1
  obtain ⟨b, off, cap', hve, hbb, _, _, _, _, _, c5, _, _, hnr⟩ := hv.at.cells k p hp
  cases hve
  obtain ⟨pa, pc, hpn⟩ := ZaC.shape hnr
  rw [hpn] at c5 hnr
  have hnl2 : p.1.near.length <= 1048576 := by have := Zf2 (List.mem_of_getElem? hp); omega
  have HNR := hide hnr
  have hki : (0 : Int) <= (k : Int) := by omega
  have hkj : (k : Int) < (ps.length : Int) := by omega
  obtain ⟨ns, hns⟩ : ∃ ns, ns = p.1.near := ⟨_, rfl⟩
  rw [<- hns] at HR c5 HNR hnl2
  clear hx hp hv hnr hpn hns hpl
  go_enter Tryz.func125, Tryz.ntmps125
  go_wp2_with fail
  refine HP.out.mono ?_
  rintro e w1 ⟨rfl, b1⟩
  rw [<- b1.cell (p := ⟨b, off + k * 8 + 5, none⟩) (Nat.lt_of_lt_of_le hbb hhi)] at c5
  have N1 := hide (ZaR.later HNR.out b1 hhi)
  go_wp2
  go_loopw [29] (fun i wr => ∃ (j : Nat), j <= ns.length /\ i = .int .i64 (j : Int) /\ Hid (∀ q ∈ ns.take j, q.to ≠ to) /\ Below w1.heap.size w1 wr) (fun i _ => ns.length - (intOf i).toNat)
  case atStart => exact ⟨0, by omega, rfl, hide (by simp), Below.refl _ _⟩
  case round =>
   obtain ⟨j, hj, rfl, HNO, hnx⟩ := hrel
   have hs1 := b1.size
   have B : Below w.heap.size w wr := b1.trans (hnx.mono hs1)
   have hsB := B.size
   have hsx := hnx.size
   by_cases hjl : j < ns.length
   ·obtain ⟨n, hnj⟩ : ∃ n, ns[j]? = some n := ⟨ns[j], List.getElem?_eq_getElem hjl⟩
    obtain ⟨b2, off2, cp, hve, hbb2, d0, d1⟩ := ZaC.cells (ZaR.later N1.out hnx (by omega)) j n hnj
    cases hve
    have hji : (0 : Int) <= (j : Int) := by omega
    have hjj : (j : Int) < (ns.length : Int) := by omega
    by_cases hto : n.to = to
    ·have HF := hide (show R = some n.c by rw [HR.out, ZmH hnj HNO.out hto]; rfl)
     have hRR := HF.out
     subst hRR
     subst hto
     clear hnj
     go_wp2
     go_returns
     exact ⟨rfl, B.alloc (by omega) _⟩
    ·have HN := hide (Zih hnj HNO.out hto)
     have hb0 : (n.to == to) = false := by simpa using hto
     clear hnj
     go_wp2
     go_roundw
     case rel => exact ⟨j + 1, by omega, by go_num, HN, hnx.alloc (by omega) _⟩
     case measure => simp [intOf]; omega
   ·have HF := hide (show R = none by
     rw [HR.out]
     have h := HNO.out
     rw [List.take_of_length_le (by omega)] at h
     rw [List.find?_eq_none.2 (fun x hx => by simpa using h x hx)]
     rfl)
    have hRR := HF.out
    subst hRR
    go_wp2
    go_returns
    exact ⟨rfl, B⟩
def ZgA (xs : List RecD) (area a b : Int) : Int := match ZhV xs area b a with
 | some _ => match ZhV xs area a b with
  | some c => c
  | none => 0
 | none => 0
theorem ZiW (v : Value) (ps : List RP) (hi : Nat) (area a b : Int) (w : World) (hv : RecsIn w hi v ps) (hhi : hi <= w.heap.size) (hn : tot ps <= 1048576) :
  Calls Tryz.prog 103 #[v, .int .i64 area, .int .i64 a, .int .i64 b] w fun e w' => e = .returned (.int .i64 (ZgA (fsts ps) area a b)) /\ Below w.heap.size w w' := by
 have H1 := hide (Zki v ps hi area b a w hv hhi hn)
 have H2 := hide (fun W (hb : Below w.heap.size w W) => Zki v ps hi area a b W (hv.below hb hhi) (Nat.le_trans hhi hb.size) hn)
 clear hv
 unfold ZgA
 cases e1 : ZhV (fsts ps) area b a with
 | none =>
  rw [e1] at H1
  unfold Zlo at H1
  go_enter Tryz.func103, Tryz.ntmps103
  go_wp2_with fail
  refine H1.out.mono ?_
  rintro e w1 ⟨rfl, b1⟩
  go_wp2
  go_ret
  exact ⟨rfl, b1⟩
 | some c =>
  rw [e1] at H1
  cases e2 : ZhV (fsts ps) area a b with
  | none =>
   rw [e2] at H2
   unfold Zlo at H1 H2
   go_enter Tryz.func103, Tryz.ntmps103
   go_wp2_with fail
   refine H1.out.mono ?_
   rintro e w1 ⟨rfl, b1⟩
   go_wp2_with fail
   refine (H2.out _ b1).mono ?_
   rintro e w2 ⟨rfl, b2⟩
   have B2 : Below w.heap.size w w2 := b1.trans (b2.mono b1.size)
   go_wp2
   go_ret
   exact ⟨rfl, B2⟩
  | some c2 =>
   rw [e2] at H2
   unfold Zlo at H1 H2
   go_enter Tryz.func103, Tryz.ntmps103
   go_wp2_with fail
   refine H1.out.mono ?_
   rintro e w1 ⟨rfl, b1⟩
   go_wp2_with fail
   refine (H2.out _ b1).mono ?_
   rintro e w2 ⟨rfl, b2⟩
   have B2 : Below w.heap.size w w2 := b1.trans (b2.mono b1.size)
   go_wp2
   go_ret
   exact ⟨rfl, B2⟩
end Go.Proofs.YtakiifededfjlaaGreat
