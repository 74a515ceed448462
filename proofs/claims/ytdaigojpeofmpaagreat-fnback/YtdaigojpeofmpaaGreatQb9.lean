/-
  spec.Better, impl.Better: their contracts.
  spec.Together: its contract.
  Contracts of the library, laid at this program: slices_Sort_int, slices_Sort_int_none, slices_Compact_int, slices_Compact_int_empty.
  slices.Sort and slices.Compact of a row of the call's own; what they make of it.
  spec.WayTo: its contract.
  impl.ownHops, ownWay, WayTo: their contracts.
-/
import Derived.Test.YtdaigojpeofmpaaGreatQb7
import Derived.Deep.RegionHeld3
import Derived.Shelf.Sort.Plain
import Derived.Ground.Names2Prog
import Derived.Shelf.Slices.CompactI
import Derived.Shelf.Slices.In.SortNone
import Derived.Test.YtdaigojpeofmpaaGreatProg
import Derived.Test.YtdaigojpeofmpaaGreatQb1
import Derived.Lib.OwnBridge
import Derived.Sort.OwnSortedInts
import Derived.Test.YtdaigojpeofmpaaGreatQb8
namespace Go.Proofs.YtdaigojpeofmpaaGreat
open Go.RowKit

def betterB (x y : WayD) : Bool := decide (x.cost < y.cost)

set_option maxRecDepth 100000 in
set_option maxHeartbeats 1000000 in
theorem sbetter_any (u1 u2 : Value) (x y : WayD) (w : World) : Calls Tryz.prog 244 #[.agg (wayC x u1), .agg (wayC y u2)] w fun e w' => e = .returned (.bool (betterB x y)) ∧ Below w.heap.size w w' := by
  unfold wayC betterB
  go_enter Tryz.func244, Tryz.ntmps244
  go_wp2
  go_ret
  exact ⟨rfl, below_two _ _⟩

set_option maxRecDepth 100000 in
set_option maxHeartbeats 1000000 in
theorem ibetter_any (u1 u2 : Value) (x y : WayD) (w : World) : Calls Tryz.prog 48 #[.agg (wayC x u1), .agg (wayC y u2)] w fun e w' => e = .returned (.bool (betterB x y)) ∧ Below w.heap.size w w' := by
  unfold wayC betterB
  go_enter Tryz.func48, Tryz.ntmps48
  go_wp2
  go_ret
  exact ⟨rfl, below_two _ _⟩
end Go.Proofs.YtdaigojpeofmpaaGreat
namespace Go.Proofs.YtdaigojpeofmpaaGreat
open Go.RowKit

set_option linter.unusedSimpArgs false

/-- the better of two ways, or both -/
def togD (x y : WayD) : WayD := if betterB x y then x else if betterB y x then y else ⟨x.to, x.cost, addL x.hops y.hops⟩

theorem addL_len (a b : List Int) : (addL a b).length ≤ 6 := addT_len a b 6

theorem tog_len {x y : WayD} {n : Nat} (hx : x.hops.length ≤ n) (hy : y.hops.length ≤ n) (h6 : 6 ≤ n) : (togD x y).hops.length ≤ n := by
  unfold togD
  split
  · exact hx
  · split
    · exact hy
    · exact Nat.le_trans (addL_len _ _) h6

theorem cellW3 {W : World} {g b j : Nat} {x0 x1 x2 : Value} (h : b ≠ g) : (((W.setCell ⟨g, 0, none⟩ x0).setCell ⟨g, 1, none⟩ x1).setCell ⟨g, 2, none⟩ x2).cell? ⟨b, j, none⟩ = W.cell? ⟨b, j, none⟩ := by
  refine World.cell?_of_block ?_
  show (((W.setCell ⟨g, 0, none⟩ x0).setCell ⟨g, 1, none⟩ x1).setCell ⟨g, 2, none⟩ x2).heap[b]? = W.heap[b]?
  rw [heap_setCell_other _ ⟨g, 2, none⟩ b _ h, heap_setCell_other _ ⟨g, 1, none⟩ b _ h, heap_setCell_other _ ⟨g, 0, none⟩ b _ h]

set_option maxRecDepth 100000 in
set_option maxHeartbeats 4000000 in
theorem stog_any (x y : WayD) (u1 u2 : Value) (b1 b2 : Nat) (w : World) (h1 : w.ownsRow b1 3 1 u1 x.hops.length (flat intE x.hops)) (h2 : w.ownsRow b2 3 1 u2 y.hops.length (flat intE y.hops)) (hx : x.hops.length ≤ 1048576) (hy : y.hops.length ≤ 1048576) :
    Calls Tryz.prog 205 #[.agg (wayC x u1), .agg (wayC y u2)] w fun e w' => ∃ v', e = .returned (.agg (wayC (togD x y) v')) ∧ w'.ownsRow w.heap.size 3 1 v' (togD x y).hops.length (flat intE (togD x y).hops) ∧ Below w.heap.size w w' := by
  obtain ⟨a1, c1, rfl⟩ := owns_lenS h1
  obtain ⟨a2, c2, rfl⟩ := owns_lenS h2
  have HC1 := hide (fun W (hb : Below w.heap.size w W) => copyW_any x (.slice a1 x.hops.length c1) b1 W (owns_below h1 hb (Nat.le_refl _)) hx)
  have HC2 := hide (fun W (hb : Below w.heap.size w W) => copyW_any y (.slice a2 y.hops.length c2) b2 W (owns_below h2 hb (Nat.le_refl _)) hy)
  have HB1 := hide (fun W => sbetter_any (.slice a1 x.hops.length c1) (.slice a2 y.hops.length c2) x y W)
  have HB2 := hide (fun W => sbetter_any (.slice a2 y.hops.length c2) (.slice a1 x.hops.length c1) y x W)
  have HAD := hide (fun W (hb : Below w.heap.size w W) => sadd_any (.slice a1 x.hops.length c1) (.slice a2 y.hops.length c2) x.hops y.hops W hx hy ((RowAt.later (owns_rowAt h1) hb (Nat.le_refl _)).more hb.size) ((RowAt.later (owns_rowAt h2) hb (Nat.le_refl _)).more hb.size))
  obtain ⟨P, hP⟩ : ∃ P, P = betterB x y := ⟨_, rfl⟩
  obtain ⟨Q, hQ⟩ : ∃ Q, Q = betterB y x := ⟨_, rfl⟩
  obtain ⟨D, hD⟩ : ∃ D, D = togD x y := ⟨_, rfl⟩
  rw [← hP] at HB1
  rw [← hQ] at HB2
  rw [← hD]
  have HD := hide hD
  unfold togD at HD
  rw [← hP, ← hQ] at HD
  have BW := below_three (w := w) (.cells #[.int .i64 x.to, .int .i64 x.cost, .slice a1 x.hops.length c1] 73) (.cells #[.int .i64 y.to, .int .i64 y.cost, .slice a2 y.hops.length c2] 73) (.cells #[.int .i64 0, .int .i64 0, .slice none 0 0] 73)
  have q0 := heap3_0 w (.cells #[.int .i64 x.to, .int .i64 x.cost, .slice a1 x.hops.length c1] 73) (.cells #[.int .i64 y.to, .int .i64 y.cost, .slice a2 y.hops.length c2] 73) (.cells #[.int .i64 0, .int .i64 0, .slice none 0 0] 73)
  have q1 := heap3_1 w (.cells #[.int .i64 x.to, .int .i64 x.cost, .slice a1 x.hops.length c1] 73) (.cells #[.int .i64 y.to, .int .i64 y.cost, .slice a2 y.hops.length c2] 73) (.cells #[.int .i64 0, .int .i64 0, .slice none 0 0] 73)
  have q2 := heap3_2 w (.cells #[.int .i64 x.to, .int .i64 x.cost, .slice a1 x.hops.length c1] 73) (.cells #[.int .i64 y.to, .int .i64 y.cost, .slice a2 y.hops.length c2] 73) (.cells #[.int .i64 0, .int .i64 0, .slice none 0 0] 73)
  obtain ⟨w0, hw0⟩ : ∃ W, W = ((w.alloc (.cells #[.int .i64 x.to, .int .i64 x.cost, .slice a1 x.hops.length c1] 73)).alloc (.cells #[.int .i64 y.to, .int .i64 y.cost, .slice a2 y.hops.length c2] 73)).alloc (.cells #[.int .i64 0, .int .i64 0, .slice none 0 0] 73) := ⟨_, rfl⟩
  rw [← hw0] at BW q0 q1 q2
  clear h1 h2 hP hQ hD
  unfold wayC at *
  have fin : ∀ (X : WayD) (na : Option Addr) (nc lo : Nat) (W : World), W.heap[w.heap.size + 1 + 1]? = some (.cells #[.int .i64 0, .int .i64 0, .slice none 0 0] 73) → W.ownsRow lo 3 1 (.slice na X.hops.length nc) X.hops.length (flat intE X.hops) → w.heap.size + 1 + 1 < lo → Below w.heap.size w W → (putW3 W (w.heap.size + 1 + 1) X (.slice na X.hops.length nc)).heap[w.heap.size + 1 + 1]? = some (.cells (wayC X (.slice na X.hops.length nc)) 73) ∧ (putW3 W (w.heap.size + 1 + 1) X (.slice na X.hops.length nc)).ownsRow w.heap.size 3 1 (.slice na X.hops.length nc) X.hops.length (flat intE X.hops) ∧ Below w.heap.size w (putW3 W (w.heap.size + 1 + 1) X (.slice na X.hops.length nc)) := by
    intro X na nc lo W hz ho hlo hb
    have G := grownW3 W (w.heap.size + 1 + 1) X (.slice na X.hops.length nc)
    refine ⟨finW3 X _ hz, owns_baseS (owns_keepB ho (fun k hk => G.block k (ho.lt k hk).2 (fun e => by have := (ho.lt k hk).1; simp at e; omega))) (by omega), hb.grown G hb.size (fun k hk => by simp at hk; omega)⟩
  have FIN := hide fin
  clear fin
  have r0 := cells_at q0 0
  have r1 := cells_at q0 1
  have r2 := cells_at q0 2
  have s0 := cells_at q1 0
  have s1 := cells_at q1 1
  have s2 := cells_at q1 2
  simp at r0 r1 r2 s0 s1 s2
  have z0 := lt_of_heap q0
  have z1 := lt_of_heap q1
  have z2 := lt_of_heap q2
  go_enter Tryz.func205, Tryz.ntmps205
  go_wp2_with fail
  rw [← hw0]
  clear hw0
  refine (HB1.out _).mono ?_
  rintro e w1 ⟨rfl, e1⟩
  have e1s := e1.size
  have B1 : Below w.heap.size w w1 := BW.trans (e1.mono BW.size)
  have p0 := (e1.block _ z0).trans q0
  have p1 := (e1.block _ z1).trans q1
  have p2 := (e1.block _ z2).trans q2
  clear r0 r1 r2 s0 s1 s2 q0 q1 q2 e1
  have r0 := cells_at p0 0
  have r1 := cells_at p0 1
  have r2 := cells_at p0 2
  have s0 := cells_at p1 0
  have s1 := cells_at p1 1
  have s2 := cells_at p1 2
  simp at r0 r1 r2 s0 s1 s2
  cases P
  · go_wp2_with fail
    refine (HB2.out _).mono ?_
    rintro e w2 ⟨rfl, e2⟩
    have e2s := e2.size
    have B2 : Below w.heap.size w w2 := B1.trans (e2.mono B1.size)
    have k0 := (e2.block _ (lt_of_heap p0)).trans p0
    have k1 := (e2.block _ (lt_of_heap p1)).trans p1
    have k2 := (e2.block _ (lt_of_heap p2)).trans p2
    clear r0 r1 r2 s0 s1 s2 p0 p1 p2 e2
    have r0 := cells_at k0 0
    have r1 := cells_at k0 1
    have r2 := cells_at k0 2
    have s0 := cells_at k1 0
    have s1 := cells_at k1 1
    have s2 := cells_at k1 2
    simp at r0 r1 r2 s0 s1 s2
    cases Q
    · have hDe : D = ⟨x.to, x.cost, addL x.hops y.hops⟩ := HD.out
      have zz0 : w.heap.size < w2.heap.size := by omega
      have zz1 : w.heap.size + 1 < w2.heap.size := by omega
      have B2D : Below w.heap.size w w2.drew := B2.drew
      have HAL := hide (addL_len x.hops y.hops)
      have K2 := hide k2
      clear k0 k1 k2
      go_wp2
      go_region_held3 (fun W => W.cell? ⟨w.heap.size, 0, none⟩ = some (.int .i64 x.to) ∧ W.cell? ⟨w.heap.size, 1, none⟩ = some (.int .i64 x.cost) ∧ W.cell? ⟨w.heap.size, 2, none⟩ = some (.slice a1 x.hops.length c1) ∧ W.cell? ⟨w.heap.size + 1, 2, none⟩ = some (.slice a2 y.hops.length c2)) (first | (refine ⟨?_, ?_, ?_, ?_⟩ <;> (rw [b3.cell (by assumption)]; assumption)) | (refine ⟨?_, ?_, ?_, ?_⟩ <;> (rw [cellW3 (by omega), b3.cell (by assumption)]; assumption)) | go_keep) (first | (go_at_call 121; refine (HAD.out _ B2D).mono ?_; rintro e w3 ⟨v3, rfl, o3, b3⟩; obtain ⟨na, nc, rfl⟩ := owns_lenS o3; have k3 := (b3.block _ (show w.heap.size + 1 + 1 < w2.drew.heap.size from lt_of_heap K2.out)).trans K2.out; have t0 := cells_at k3 0; have t1 := cells_at k3 1; have t2 := cells_at k3 2; simp at t0 t1 t2; have ft := frozen_at k3))
      have F := FIN.out ⟨x.to, x.cost, addL x.hops y.hops⟩ na nc _ w3 k3 o3 (lt_of_heap K2.out) (B2D.trans (b3.mono B2D.size))
      subst hDe
      clear k3 t0 t1 t2 ft
      have FF := hide F.1
      have O5 := hide F.2.1
      have B5 := hide F.2.2
      clear F
      go_wp2_with fail
      (try simp only [Exit.inBlock, Exit.then])
      refine bodyPost_ret (results_cell_row rfl _ _ (w.heap.size + 1 + 1) 73 (wayC _ _) (0, 0) _ rfl FF.out Tryz.underlying73 rfl (by kernel_rfl)) rfl ?_
      exact ⟨_, rfl, O5.out, B5.out⟩
    · have hDe : D = y := HD.out
      subst hDe
      go_wp2_with fail
      refine (HC2.out _ B2).mono ?_
      rintro e w3 ⟨v3, rfl, o3, b3⟩
      obtain ⟨na, nc, rfl⟩ := owns_lenS o3
      have k3 := (b3.block _ (lt_of_heap k2)).trans k2
      have t0 := cells_at k3 0
      have t1 := cells_at k3 1
      have t2 := cells_at k3 2
      simp at t0 t1 t2
      have ft := frozen_at k3
      have F := FIN.out D na nc _ w3 k3 o3 (lt_of_heap k2) (B2.trans (b3.mono B2.size))
      clear k0 k1 k2 k3 o3 r0 r1 r2 s0 s1 s2
      have FF := hide F.1
      have O5 := hide F.2.1
      have B5 := hide F.2.2
      clear F
      go_wp2_with fail
      (try simp only [Exit.inBlock, Exit.then])
      refine bodyPost_ret (results_cell_row rfl _ _ (w.heap.size + 1 + 1) 73 (wayC _ _) (0, 0) _ rfl FF.out Tryz.underlying73 rfl (by kernel_rfl)) rfl ?_
      exact ⟨_, rfl, O5.out, B5.out⟩
  · have hDe : D = x := HD.out
    subst hDe
    go_wp2_with fail
    refine (HC1.out _ B1).mono ?_
    rintro e w3 ⟨v3, rfl, o3, b3⟩
    obtain ⟨na, nc, rfl⟩ := owns_lenS o3
    have k3 := (b3.block _ (lt_of_heap p2)).trans p2
    have t0 := cells_at k3 0
    have t1 := cells_at k3 1
    have t2 := cells_at k3 2
    simp at t0 t1 t2
    have ft := frozen_at k3
    have F := FIN.out D na nc _ w3 k3 o3 (lt_of_heap p2) (B1.trans (b3.mono B1.size))
    clear p0 p1 p2 k3 o3 r0 r1 r2 s0 s1 s2
    have FF := hide F.1
    have O5 := hide F.2.1
    have B5 := hide F.2.2
    clear F
    go_wp2_with fail
    (try simp only [Exit.inBlock, Exit.then])
    refine bodyPost_ret (results_cell_row rfl _ _ (w.heap.size + 1 + 1) 73 (wayC _ _) (0, 0) _ rfl FF.out Tryz.underlying73 rfl (by kernel_rfl)) rfl ?_
    exact ⟨_, rfl, O5.out, B5.out⟩
end Go.Proofs.YtdaigojpeofmpaaGreat
namespace Go.Proofs
open Go.Shelf
def Tryz.lays189_ren : Go.Shelf.Ren := ⟨fun | 189 => 192 | 125 => 237 | 257 => 236 | 128 => 261 | 129 => 262 | 294 => 252 | 295 => 253 | 296 => 254 | 297 => 255 | 298 => 256 | 299 => 257 | 216 => 258 | 300 => 259 | 301 => 260 | 328 => 269 | 329 => 270 | 330 => 271 | 331 => 272 | 332 => 273 | 215 => 251 | 343 => 285 | n => n, fun | 28 => 28 | 3 => 3 | 46 => 250 | 0 => 0 | 51 => 288 | 53 => 290 | 4 => 4 | 183 => 282 | 182 => 281 | 131 => 139 | 5 => 5 | 9 => 9 | 218 => 294 | 222 => 298 | 228 => 307 | 229 => 308 | n => n, fun | n => n⟩
theorem Tryz.lays189 : Go.Proofs.Lays.n189 Tryz.prog Tryz.lays189_ren := {
  mixed := by kernel_rfl
  f125 := Tryz.func237.trans (congrArg some (by kernel_rfl))
  f128 := Tryz.func261.trans (congrArg some (by kernel_rfl))
  f129 := Tryz.func262.trans (congrArg some (by kernel_rfl))
  f189 := Tryz.func192.trans (congrArg some (by kernel_rfl))
  f215 := Tryz.func251.trans (congrArg some (by kernel_rfl))
  f216 := Tryz.func258.trans (congrArg some (by kernel_rfl))
  f257 := Tryz.func236.trans (congrArg some (by kernel_rfl))
  f294 := Tryz.func252.trans (congrArg some (by kernel_rfl))
  f295 := Tryz.func253.trans (congrArg some (by kernel_rfl))
  f296 := Tryz.func254.trans (congrArg some (by kernel_rfl))
  f297 := Tryz.func255.trans (congrArg some (by kernel_rfl))
  f298 := Tryz.func256.trans (congrArg some (by kernel_rfl))
  f299 := Tryz.func257.trans (congrArg some (by kernel_rfl))
  f300 := Tryz.func259.trans (congrArg some (by kernel_rfl))
  f301 := Tryz.func260.trans (congrArg some (by kernel_rfl))
  f328 := Tryz.func269.trans (congrArg some (by kernel_rfl))
  f329 := Tryz.func270.trans (congrArg some (by kernel_rfl))
  f330 := Tryz.func271.trans (congrArg some (by kernel_rfl))
  f331 := Tryz.func272.trans (congrArg some (by kernel_rfl))
  f332 := Tryz.func273.trans (congrArg some (by kernel_rfl))
  f343 := Tryz.func285.trans (congrArg some (by kernel_rfl))
  t0 := Tryz.underlying0
  a0 := Tryz.isAgg0
  z0 := Tryz.sizeOf0
  v0 := Tryz.zeroValue0
  t3 := Tryz.underlying3
  a3 := Tryz.isAgg3
  z3 := Tryz.sizeOf3
  v3 := Tryz.zeroValue3
  t4 := Tryz.underlying4
  a4 := Tryz.isAgg4
  z4 := Tryz.sizeOf4
  v4 := Tryz.zeroValue4
  t5 := Tryz.underlying5
  a5 := Tryz.isAgg5
  z5 := Tryz.sizeOf5
  v5 := Tryz.zeroValue5
  t9 := Tryz.underlying9
  a9 := Tryz.isAgg9
  z9 := Tryz.sizeOf9
  v9 := Tryz.zeroValue9
  t28 := Tryz.underlying28
  a28 := Tryz.isAgg28
  z28 := Tryz.sizeOf28
  v28 := Tryz.zeroValue28
  t46 := Tryz.underlying250
  a46 := Tryz.isAgg250
  z46 := Tryz.sizeOf250
  v46 := Tryz.zeroValue250
  t51 := Tryz.underlying288
  a51 := Tryz.isAgg288
  z51 := Tryz.sizeOf288
  v51 := Tryz.zeroValue288
  t53 := Tryz.underlying290
  a53 := Tryz.isAgg290
  z53 := Tryz.sizeOf290
  v53 := Tryz.zeroValue290
  t131 := Tryz.underlying139
  a131 := Tryz.isAgg139
  z131 := Tryz.sizeOf139
  v131 := Tryz.zeroValue139
  t182 := Tryz.underlying281
  a182 := Tryz.isAgg281
  z182 := Tryz.sizeOf281
  v182 := Tryz.zeroValue281
  t183 := Tryz.underlying282
  a183 := Tryz.isAgg282
  z183 := Tryz.sizeOf282
  v183 := Tryz.zeroValue282
  t218 := Tryz.underlying294
  a218 := Tryz.isAgg294
  z218 := Tryz.sizeOf294
  v218 := Tryz.zeroValue294
  t222 := Tryz.underlying298
  a222 := Tryz.isAgg298
  z222 := Tryz.sizeOf298
  v222 := Tryz.zeroValue298
  t228 := Tryz.underlying307
  a228 := Tryz.isAgg307
  z228 := Tryz.sizeOf307
  v228 := Tryz.zeroValue307
  t229 := Tryz.underlying308
  a229 := Tryz.isAgg308
  z229 := Tryz.sizeOf308
  v229 := Tryz.zeroValue308 }
open Go.Sort Go.RowKit in
theorem Tryz.slices_Sort_int (blk off cap : Nat) (zs : List Int) (w : World) (hH : Holds (Value.int .i64) w blk off zs.toArray) (hblk : blk < w.heap.size) (hsz : zs.length < 4611686018427387904) :
    Calls Tryz.prog 192 #[.slice (some ⟨blk, off, none⟩) zs.length cap] w fun e w' =>
      e = .returned (.tuple #[]) ∧ ∃ n os, w' = grow (putRow (Value.int .i64) (Sort.ahead w n) blk off (zs.mergeSort fun x y => decide (x ≤ y)).toArray) os := Any.slices_Sort_int Tryz.lays189 blk off cap zs w hH hblk hsz
open Go.RowKit Go.Sort in
theorem Tryz.slices_Sort_int_none (p : Option Addr) (cap : Nat) (w : World) :
    Calls Tryz.prog 192 #[.slice p 0 cap] w fun e w' => e = .returned (.tuple #[]) ∧ w' = w := Any.slices_Sort_int_none Tryz.lays189 p cap w
def Tryz.laysNm220_ren : Go.Shelf.Ren := ⟨fun | 20 => 193 | n => n, fun | 22 => 28 | 3 => 3 | 4 => 4 | 0 => 0 | n => n, fun | n => n⟩
theorem Tryz.laysNm220 : Go.Proofs.Lays2.n20 Tryz.prog Tryz.laysNm220_ren := {
  mixed := by kernel_rfl
  f20 := Tryz.func193.trans (congrArg some (by kernel_rfl))
  t0 := Tryz.underlying0
  a0 := Tryz.isAgg0
  z0 := Tryz.sizeOf0
  v0 := Tryz.zeroValue0
  t3 := Tryz.underlying3
  a3 := Tryz.isAgg3
  z3 := Tryz.sizeOf3
  v3 := Tryz.zeroValue3
  t4 := Tryz.underlying4
  a4 := Tryz.isAgg4
  z4 := Tryz.sizeOf4
  v4 := Tryz.zeroValue4
  t22 := Tryz.underlying28
  a22 := Tryz.isAgg28
  z22 := Tryz.sizeOf28
  v22 := Tryz.zeroValue28
  i3 := by kernel_rfl }
open Go.RowKit Go.Lib Go.Sort in
theorem Tryz.slices_Compact_int (blk off cap : Nat) (zs : List Int) (w : World) (hH : Holds (Value.int .i64) w blk off zs.toArray) (hsz : zs.length ≤ 9223372036854775807) (hcap : zs.length ≤ cap) :
    Calls Tryz.prog 193 #[.slice (some ⟨blk, off, none⟩) zs.length cap] w fun e w' => e = .returned (.slice (some ⟨blk, off, none⟩) (Lib.compact zs).length cap) ∧ ∃ q, w' = putRow (Value.int .i64) (Sort.ahead w q) blk off (Lib.compact zs ++ List.replicate (zs.length - (Lib.compact zs).length) 0).toArray := Any.slices_Compact_int Tryz.laysNm220 blk off cap zs w hH hsz hcap
open Go.RowKit Go.Lib Go.Sort in
theorem Tryz.slices_Compact_int_empty (a : Option Addr) (cap : Nat) (w : World) :
    Calls Tryz.prog 193 #[.slice a 0 cap] w fun e w' => e = .returned (.slice a 0 cap) ∧ w' = w := Any.slices_Compact_int_empty Tryz.laysNm220 a cap w
end Go.Proofs
namespace Go.Proofs.YtdaigojpeofmpaaGreat
open Go.RowKit

open Go.Sort Go.Lib in
/-- slices.Sort of a row of the call's own -/
theorem sort_own (base : Nat) (u : Value) (zs : List Int) (w : World) (hown : w.ownsRow base 3 1 u zs.length (intsOf zs)) (hz : zs.length ≤ 1000000000) :
    Calls Tryz.prog 192 #[u] w fun e w' => e = .returned (.tuple #[]) ∧ w'.ownsRow base 3 1 u (zs.mergeSort fun x y => decide (x ≤ y)).length (intsOf (zs.mergeSort fun x y => decide (x ≤ y))) ∧ (∀ B w0, B ≤ base → Below B w0 w → Below B w0 w') := by
  by_cases h0 : zs = []
  · subst h0
    obtain ⟨a, cap, rfl⟩ := owns_len hown
    refine (Tryz.slices_Sort_int_none a cap w).mono ?_
    rintro e w' ⟨rfl, rfl⟩
    exact ⟨rfl, by simpa using hown, fun _ _ _ h => h⟩
  · have hne : 0 < zs.length := List.length_pos_iff.2 h0
    obtain ⟨g, cap, hv, hg, hlt, hnc, hcm, _, hH⟩ := holds_of_ownsRow (enc := Value.int .i64) hown (fun e => by
      obtain ⟨g, cp, e2, _⟩ := owns_shape hown hne
      rw [e2] at e; cases e)
    subst hv
    have hh := hown.2
    rcases hh with ⟨e0, _⟩ | ⟨g', cap', cur, e0, _, hc, _, _, hs, _⟩
    · cases e0
    · cases e0
      refine (Tryz.slices_Sort_int g 0 cap zs w hH hlt (by omega)).mono ?_
      rintro e w' ⟨rfl, n, os, rfl⟩
      have hl : (zs.mergeSort fun x y => decide (x ≤ y)).length = zs.length := List.length_mergeSort _
      refine ⟨rfl, ?_, fun B w0 hB h => h.grown (grownBy_sortedI _) (by omega) (fun k hk => by simp at hk; omega)⟩
      rw [hl]
      exact ownsRow_sortedI hl hg hc hnc hcm hs

open Go.Sort Go.Lib in
/-- slices.Compact of a row of the call's own -/
theorem compact_own (base : Nat) (u : Value) (zs : List Int) (w : World) (hown : w.ownsRow base 3 1 u zs.length (intsOf zs)) (hz : zs.length ≤ 1000000000) :
    Calls Tryz.prog 193 #[u] w fun e w' => ∃ x, e = .returned x ∧ w'.ownsRow base 3 1 x (Lib.compact zs).length (intsOf (Lib.compact zs)) ∧ (∀ B w0, B ≤ base → Below B w0 w → Below B w0 w') := by
  by_cases h0 : zs = []
  · subst h0
    obtain ⟨a, cap, rfl⟩ := owns_len hown
    refine (Tryz.slices_Compact_int_empty a cap w).mono ?_
    rintro e w' ⟨rfl, rfl⟩
    exact ⟨_, rfl, by simpa [Lib.compact, Lib.compactUpTo] using hown, fun _ _ _ h => h⟩
  · have hne : 0 < zs.length := List.length_pos_iff.2 h0
    obtain ⟨g, cap, hv, hg, hlt, hnc, hcm, _, hH⟩ := holds_of_ownsRow (enc := Value.int .i64) hown (fun e => by
      obtain ⟨g, cp, e2, _⟩ := owns_shape hown hne
      rw [e2] at e; cases e)
    subst hv
    refine (Tryz.slices_Compact_int g 0 cap zs w hH (by omega) hnc).mono ?_
    rintro e w' ⟨rfl, q, rfl⟩
    have hle := Lib.compact_length_le zs
    have ho := ownsRow_putRow (q := q) (k := (Lib.compact zs).length) (ys := Lib.compact zs ++ List.replicate (zs.length - (Lib.compact zs).length) 0) hown (by simp; omega) hle
    rw [List.take_append_of_le_length (Nat.le_refl _), List.take_length] at ho
    exact ⟨_, rfl, ho, fun B w0 hB h => below_putRow h (by omega)⟩

theorem upTo_mem (d : Array Int) : ∀ (m j : Nat), j < m → d[j]! ∈ Lib.compactUpTo d m
  | 0, j, h => by omega
  | m + 1, j, h => by
    rw [Lib.compactUpTo_succ]
    by_cases hj : j < m
    · exact List.mem_append_left _ (upTo_mem d m j hj)
    · obtain rfl : j = m := by omega
      by_cases hk : Lib.keeps d j = true
      · rw [if_pos hk]; simp
      · have hk2 : ¬ (j = 0 ∨ d[j]! ≠ d[j - 1]!) := by simpa [Lib.keeps] using hk
        have h0 : 0 < j := by omega
        have he : d[j]! = d[j - 1]! := by
          by_cases e : d[j]! = d[j - 1]!
          · exact e
          · exact absurd (Or.inr e) hk2
        rw [he]
        exact List.mem_append_left _ (upTo_mem d j (j - 1) (by omega))

theorem mem_compact {zs : List Int} {x : Int} : x ∈ Lib.compact zs ↔ x ∈ zs := by
  constructor
  · intro h
    simp only [Lib.compact, Lib.compactUpTo, List.mem_map, List.mem_filter, List.mem_range] at h
    obtain ⟨j, ⟨hj, _⟩, rfl⟩ := h
    have : zs.toArray[j]! = zs[j] := by simp [hj]
    rw [this]
    exact List.getElem_mem hj
  · intro h
    obtain ⟨j, hj, rfl⟩ := List.mem_iff_getElem.1 h
    have e : zs[j] = zs.toArray[j]! := by simp [hj]
    rw [e]
    exact upTo_mem _ _ j hj

theorem upTo_asc (d : Array Int) (n : Nat) (hs : ∀ i j, i ≤ j → j < n → d[i]! ≤ d[j]!) : ∀ m, m ≤ n → (Lib.compactUpTo d m).Pairwise (· < ·)
  | 0, _ => by simp [Lib.compactUpTo]
  | m + 1, h => by
    rw [Lib.compactUpTo_succ, List.pairwise_append]
    refine ⟨upTo_asc d n hs m (by omega), by split <;> simp, fun x hx y hy => ?_⟩
    simp only [Lib.compactUpTo, List.mem_map, List.mem_filter, List.mem_range] at hx
    obtain ⟨j, ⟨hj, _⟩, rfl⟩ := hx
    split at hy
    · rename_i hk
      have e : y = d[m]! := by simpa using hy
      subst e
      have hk2 : m = 0 ∨ d[m]! ≠ d[m - 1]! := by simpa [Lib.keeps] using hk
      have h1 := hs j (m - 1) (by omega) (by omega)
      have h2 := hs (m - 1) m (by omega) (by omega)
      rcases hk2 with h3 | h3
      · omega
      · omega
    · cases hy

theorem sorted_get {zs : List Int} (hp : zs.Pairwise (fun a b => decide (a ≤ b) = true)) : ∀ i j, i ≤ j → j < zs.length → zs.toArray[i]! ≤ zs.toArray[j]! := by
  intro i j hij hj
  have hi : i < zs.length := by omega
  have e1 : zs.toArray[i]! = zs[i] := by simp [hi]
  have e2 : zs.toArray[j]! = zs[j] := by simp [hj]
  rw [e1, e2]
  by_cases e : i = j
  · subst e; exact Int.le_refl _
  · have := List.pairwise_iff_getElem.1 hp i j hi hj (by omega)
    simpa using this

def hopsI (a b : List Int) : List Int := Lib.compact ((a ++ b).mergeSort fun x y => decide (x ≤ y))

theorem hopsI_mem {a b : List Int} {x : Int} : x ∈ hopsI a b ↔ x ∈ a ∨ x ∈ b := by
  unfold hopsI
  rw [mem_compact, List.mem_mergeSort, List.mem_append]

theorem hopsI_asc (a b : List Int) : (hopsI a b).Pairwise (· < ·) := by
  unfold hopsI Lib.compact
  refine upTo_asc _ _ ?_ _ (Nat.le_refl _)
  have hp := List.pairwise_mergeSort (le := fun x y : Int => decide (x ≤ y)) (fun a b c h1 h2 => by simp at h1 h2 ⊢; omega) (fun a b => by simp; omega) (a ++ b)
  exact sorted_get hp

theorem hopsI_len (a b : List Int) : (hopsI a b).length ≤ a.length + b.length := by
  unfold hopsI
  have := Lib.compact_length_le ((a ++ b).mergeSort fun x y => decide (x ≤ y))
  rw [List.length_mergeSort, List.length_append] at this
  exact this
end Go.Proofs.YtdaigojpeofmpaaGreat
namespace Go.Proofs.YtdaigojpeofmpaaGreat
open Go.RowKit

set_option linter.unusedSimpArgs false

theorem results_cell_row_tmpW {P : Program} {fn : Func} {p u : Tmp} {ty : TypeId} (h : fn.results = #[.cell p ty, .tmp u]) (tmps : Array Value) (w : World) (g : Nat) (t : TypeId) (cs : Array Value) (fr : Nat × Nat) (d : TypeDesc)
    (hp : tmps.getD p undef = .pointer (some ⟨g, 0, none⟩)) (hg : w.heap[g]? = some (.cells cs t fr))
    (hu : P.underlying ty = some d) (hd : (match d with | .struct _ | .array _ _ => true | _ => false) = true) (hi : (P.info? ty).map (·.size) = some cs.size) :
    (results fn tmps).run P w = .ok (.tuple #[.agg cs, tmps.getD u undef]) w := by
  have hp' : tmps[p]?.getD undef = .pointer (some ⟨g, 0, none⟩) := by simpa using hp
  rw [results_cell_tmp h]
  simp [hp', asAddr, run_loadVar_row w g t ty cs fr d hg hu hd hi]

/-- the first way to z -/
def wayToD (xs : List WayD) (z : Int) : WayD := (xs.find? (fun x => x.to == z)).getD zeroWD

def wayToB (xs : List WayD) (z : Int) : Bool := (xs.find? (fun x => x.to == z)).isSome

theorem wayTo_hit {ps : List WP} {k : Nat} {p : WP} {z : Int} (h : ps[k]? = some p) (hno : ∀ q ∈ ps.take k, q.1.to ≠ z) (hz : p.1.to = z) : wayToD (fstsW ps) z = p.1 ∧ wayToB (fstsW ps) z = true := by
  have e : (fstsW ps).find? (fun x => x.to == z) = some p.1 := by
    have h1 := fstsW_at h
    obtain ⟨hk, e1⟩ := List.getElem?_eq_some_iff.1 h1
    rw [List.find?_eq_some_iff_append]
    refine ⟨by simpa using hz, (fstsW ps).take k, (fstsW ps).drop (k + 1), ?_, ?_⟩
    · rw [← e1, ← List.drop_eq_getElem_cons hk, List.take_append_drop]
    · intro x hx
      have e2 : (fstsW ps).take k = fstsW (ps.take k) := by simp [fstsW]
      rw [e2] at hx
      simp only [fstsW, List.mem_map] at hx
      obtain ⟨q, hq, rfl⟩ := hx
      simpa using hno q hq
  unfold wayToD wayToB
  rw [e]
  exact ⟨rfl, rfl⟩

theorem wayTo_none {ps : List WP} {z : Int} (hno : ∀ q ∈ ps, q.1.to ≠ z) : wayToD (fstsW ps) z = zeroWD ∧ wayToB (fstsW ps) z = false := by
  have e : (fstsW ps).find? (fun x => x.to == z) = none := by
    rw [List.find?_eq_none]
    intro x hx
    simp only [fstsW, List.mem_map] at hx
    obtain ⟨q, hq, rfl⟩ := hx
    simpa using hno q hq
  unfold wayToD wayToB
  rw [e]
  exact ⟨rfl, rfl⟩

theorem take_all {ps : List WP} {k : Nat} {p : WP} {z : Int} (h : ps[k]? = some p) (hno : ∀ q ∈ ps.take k, q.1.to ≠ z) (hz : p.1.to ≠ z) : ∀ q ∈ ps.take (k + 1), q.1.to ≠ z := by
  obtain ⟨hk, e⟩ := List.getElem?_eq_some_iff.1 h
  rw [List.take_succ_eq_append_getElem hk, e]
  intro q hq
  rcases List.mem_append.1 hq with h1 | h1
  · exact hno q h1
  · have : q = p := by simpa using h1
    subst this
    exact hz

set_option maxRecDepth 100000 in
set_option maxHeartbeats 2000000 in
theorem swayTo_any (v : Value) (ps : List WP) (lo hi : Nat) (z : Int) (w : World) (hv : WaysOwn w lo hi v ps) (hhi : hi ≤ w.heap.size) (hn : totW ps ≤ 1048576) :
    Calls Tryz.prog 43 #[v, .int .i64 z] w fun e w' => ∃ u, e = .returned (.tuple #[.agg (wayC (wayToD (fstsW ps) z) u), .bool (wayToB (fstsW ps) z)]) ∧ w'.ownsRow w.heap.size 3 1 u (wayToD (fstsW ps) z).hops.length (flat intE (wayToD (fstsW ps) z).hops) ∧ Below w.heap.size w w' := by
  have hnl := totW_len ps
  obtain ⟨D, hD⟩ : ∃ D, D = wayToD (fstsW ps) z := ⟨_, rfl⟩
  obtain ⟨F, hF⟩ : ∃ F, F = wayToB (fstsW ps) z := ⟨_, rfl⟩
  rw [← hD, ← hF]
  have HD := hide hD
  have HF := hide hF
  clear hD hF
  obtain ⟨a1, c1, rfl⟩ := owns_lenS hv.row
  have HV := hide hv
  clear hv
  have BX : Below w.heap.size w (w.alloc (.cells #[.int .i64 0, .int .i64 0, .slice none 0 0] 73)) := (Below.refl _ _).alloc (Nat.le_refl _) _
  have hq := heap_alloc_new w (.cells #[.int .i64 0, .int .i64 0, .slice none 0 0] 73)
  obtain ⟨w0, hw0⟩ : ∃ W, W = w.alloc (.cells #[.int .i64 0, .int .i64 0, .slice none 0 0] 73) := ⟨_, rfl⟩
  rw [← hw0] at BX hq
  have hs0 := lt_of_heap hq
  have HQ := hide hq
  clear hq
  unfold wayC
  go_enter Tryz.func43, Tryz.ntmps43
  go_wp2
  rw [← hw0]
  clear hw0
  go_loopw [6] (fun i wr => ∃ k : Nat, k ≤ ps.length ∧ i = .int .i64 k ∧ Hid (∀ q ∈ ps.take k, q.1.to ≠ z) ∧ Below w0.heap.size w0 wr) (fun i _ => ps.length - (intOf i).toNat)
  case atStart => exact ⟨0, by omega, rfl, hide (by simp), Below.refl _ _⟩
  case round =>
    obtain ⟨k, hk, rfl, HNO, hnx⟩ := hrel
    have hsz := hnx.size
    have BWR : Below w.heap.size w wr := BX.trans (hnx.mono (by omega))
    have hz1 := (hnx.block _ hs0).trans HQ.out
    by_cases hlt : k < ps.length
    · obtain ⟨p, hp⟩ : ∃ p, ps[k]? = some p := ⟨ps[k], List.getElem?_eq_getElem hlt⟩
      obtain ⟨b, off, cp, hve, hbb, c0, c1, c2, _⟩ := HV.out.at.cells k p hp
      cases hve
      have hbw : b < w.heap.size := by omega
      have hno := HV.out.nears p (List.mem_of_getElem? hp)
      obtain ⟨pa, pc, hpn⟩ := owns_lenS hno.1
      have HCP := hide (fun W (hb : Below w.heap.size w W) => copyW_any p.1 p.2 lo W (owns_below hno.1 hb (Nat.le_refl _)) (by have := totW_mem (List.mem_of_getElem? hp); omega))
      unfold wayC at HCP
      rw [hpn] at c2 HCP
      rw [← BWR.cell (p := ⟨b, off + k * 3, none⟩) hbw] at c0
      rw [← BWR.cell (p := ⟨b, off + k * 3 + 1, none⟩) hbw] at c1
      rw [← BWR.cell (p := ⟨b, off + k * 3 + 2, none⟩) hbw] at c2
      have hki : (0 : Int) ≤ (k : Int) := by omega
      have hkj : (k : Int) < (ps.length : Int) := by omega
      by_cases hzz : p.1.to = z
      · have hh := wayTo_hit hp HNO.out hzz
        have hDe : D = p.1 := HD.out.trans hh.1
        have hFe : F = true := HF.out.trans hh.2
        subst hDe hFe
        subst hzz
        clear hp hno hpn hh
        go_wp2_with fail
        refine (HCP.out _ BWR).mono ?_
        rintro e w2 ⟨v1, rfl, hn2, b2⟩
        obtain ⟨na, nc, rfl⟩ := owns_lenS hn2
        have b2s := b2.size
        have hz2 := (b2.block _ (lt_of_heap hz1)).trans hz1
        have u0 := cells_at hz2 0
        have u1 := cells_at hz2 1
        have u2 := cells_at hz2 2
        simp at u0 u1 u2
        have fu := frozen_at hz2
        have FF := hide (finW3 p.1 (.slice na p.1.hops.length nc) hz2)
        have G8 := grownW3 w2 w.heap.size p.1 (.slice na p.1.hops.length nc)
        have O3 := hide (owns_baseS (b0 := w.heap.size) (hn2.kept G8 (by
          cases hv : (Value.slice na p.1.hops.length nc).ownBlock with
          | none => exact .inl rfl
          | some g => exact .inr (fun e => by have := (hn2.lt g hv).1; simp at e; omega))) (by omega))
        have B2 : Below w.heap.size w w2 := BWR.trans (b2.mono (by omega))
        have BF := hide (B2.grown G8 B2.size (fun k hk => by simp at hk; omega))
        clear hz2 hn2 b2 G8 hz1
        go_wp2_with fail
        (try simp only [Exit.inBlock, Exit.then])
        refine bodyPost_ret (results_cell_row_tmpW rfl _ _ w.heap.size 73 (wayC p.1 (.slice na p.1.hops.length nc)) (0, 0) _ rfl FF.out Tryz.underlying73 rfl (by kernel_rfl)) rfl ?_
        exact ⟨_, rfl, O3.out, BF.out⟩
      · have HN := hide (take_all hp HNO.out hzz)
        have hd : (p.1.to == z) = false := by simpa using hzz
        clear hp hno hpn hz1
        go_wp2
        go_roundw
        case rel => exact ⟨k + 1, by omega, by go_num, HN, hnx⟩
        case measure => simp [intOf]; omega
    · have hh := wayTo_none (ps := ps) (z := z) (by have h := HNO.out; rw [List.take_of_length_le (by omega)] at h; exact h)
      have hDe : D = zeroWD := HD.out.trans hh.1
      have hFe : F = false := HF.out.trans hh.2
      subst hDe hFe
      have u0 := cells_at hz1 0
      have u1 := cells_at hz1 1
      have u2 := cells_at hz1 2
      simp at u0 u1 u2
      have fu := frozen_at hz1
      have FF := hide (finW3 zeroWD (.slice none 0 0) hz1)
      have G8 := hide (grownW3 wr w.heap.size zeroWD (.slice none 0 0))
      clear hz1 hh
      go_wp2_with fail
      (try simp only [Exit.inBlock, Exit.then])
      refine bodyPost_ret (results_cell_row_tmpW rfl _ _ w.heap.size 73 (wayC zeroWD (.slice none 0 0)) (0, 0) _ rfl FF.out Tryz.underlying73 rfl (by kernel_rfl)) rfl ?_
      exact ⟨.slice none 0 0, rfl, World.ownsRow_nil _ _ _ _, BWR.grown G8.out BWR.size (fun k hk => by simp at hk; omega)⟩
end Go.Proofs.YtdaigojpeofmpaaGreat
namespace Go.Proofs.YtdaigojpeofmpaaGreat
open Go.RowKit

set_option linter.unusedSimpArgs false

set_option maxRecDepth 100000 in
set_option maxHeartbeats 1000000 in
theorem ownHops_any (l : List Int) (v : Value) (base : Nat) (w : World) (ho : w.ownsRow base 3 1 v l.length (flat intE l)) (hn : l.length ≤ 1048576) :
    Calls Tryz.prog 136 #[v] w fun e w' => ∃ v', e = .returned v' ∧ w'.ownsRow w.heap.size 3 1 v' l.length (flat intE l) ∧ Below w.heap.size w w' := by
  obtain ⟨va, vc, rfl⟩ := owns_lenS ho
  have OW := hide ho
  clear ho
  go_enter Tryz.func136, Tryz.ntmps136
  go_wp2_with (first
    | (at_builtin; refine append_row5 int_flat1 (by omega) intE_one (by omega) _ rfl _ _ 28 rfl w.heap.size 3 Tryz.underlying28 (.int .i64 0) rfl Tryz.info3 _ [] rfl (World.ownsRow_nil _ _ _ _) base _ l rfl OW.out (by simp; omega) (by simp) ?_))
  intro v' w4 hown' hgrow
  obtain ⟨na, nc, rfl⟩ := owns_lenS hown'
  simp only [Value.ownBlock] at hgrow
  have hb4 := hide (show Below w.heap.size w w4 from (Below.refl w.heap.size w).grown hgrow (Nat.le_refl _) (fun k hk => by simp at hk))
  have H1 := hide hown'
  clear hown' hgrow
  go_wp2
  go_ret
  exact ⟨_, rfl, by simpa using H1.out, hb4.out⟩

set_option maxRecDepth 100000 in
set_option maxHeartbeats 1000000 in
theorem ownWay_any (x : WayD) (v : Value) (base : Nat) (w : World) (ho : w.ownsRow base 3 1 v x.hops.length (flat intE x.hops)) (hn : x.hops.length ≤ 1048576) :
    Calls Tryz.prog 115 #[.agg (wayC x v)] w fun e w' => ∃ v', e = .returned (.agg (wayC x v')) ∧ w'.ownsRow w.heap.size 3 1 v' x.hops.length (flat intE x.hops) ∧ Below w.heap.size w w' := by
  obtain ⟨va, vc, rfl⟩ := owns_lenS ho
  have HC := hide (fun W (hb : Below w.heap.size w W) => ownHops_any x.hops (.slice va x.hops.length vc) base W (owns_below ho hb (Nat.le_refl _)) hn)
  clear ho
  go_enter Tryz.func115, Tryz.ntmps115
  unfold wayC
  go_wp2_with fail
  have hb0 : Below w.heap.size w ((w.alloc (.cells #[.int .i64 x.to, .int .i64 x.cost, .slice va x.hops.length vc] 73)).alloc (.cells #[.int .i64 0, .int .i64 0, .slice none 0 0] 73)) := ((Below.refl w.heap.size w).alloc (by simp) _).alloc (by simp) _
  have q0 : ((w.alloc (.cells #[.int .i64 x.to, .int .i64 x.cost, .slice va x.hops.length vc] 73)).alloc (.cells #[.int .i64 0, .int .i64 0, .slice none 0 0] 73)).heap[w.heap.size]? = some (.cells #[.int .i64 x.to, .int .i64 x.cost, .slice va x.hops.length vc] 73) := by
    rw [Below.heap_alloc _ _ _ (by simp), heap_alloc_new]
  have q1 : ((w.alloc (.cells #[.int .i64 x.to, .int .i64 x.cost, .slice va x.hops.length vc] 73)).alloc (.cells #[.int .i64 0, .int .i64 0, .slice none 0 0] 73)).heap[w.heap.size + 1]? = some (.cells #[.int .i64 0, .int .i64 0, .slice none 0 0] 73) := by
    have e := heap_alloc_new (w.alloc (.cells #[.int .i64 x.to, .int .i64 x.cost, .slice va x.hops.length vc] 73)) (.cells #[.int .i64 0, .int .i64 0, .slice none 0 0] 73)
    rw [show (w.alloc (.cells #[.int .i64 x.to, .int .i64 x.cost, .slice va x.hops.length vc] 73)).heap.size = w.heap.size + 1 by simp] at e
    exact e
  generalize ((w.alloc (.cells #[.int .i64 x.to, .int .i64 x.cost, .slice va x.hops.length vc] 73)).alloc (.cells #[.int .i64 0, .int .i64 0, .slice none 0 0] 73)) = w3 at *
  refine (HC.out _ hb0).mono ?_
  rintro e w4 ⟨v', rfl, hown', hb4'⟩
  obtain ⟨na, nc, rfl⟩ := owns_lenS hown'
  have hs1 := lt_of_heap q1
  have hb4 : Below w.heap.size w w4 := hb0.trans (hb4'.mono (by omega))
  have q0 := (hb4'.block _ (by omega)).trans q0
  have q1 := (hb4'.block _ hs1).trans q1
  have r2 := cells_at q0 2
  have f0 := frozen_at q0
  simp at r2
  have q2 := heap_setCell_same w4 w.heap.size 2 _ _ (.slice na x.hops.length nc) q0
  simp only [List.setIfInBounds_toArray, List.set_cons_zero, List.set_cons_succ] at q2
  have q3 : (w4.setCell ⟨w.heap.size, 2, none⟩ (.slice na x.hops.length nc)).heap[w.heap.size + 1]? = some (.cells #[.int .i64 0, .int .i64 0, .slice none 0 0] 73) := by
    rw [heap_setCell_other w4 ⟨w.heap.size, 2, none⟩ _ _ (by show w.heap.size + 1 ≠ w.heap.size; omega)]; exact q1
  have y0 := cells_at q2 0
  have y1 := cells_at q2 1
  have y2 := cells_at q2 2
  simp at y0 y1 y2
  have u0 := cells_at q3 0
  have u1 := cells_at q3 1
  have u2 := cells_at q3 2
  simp at u0 u1 u2
  have fu := frozen_at q3
  have F := finW3 x (.slice na x.hops.length nc) q3
  have hown2 := owns_set (j := 2) (u := .slice na x.hops.length nc) hown' (show w.heap.size < w3.heap.size by omega)
  have G8 := grownW3 (w4.setCell ⟨w.heap.size, 2, none⟩ (.slice na x.hops.length nc)) (w.heap.size + 1) x (.slice na x.hops.length nc)
  have hown3 := owns_baseS (b0 := w.heap.size) (hown2.kept G8 (by
    cases hv : (Value.slice na x.hops.length nc).ownBlock with
    | none => exact .inl rfl
    | some g => exact .inr (fun e => by have := (hown2.lt g hv).1; simp at e; omega))) (by omega)
  have hb5 : Below w.heap.size w (putW3 (w4.setCell ⟨w.heap.size, 2, none⟩ (.slice na x.hops.length nc)) (w.heap.size + 1) x (.slice na x.hops.length nc)) := (hb4.setCell (p := ⟨w.heap.size, 2, none⟩) (Nat.le_refl _) _).grown G8 (by have := lt_of_heap q3; omega) (fun k hk => by simp at hk; omega)
  have FF := hide F
  have H3 := hide hown3
  have H5 := hide hb5
  clear F hown3 hb5 hown2 G8 hb4 hown' hb4' q0 q1 q2 q3 hb0 HC
  go_wp2_with fail
  (try simp only [Exit.inBlock, Exit.then])
  refine bodyPost_ret (results_cell_row rfl _ _ (w.heap.size + 1) 73 (wayC _ _) (0, 0) _ rfl FF.out Tryz.underlying73 rfl (by kernel_rfl)) rfl ?_
  exact ⟨_, rfl, H3.out, H5.out⟩

set_option maxRecDepth 100000 in
set_option maxHeartbeats 2000000 in
theorem iwayTo_any (v : Value) (ps : List WP) (lo hi : Nat) (z : Int) (w : World) (hv : WaysOwn w lo hi v ps) (hhi : hi ≤ w.heap.size) (hn : totW ps ≤ 1048576) :
    Calls Tryz.prog 41 #[v, .int .i64 z] w fun e w' => ∃ u, e = .returned (.tuple #[.agg (wayC (wayToD (fstsW ps) z) u), .bool (wayToB (fstsW ps) z)]) ∧ w'.ownsRow w.heap.size 3 1 u (wayToD (fstsW ps) z).hops.length (flat intE (wayToD (fstsW ps) z).hops) ∧ Below w.heap.size w w' := by
  have hnl := totW_len ps
  obtain ⟨D, hD⟩ : ∃ D, D = wayToD (fstsW ps) z := ⟨_, rfl⟩
  obtain ⟨F, hF⟩ : ∃ F, F = wayToB (fstsW ps) z := ⟨_, rfl⟩
  rw [← hD, ← hF]
  have HD := hide hD
  have HF := hide hF
  clear hD hF
  obtain ⟨a1, c1, rfl⟩ := owns_lenS hv.row
  have HV := hide hv
  clear hv
  have BX : Below w.heap.size w (w.alloc (.cells #[.int .i64 0, .int .i64 0, .slice none 0 0] 73)) := (Below.refl _ _).alloc (Nat.le_refl _) _
  have hq := heap_alloc_new w (.cells #[.int .i64 0, .int .i64 0, .slice none 0 0] 73)
  obtain ⟨w0, hw0⟩ : ∃ W, W = w.alloc (.cells #[.int .i64 0, .int .i64 0, .slice none 0 0] 73) := ⟨_, rfl⟩
  rw [← hw0] at BX hq
  have hs0 := lt_of_heap hq
  have HQ := hide hq
  clear hq
  unfold wayC
  go_enter Tryz.func41, Tryz.ntmps41
  go_wp2
  rw [← hw0]
  clear hw0
  go_loopw [10] (fun i wr => ∃ k : Nat, k ≤ ps.length ∧ i = .int .i64 k ∧ Hid (∀ q ∈ ps.take k, q.1.to ≠ z) ∧ Below w0.heap.size w0 wr) (fun i _ => ps.length - (intOf i).toNat)
  case atStart => exact ⟨0, by omega, rfl, hide (by simp), Below.refl _ _⟩
  case round =>
    obtain ⟨k, hk, rfl, HNO, hnx⟩ := hrel
    have hsz := hnx.size
    have BWR : Below w.heap.size w wr := BX.trans (hnx.mono (by omega))
    have hz1 := (hnx.block _ hs0).trans HQ.out
    by_cases hlt : k < ps.length
    · obtain ⟨p, hp⟩ : ∃ p, ps[k]? = some p := ⟨ps[k], List.getElem?_eq_getElem hlt⟩
      obtain ⟨b, off, cp, hve, hbb, c0, c1, c2, _⟩ := HV.out.at.cells k p hp
      cases hve
      have hbw : b < w.heap.size := by omega
      have hno := HV.out.nears p (List.mem_of_getElem? hp)
      obtain ⟨pa, pc, hpn⟩ := owns_lenS hno.1
      have HCP := hide (fun W (hb : Below w.heap.size w W) => ownWay_any p.1 p.2 lo W (owns_below hno.1 hb (Nat.le_refl _)) (by have := totW_mem (List.mem_of_getElem? hp); omega))
      unfold wayC at HCP
      rw [hpn] at c2 HCP
      rw [← BWR.cell (p := ⟨b, off + k * 3, none⟩) hbw] at c0
      rw [← BWR.cell (p := ⟨b, off + k * 3 + 1, none⟩) hbw] at c1
      rw [← BWR.cell (p := ⟨b, off + k * 3 + 2, none⟩) hbw] at c2
      have hki : (0 : Int) ≤ (k : Int) := by omega
      have hkj : (k : Int) < (ps.length : Int) := by omega
      by_cases hzz : p.1.to = z
      · have hh := wayTo_hit hp HNO.out hzz
        have hDe : D = p.1 := HD.out.trans hh.1
        have hFe : F = true := HF.out.trans hh.2
        subst hDe hFe
        subst hzz
        clear hp hno hpn hh
        go_wp2_with fail
        refine (HCP.out _ (BWR.alloc (by omega) _)).mono ?_
        rintro e w2 ⟨v1, rfl, hn2', b2'⟩
        obtain ⟨na, nc, rfl⟩ := owns_lenS hn2'
        have hn2 := owns_baseS (b0 := wr.heap.size) hn2' (by simp)
        have b2 : Below wr.heap.size wr w2 := ((Below.refl _ _).alloc (Nat.le_refl _) _).trans (b2'.mono (by simp))
        clear hn2' b2'
        have b2s := b2.size
        have hz2 := (b2.block _ (lt_of_heap hz1)).trans hz1
        have u0 := cells_at hz2 0
        have u1 := cells_at hz2 1
        have u2 := cells_at hz2 2
        simp at u0 u1 u2
        have fu := frozen_at hz2
        have FF := hide (finW3 p.1 (.slice na p.1.hops.length nc) hz2)
        have G8 := grownW3 w2 w.heap.size p.1 (.slice na p.1.hops.length nc)
        have O3 := hide (owns_baseS (b0 := w.heap.size) (hn2.kept G8 (by
          cases hv : (Value.slice na p.1.hops.length nc).ownBlock with
          | none => exact .inl rfl
          | some g => exact .inr (fun e => by have := (hn2.lt g hv).1; simp at e; omega))) (by omega))
        have B2 : Below w.heap.size w w2 := BWR.trans (b2.mono (by omega))
        have BF := hide (B2.grown G8 B2.size (fun k hk => by simp at hk; omega))
        clear hz2 hn2 b2 G8 hz1
        go_wp2_with fail
        (try simp only [Exit.inBlock, Exit.then])
        refine bodyPost_ret (results_cell_row_tmpW rfl _ _ w.heap.size 73 (wayC p.1 (.slice na p.1.hops.length nc)) (0, 0) _ rfl FF.out Tryz.underlying73 rfl (by kernel_rfl)) rfl ?_
        exact ⟨_, rfl, O3.out, BF.out⟩
      · have HN := hide (take_all hp HNO.out hzz)
        have hd : (p.1.to == z) = false := by simpa using hzz
        clear hp hno hpn hz1
        go_wp2
        go_roundw
        case rel => exact ⟨k + 1, by omega, by go_num, HN, hnx.alloc (by omega) _⟩
        case measure => simp [intOf]; omega
    · have hh := wayTo_none (ps := ps) (z := z) (by have h := HNO.out; rw [List.take_of_length_le (by omega)] at h; exact h)
      have hDe : D = zeroWD := HD.out.trans hh.1
      have hFe : F = false := HF.out.trans hh.2
      subst hDe hFe
      have u0 := cells_at hz1 0
      have u1 := cells_at hz1 1
      have u2 := cells_at hz1 2
      simp at u0 u1 u2
      have fu := frozen_at hz1
      have FF := hide (finW3 zeroWD (.slice none 0 0) hz1)
      have G8 := hide (grownW3 wr w.heap.size zeroWD (.slice none 0 0))
      clear hz1 hh
      go_wp2_with fail
      (try simp only [Exit.inBlock, Exit.then])
      refine bodyPost_ret (results_cell_row_tmpW rfl _ _ w.heap.size 73 (wayC zeroWD (.slice none 0 0)) (0, 0) _ rfl FF.out Tryz.underlying73 rfl (by kernel_rfl)) rfl ?_
      exact ⟨.slice none 0 0, rfl, World.ownsRow_nil _ _ _ _, BWR.grown G8.out BWR.size (fun k hk => by simp at hk; omega)⟩
end Go.Proofs.YtdaigojpeofmpaaGreat
