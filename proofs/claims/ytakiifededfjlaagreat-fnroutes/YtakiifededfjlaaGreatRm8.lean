/-
  slices.Sort and slices.Compact of a row of the call's own; what they make of it.
  spec.WayTo: its contract.
  impl.ownHops, ownWay, WayTo: their contracts.
  impl.hopsOfBoth, Together: their contracts.
  The best of several ways to one node, with the hops of all that are as short: determined by the set of the ways.
  What is within several areas: the sets of ways; lists under way.
-/
import Derived.Test.YtakiifededfjlaaGreatRm1
import Derived.Test.YtakiifededfjlaaGreatRm7
import Derived.Lib.OwnBridge
import Derived.Sort.OwnSortedInts
import Derived.Test.YtakiifededfjlaaGreatRm6
import Derived.Test.YtakiifededfjlaaGreatRm2
namespace Go.Proofs.YtakiifededfjlaaGreat
open Go.RowKit

open Go.Sort Go.Lib in
theorem Znl (base : Nat) (u : Value) (zs : List Int) (w : World) (hown : w.ownsRow base 3 1 u zs.length (Zbm zs)) (hz : zs.length <= 1000000000) :
  Calls Tryz.prog 118 #[u] w fun e w' => e = .returned (.tuple #[]) /\ w'.ownsRow base 3 1 u (zs.mergeSort fun x y => decide (x <= y)).length (Zbm (zs.mergeSort fun x y => decide (x <= y))) /\ (∀ B w0, B <= base -> Below B w0 w -> Below B w0 w') := by
 by_cases h0 : zs = []
 ·subst h0
  obtain ⟨a, cap, rfl⟩ := Ze8 hown
  refine (Tryz.slices_Sort_int_none a cap w).mono ?_
  rintro e w' ⟨rfl, rfl⟩
  exact ⟨rfl, by simpa using hown, fun _ _ _ h => h⟩
 ·have hne : 0 < zs.length := List.length_pos_iff.2 h0
  obtain ⟨g, cap, hv, hg, hlt, hnc, hcm, _, hH⟩ := holds_of_ownsRow (enc := Value.int .i64) hown (fun e => by
   obtain ⟨g, cp, e2, _⟩ := Zd1 hown hne
   rw [e2] at e; cases e)
  subst hv
  have hh := hown.2
  rcases hh with ⟨e0, _⟩ | ⟨g', cap', cur, e0, _, hc, _, _, hs, _⟩
  ·cases e0
  ·cases e0
   refine (Tryz.slices_Sort_int g 0 cap zs w hH hlt (by omega)).mono ?_
   rintro e w' ⟨rfl, n, os, rfl⟩
   have hl : (zs.mergeSort fun x y => decide (x <= y)).length = zs.length := List.length_mergeSort _
   refine ⟨rfl, ?_, fun B w0 hB h => h.grown (grownBy_sortedI _) (by omega) (fun k hk => by simp at hk; omega)⟩
   rw [hl]
   exact ownsRow_sortedI hl hg hc hnc hcm hs

open Go.Sort Go.Lib in
theorem Zjb (base : Nat) (u : Value) (zs : List Int) (w : World) (hown : w.ownsRow base 3 1 u zs.length (Zbm zs)) (hz : zs.length <= 1000000000) :
  Calls Tryz.prog 119 #[u] w fun e w' => ∃ x, e = .returned x /\ w'.ownsRow base 3 1 x (Lib.compact zs).length (Zbm (Lib.compact zs)) /\ (∀ B w0, B <= base -> Below B w0 w -> Below B w0 w') := by
 by_cases h0 : zs = []
 ·subst h0
  obtain ⟨a, cap, rfl⟩ := Ze8 hown
  refine (Tryz.slices_Compact_int_empty a cap w).mono ?_
  rintro e w' ⟨rfl, rfl⟩
  exact ⟨_, rfl, by simpa [Lib.compact, Lib.compactUpTo] using hown, fun _ _ _ h => h⟩
 ·have hne : 0 < zs.length := List.length_pos_iff.2 h0
  obtain ⟨g, cap, hv, hg, hlt, hnc, hcm, _, hH⟩ := holds_of_ownsRow (enc := Value.int .i64) hown (fun e => by
   obtain ⟨g, cp, e2, _⟩ := Zd1 hown hne
   rw [e2] at e; cases e)
  subst hv
  refine (Tryz.slices_Compact_int g 0 cap zs w hH (by omega) hnc).mono ?_
  rintro e w' ⟨rfl, q, rfl⟩
  have hle := Lib.compact_length_le zs
  have ho := ownsRow_putRow (q := q) (k := (Lib.compact zs).length) (ys := Lib.compact zs ++ List.replicate (zs.length - (Lib.compact zs).length) 0) hown (by simp; omega) hle
  rw [List.take_append_of_le_length (Nat.le_refl _), List.take_length] at ho
  exact ⟨_, rfl, ho, fun B w0 hB h => below_putRow h (by omega)⟩

theorem Zhk (d : Array Int) : ∀ (m j : Nat), j < m -> d[j]! ∈ Lib.compactUpTo d m
 | 0, j, h => by omega
 | m + 1, j, h => by
  rw [Lib.compactUpTo_succ]
  by_cases hj : j < m
  ·exact List.mem_append_left _ (Zhk d m j hj)
  ·obtain rfl : j = m := by omega
   by_cases hk : Lib.keeps d j = true
   ·rw [if_pos hk]; simp
   ·have hk2 : ¬ (j = 0 \/ d[j]! ≠ d[j - 1]!) := by simpa [Lib.keeps] using hk
    have h0 : 0 < j := by omega
    have he : d[j]! = d[j - 1]! := by
     by_cases e : d[j]! = d[j - 1]!
     ·exact e
     ·exact absurd (Or.inr e) hk2
    rw [he]
    exact List.mem_append_left _ (Zhk d j (j - 1) (by omega))

theorem Zjd {zs : List Int} {x : Int} : x ∈ Lib.compact zs ↔ x ∈ zs := by
 constructor
 ·intro h
  simp only [Lib.compact, Lib.compactUpTo, List.mem_map, List.mem_filter, List.mem_range] at h
  obtain ⟨j, ⟨hj, _⟩, rfl⟩ := h
  have : zs.toArray[j]! = zs[j] := by simp [hj]
  rw [this]
  exact List.getElem_mem hj
 ·intro h
  obtain ⟨j, hj, rfl⟩ := List.mem_iff_getElem.1 h
  have e : zs[j] = zs.toArray[j]! := by simp [hj]
  rw [e]
  exact Zhk _ _ j hj

theorem Zj8 (d : Array Int) (n : Nat) (hs : ∀ i j, i <= j -> j < n -> d[i]! <= d[j]!) : ∀ m, m <= n -> (Lib.compactUpTo d m).Pairwise (· < ·)
 | 0, _ => by simp [Lib.compactUpTo]
 | m + 1, h => by
  rw [Lib.compactUpTo_succ, List.pairwise_append]
  refine ⟨Zj8 d n hs m (by omega), by split <;> simp, fun x hx y hy => ?_⟩
  simp only [Lib.compactUpTo, List.mem_map, List.mem_filter, List.mem_range] at hx
  obtain ⟨j, ⟨hj, _⟩, rfl⟩ := hx
  split at hy
  ·rename_i hk
   have e : y = d[m]! := by simpa using hy
   subst e
   have hk2 : m = 0 \/ d[m]! ≠ d[m - 1]! := by simpa [Lib.keeps] using hk
   have h1 := hs j (m - 1) (by omega) (by omega)
   have h2 := hs (m - 1) m (by omega) (by omega)
   rcases hk2 with h3 | h3
   ·omega
   ·omega
  ·cases hy

theorem Zkp {zs : List Int} (hp : zs.Pairwise (fun a b => decide (a <= b) = true)) : ∀ i j, i <= j -> j < zs.length -> zs.toArray[i]! <= zs.toArray[j]! := by
 intro i j hij hj
 have hi : i < zs.length := by omega
 have e1 : zs.toArray[i]! = zs[i] := by simp [hi]
 have e2 : zs.toArray[j]! = zs[j] := by simp [hj]
 rw [e1, e2]
 by_cases e : i = j
 ·subst e; exact Int.le_refl _
 ·have := List.pairwise_iff_getElem.1 hp i j hi hj (by omega)
  simpa using this

def Zca (a b : List Int) : List Int := Lib.compact ((a ++ b).mergeSort fun x y => decide (x <= y))

theorem ZeF {a b : List Int} {x : Int} : x ∈ Zca a b ↔ x ∈ a \/ x ∈ b := by
 unfold Zca
 rw [Zjd, List.mem_mergeSort, List.mem_append]

theorem Zgh (a b : List Int) : (Zca a b).Pairwise (· < ·) := by
 unfold Zca Lib.compact
 refine Zj8 _ _ ?_ _ (Nat.le_refl _)
 have hp := List.pairwise_mergeSort (le := fun x y : Int => decide (x <= y)) (fun a b c h1 h2 => by simp at h1 h2 |-; omega) (fun a b => by simp; omega) (a ++ b)
 exact Zkp hp

end Go.Proofs.YtakiifededfjlaaGreat
namespace Go.Proofs.YtakiifededfjlaaGreat
open Go.RowKit
set_option linter.unusedSimpArgs false
set_option linter.unusedVariables false
set_option maxRecDepth 100000
set_option maxHeartbeats 8000000
theorem Zax {P : Program} {fn : Func} {p u : Tmp} {ty : TypeId} (h : fn.results = #[.cell p ty, .tmp u]) (tmps : Array Value) (w : World) (g : Nat) (t : TypeId) (cs : Array Value) (fr : Nat × Nat) (d : TypeDesc)
  (hp : tmps.getD p undef = .pointer (some ⟨g, 0, none⟩)) (hg : w.heap[g]? = some (.cells cs t fr))
  (hu : P.underlying ty = some d) (hd : (match d with | .struct _ | .array _ _ => true | _ => false) = true) (hi : (P.info? ty).map (·.size) = some cs.size) :
  (results fn tmps).run P w = .ok (.tuple #[.agg cs, tmps.getD u undef]) w := by
 have hp' : tmps[p]?.getD undef = .pointer (some ⟨g, 0, none⟩) := by simpa using hp
 rw [results_cell_tmp h]
 simp [hp', asAddr, run_loadVar_row w g t ty cs fr d hg hu hd hi]
def Za8 (xs : List WayD) (z : Int) : WayD := (xs.find? (fun x => x.to == z)).getD Zbc
def Za6 (xs : List WayD) (z : Int) : Bool := (xs.find? (fun x => x.to == z)).isSome
theorem ZiA {ps : List WP} {k : Nat} {p : WP} {z : Int} (h : ps[k]? = some p) (hno : ∀ q ∈ ps.take k, q.1.to ≠ z) (hz : p.1.to = z) : Za8 (Zah ps) z = p.1 /\ Za6 (Zah ps) z = true := by
 have e : (Zah ps).find? (fun x => x.to == z) = some p.1 := by
  have h1 := Zc6 h
  obtain ⟨hk, e1⟩ := List.getElem?_eq_some_iff.1 h1
  rw [List.find?_eq_some_iff_append]
  refine ⟨by simpa using hz, (Zah ps).take k, (Zah ps).drop (k + 1), ?_, ?_⟩
  ·rw [<- e1, <- List.drop_eq_getElem_cons hk, List.take_append_drop]
  ·intro x hx
   have e2 : (Zah ps).take k = Zah (ps.take k) := by simp [Zah]
   rw [e2] at hx
   simp only [Zah, List.mem_map] at hx
   obtain ⟨q, hq, rfl⟩ := hx
   simpa using hno q hq
 unfold Za8 Za6
 rw [e]
 exact ⟨rfl, rfl⟩
theorem Zha {ps : List WP} {z : Int} (hno : ∀ q ∈ ps, q.1.to ≠ z) : Za8 (Zah ps) z = Zbc /\ Za6 (Zah ps) z = false := by
 have e : (Zah ps).find? (fun x => x.to == z) = none := by
  rw [List.find?_eq_none]
  intro x hx
  simp only [Zah, List.mem_map] at hx
  obtain ⟨q, hq, rfl⟩ := hx
  simpa using hno q hq
 unfold Za8 Za6
 rw [e]
 exact ⟨rfl, rfl⟩
theorem Zkb {ps : List WP} {k : Nat} {p : WP} {z : Int} (h : ps[k]? = some p) (hno : ∀ q ∈ ps.take k, q.1.to ≠ z) (hz : p.1.to ≠ z) : ∀ q ∈ ps.take (k + 1), q.1.to ≠ z := by
 obtain ⟨hk, e⟩ := List.getElem?_eq_some_iff.1 h
 rw [List.take_succ_eq_append_getElem hk, e]
 intro q hq
 rcases List.mem_append.1 hq with h1 | h1
 ·exact hno q h1
 ·have : q = p := by simpa using h1
  subst this
  exact hz
theorem Zbz (v : Value) (ps : List WP) (lo hi : Nat) (z : Int) (w : World) (hv : WaysOwn w lo hi v ps) (hhi : hi <= w.heap.size) (hn : totW ps <= 1048576) :
  Calls Tryz.prog 15 #[v, .int .i64 z] w fun e w' => ∃ u, e = .returned (.tuple #[.agg (wayC (Za8 (Zah ps) z) u), .bool (Za6 (Zah ps) z)]) /\ w'.ownsRow w.heap.size 3 1 u (Za8 (Zah ps) z).hops.length (flat intE (Za8 (Zah ps) z).hops) /\ Below w.heap.size w w' := by
 have hnl := Zd4 ps
 obtain ⟨D, hD⟩ : ∃ D, D = Za8 (Zah ps) z := ⟨_, rfl⟩
 obtain ⟨F, hF⟩ : ∃ F, F = Za6 (Zah ps) z := ⟨_, rfl⟩
 rw [<- hD, <- hF]
 have HD := hide hD
 have HF := hide hF
 clear hD hF
 obtain ⟨a1, c1, rfl⟩ := Zac hv.row
 have HV := hide hv
 clear hv
 have BX : Below w.heap.size w (w.alloc (.cells #[.int .i64 0, .int .i64 0, .slice none 0 0] 46)) := (Below.refl _ _).alloc (Nat.le_refl _) _
 have hq := heap_alloc_new w (.cells #[.int .i64 0, .int .i64 0, .slice none 0 0] 46)
 obtain ⟨w0, hw0⟩ : ∃ W, W = w.alloc (.cells #[.int .i64 0, .int .i64 0, .slice none 0 0] 46) := ⟨_, rfl⟩
 rw [<- hw0] at BX hq
 have hs0 := Zab hq
 have HQ := hide hq
 clear hq
 unfold wayC
 go_enter Tryz.func15, Tryz.ntmps15
 go_wp2
 rw [<- hw0]
 clear hw0
 go_loopw [6] (fun i wr => ∃ k : Nat, k <= ps.length /\ i = .int .i64 k /\ Hid (∀ q ∈ ps.take k, q.1.to ≠ z) /\ Below w0.heap.size w0 wr) (fun i _ => ps.length - (intOf i).toNat)
 case atStart => exact ⟨0, by omega, rfl, hide (by simp), Below.refl _ _⟩
 case round =>
  obtain ⟨k, hk, rfl, HNO, hnx⟩ := hrel
  have hsz := hnx.size
  have BWR : Below w.heap.size w wr := BX.trans (hnx.mono (by omega))
  have hz1 := (hnx.block _ hs0).trans HQ.out
  by_cases hlt : k < ps.length
  ·obtain ⟨p, hp⟩ : ∃ p, ps[k]? = some p := ⟨ps[k], List.getElem?_eq_getElem hlt⟩
   obtain ⟨b, off, cp, hve, hbb, c0, c1, c2, _⟩ := HV.out.at.cells k p hp
   cases hve
   have hbw : b < w.heap.size := by omega
   have hno := HV.out.nears p (List.mem_of_getElem? hp)
   obtain ⟨pa, pc, hpn⟩ := Zac hno.1
   have HCP := hide (fun W (hb : Below w.heap.size w W) => ZfY p.1 p.2 lo W (Zae hno.1 hb (Nat.le_refl _)) (by have := ZjS (List.mem_of_getElem? hp); omega))
   unfold wayC at HCP
   rw [hpn] at c2 HCP
   rw [<- BWR.cell (p := ⟨b, off + k * 3, none⟩) hbw] at c0
   rw [<- BWR.cell (p := ⟨b, off + k * 3 + 1, none⟩) hbw] at c1
   rw [<- BWR.cell (p := ⟨b, off + k * 3 + 2, none⟩) hbw] at c2
   have hki : (0 : Int) <= (k : Int) := by omega
   have hkj : (k : Int) < (ps.length : Int) := by omega
   by_cases hzz : p.1.to = z
   ·have hh := ZiA hp HNO.out hzz
    have hDe : D = p.1 := HD.out.trans hh.1
    have hFe : F = true := HF.out.trans hh.2
    subst hDe hFe
    subst hzz
    clear hp hno hpn hh
    go_wp2_with fail
    refine (HCP.out _ BWR).mono ?_
    rintro e w2 ⟨v1, rfl, hn2, b2⟩
    obtain ⟨na, nc, rfl⟩ := Zac hn2
    have b2s := b2.size
    have hz2 := (b2.block _ (Zab hz1)).trans hz1
    have u0 := Zaa hz2 0
    have u1 := Zaa hz2 1
    have u2 := Zaa hz2 2
    simp at u0 u1 u2
    have fu := Zaf hz2
    have FF := hide (Zc7 p.1 (.slice na p.1.hops.length nc) hz2)
    have G8 := ZaX w2 w.heap.size p.1 (.slice na p.1.hops.length nc)
    have O3 := hide (Zag (b0 := w.heap.size) (hn2.kept G8 (by
     cases hv : (Value.slice na p.1.hops.length nc).ownBlock with
     | none => exact .inl rfl
     | some g => exact .inr (fun e => by have := (hn2.lt g hv).1; simp at e; omega))) (by omega))
    have B2 : Below w.heap.size w w2 := BWR.trans (b2.mono (by omega))
    have BF := hide (B2.grown G8 B2.size (fun k hk => by simp at hk; omega))
    clear hz2 hn2 b2 G8 hz1
    go_wp2_with fail
    (try simp only [Exit.inBlock, Exit.then])
    refine bodyPost_ret (Zax rfl _ _ w.heap.size 46 (wayC p.1 (.slice na p.1.hops.length nc)) (0, 0) _ rfl FF.out Tryz.underlying46 rfl (by kernel_rfl)) rfl ?_
    exact ⟨_, rfl, O3.out, BF.out⟩
   ·have HN := hide (Zkb hp HNO.out hzz)
    have hd : (p.1.to == z) = false := by simpa using hzz
    clear hp hno hpn hz1
    go_wp2
    go_roundw
    case rel => exact ⟨k + 1, by omega, by go_num, HN, hnx⟩
    case measure => simp [intOf]; omega
  ·have hh := Zha (ps := ps) (z := z) (by have h := HNO.out; rw [List.take_of_length_le (by omega)] at h; exact h)
   have hDe : D = Zbc := HD.out.trans hh.1
   have hFe : F = false := HF.out.trans hh.2
   subst hDe hFe
   have u0 := Zaa hz1 0
   have u1 := Zaa hz1 1
   have u2 := Zaa hz1 2
   simp at u0 u1 u2
   have fu := Zaf hz1
   have FF := hide (Zc7 Zbc (.slice none 0 0) hz1)
   have G8 := hide (ZaX wr w.heap.size Zbc (.slice none 0 0))
   clear hz1 hh
   go_wp2_with fail
   (try simp only [Exit.inBlock, Exit.then])
   refine bodyPost_ret (Zax rfl _ _ w.heap.size 46 (wayC Zbc (.slice none 0 0)) (0, 0) _ rfl FF.out Tryz.underlying46 rfl (by kernel_rfl)) rfl ?_
   exact ⟨.slice none 0 0, rfl, World.ownsRow_nil _ _ _ _, BWR.grown G8.out BWR.size (fun k hk => by simp at hk; omega)⟩
theorem ZcQ (l : List Int) (v : Value) (base : Nat) (w : World) (ho : w.ownsRow base 3 1 v l.length (flat intE l)) (hn : l.length <= 1048576) :
  Calls Tryz.prog 44 #[v] w fun e w' => ∃ v', e = .returned v' /\ w'.ownsRow w.heap.size 3 1 v' l.length (flat intE l) /\ Below w.heap.size w w' := by
 obtain ⟨va, vc, rfl⟩ := Zac ho
 have OW := hide ho
 clear ho
 go_enter Tryz.func44, Tryz.ntmps44
 go_wp2_with (first
  | (at_builtin; refine Zcc Zdj (by omega) Zch (by omega) _ rfl _ _ 34 rfl w.heap.size 3 Tryz.underlying34 (.int .i64 0) rfl Tryz.info3 _ [] rfl (World.ownsRow_nil _ _ _ _) base _ l rfl OW.out (by simp; omega) (by simp) ?_))
 intro v' w4 hown' hgrow
 obtain ⟨na, nc, rfl⟩ := Zac hown'
 simp only [Value.ownBlock] at hgrow
 have hb4 := hide (show Below w.heap.size w w4 from (Below.refl w.heap.size w).grown hgrow (Nat.le_refl _) (fun k hk => by simp at hk))
 have H1 := hide hown'
 clear hown' hgrow
 go_wp2
 go_ret
 exact ⟨_, rfl, by simpa using H1.out, hb4.out⟩
theorem Zfm (x : WayD) (v : Value) (base : Nat) (w : World) (ho : w.ownsRow base 3 1 v x.hops.length (flat intE x.hops)) (hn : x.hops.length <= 1048576) :
  Calls Tryz.prog 81 #[.agg (wayC x v)] w fun e w' => ∃ v', e = .returned (.agg (wayC x v')) /\ w'.ownsRow w.heap.size 3 1 v' x.hops.length (flat intE x.hops) /\ Below w.heap.size w w' := by
 obtain ⟨va, vc, rfl⟩ := Zac ho
 have HC := hide (fun W (hb : Below w.heap.size w W) => ZcQ x.hops (.slice va x.hops.length vc) base W (Zae ho hb (Nat.le_refl _)) hn)
 clear ho
 go_enter Tryz.func81, Tryz.ntmps81
 unfold wayC
 go_wp2_with fail
 have hb0 : Below w.heap.size w ((w.alloc (.cells #[.int .i64 x.to, .int .i64 x.cost, .slice va x.hops.length vc] 46)).alloc (.cells #[.int .i64 0, .int .i64 0, .slice none 0 0] 46)) := ((Below.refl w.heap.size w).alloc (by simp) _).alloc (by simp) _
 have q0 : ((w.alloc (.cells #[.int .i64 x.to, .int .i64 x.cost, .slice va x.hops.length vc] 46)).alloc (.cells #[.int .i64 0, .int .i64 0, .slice none 0 0] 46)).heap[w.heap.size]? = some (.cells #[.int .i64 x.to, .int .i64 x.cost, .slice va x.hops.length vc] 46) := by
  rw [Below.heap_alloc _ _ _ (by simp), heap_alloc_new]
 have q1 : ((w.alloc (.cells #[.int .i64 x.to, .int .i64 x.cost, .slice va x.hops.length vc] 46)).alloc (.cells #[.int .i64 0, .int .i64 0, .slice none 0 0] 46)).heap[w.heap.size + 1]? = some (.cells #[.int .i64 0, .int .i64 0, .slice none 0 0] 46) := by
  have e := heap_alloc_new (w.alloc (.cells #[.int .i64 x.to, .int .i64 x.cost, .slice va x.hops.length vc] 46)) (.cells #[.int .i64 0, .int .i64 0, .slice none 0 0] 46)
  rw [show (w.alloc (.cells #[.int .i64 x.to, .int .i64 x.cost, .slice va x.hops.length vc] 46)).heap.size = w.heap.size + 1 by simp] at e
  exact e
 generalize ((w.alloc (.cells #[.int .i64 x.to, .int .i64 x.cost, .slice va x.hops.length vc] 46)).alloc (.cells #[.int .i64 0, .int .i64 0, .slice none 0 0] 46)) = w3 at *
 refine (HC.out _ hb0).mono ?_
 rintro e w4 ⟨v', rfl, hown', hb4'⟩
 obtain ⟨na, nc, rfl⟩ := Zac hown'
 have hs1 := Zab q1
 have hb4 : Below w.heap.size w w4 := hb0.trans (hb4'.mono (by omega))
 have q0 := (hb4'.block _ (by omega)).trans q0
 have q1 := (hb4'.block _ hs1).trans q1
 have r2 := Zaa q0 2
 have f0 := Zaf q0
 simp at r2
 have q2 := heap_setCell_same w4 w.heap.size 2 _ _ (.slice na x.hops.length nc) q0
 simp only [List.setIfInBounds_toArray, List.set_cons_zero, List.set_cons_succ] at q2
 have q3 : (w4.setCell ⟨w.heap.size, 2, none⟩ (.slice na x.hops.length nc)).heap[w.heap.size + 1]? = some (.cells #[.int .i64 0, .int .i64 0, .slice none 0 0] 46) := by
  rw [heap_setCell_other w4 ⟨w.heap.size, 2, none⟩ _ _ (by show w.heap.size + 1 ≠ w.heap.size; omega)]; exact q1
 have y0 := Zaa q2 0
 have y1 := Zaa q2 1
 have y2 := Zaa q2 2
 simp at y0 y1 y2
 have u0 := Zaa q3 0
 have u1 := Zaa q3 1
 have u2 := Zaa q3 2
 simp at u0 u1 u2
 have fu := Zaf q3
 have F := Zc7 x (.slice na x.hops.length nc) q3
 have hown2 := ZaB (j := 2) (u := .slice na x.hops.length nc) hown' (show w.heap.size < w3.heap.size by omega)
 have G8 := ZaX (w4.setCell ⟨w.heap.size, 2, none⟩ (.slice na x.hops.length nc)) (w.heap.size + 1) x (.slice na x.hops.length nc)
 have hown3 := Zag (b0 := w.heap.size) (hown2.kept G8 (by
  cases hv : (Value.slice na x.hops.length nc).ownBlock with
  | none => exact .inl rfl
  | some g => exact .inr (fun e => by have := (hown2.lt g hv).1; simp at e; omega))) (by omega)
 have hb5 : Below w.heap.size w (Za0 (w4.setCell ⟨w.heap.size, 2, none⟩ (.slice na x.hops.length nc)) (w.heap.size + 1) x (.slice na x.hops.length nc)) := (hb4.setCell (p := ⟨w.heap.size, 2, none⟩) (Nat.le_refl _) _).grown G8 (by have := Zab q3; omega) (fun k hk => by simp at hk; omega)
 have FF := hide F
 have H3 := hide hown3
 have H5 := hide hb5
 clear F hown3 hb5 hown2 G8 hb4 hown' hb4' q0 q1 q2 q3 hb0 HC
 go_wp2_with fail
 (try simp only [Exit.inBlock, Exit.then])
 refine bodyPost_ret (results_cell_row rfl _ _ (w.heap.size + 1) 46 (wayC _ _) (0, 0) _ rfl FF.out Tryz.underlying46 rfl (by kernel_rfl)) rfl ?_
 exact ⟨_, rfl, H3.out, H5.out⟩
theorem Zfk (v : Value) (ps : List WP) (lo hi : Nat) (z : Int) (w : World) (hv : WaysOwn w lo hi v ps) (hhi : hi <= w.heap.size) (hn : totW ps <= 1048576) :
  Calls Tryz.prog 38 #[v, .int .i64 z] w fun e w' => ∃ u, e = .returned (.tuple #[.agg (wayC (Za8 (Zah ps) z) u), .bool (Za6 (Zah ps) z)]) /\ w'.ownsRow w.heap.size 3 1 u (Za8 (Zah ps) z).hops.length (flat intE (Za8 (Zah ps) z).hops) /\ Below w.heap.size w w' := by
 have hnl := Zd4 ps
 obtain ⟨D, hD⟩ : ∃ D, D = Za8 (Zah ps) z := ⟨_, rfl⟩
 obtain ⟨F, hF⟩ : ∃ F, F = Za6 (Zah ps) z := ⟨_, rfl⟩
 rw [<- hD, <- hF]
 have HD := hide hD
 have HF := hide hF
 clear hD hF
 obtain ⟨a1, c1, rfl⟩ := Zac hv.row
 have HV := hide hv
 clear hv
 have BX : Below w.heap.size w (w.alloc (.cells #[.int .i64 0, .int .i64 0, .slice none 0 0] 46)) := (Below.refl _ _).alloc (Nat.le_refl _) _
 have hq := heap_alloc_new w (.cells #[.int .i64 0, .int .i64 0, .slice none 0 0] 46)
 obtain ⟨w0, hw0⟩ : ∃ W, W = w.alloc (.cells #[.int .i64 0, .int .i64 0, .slice none 0 0] 46) := ⟨_, rfl⟩
 rw [<- hw0] at BX hq
 have hs0 := Zab hq
 have HQ := hide hq
 clear hq
 unfold wayC
 go_enter Tryz.func38, Tryz.ntmps38
 go_wp2
 rw [<- hw0]
 clear hw0
 go_loopw [10] (fun i wr => ∃ k : Nat, k <= ps.length /\ i = .int .i64 k /\ Hid (∀ q ∈ ps.take k, q.1.to ≠ z) /\ Below w0.heap.size w0 wr) (fun i _ => ps.length - (intOf i).toNat)
 case atStart => exact ⟨0, by omega, rfl, hide (by simp), Below.refl _ _⟩
 case round =>
  obtain ⟨k, hk, rfl, HNO, hnx⟩ := hrel
  have hsz := hnx.size
  have BWR : Below w.heap.size w wr := BX.trans (hnx.mono (by omega))
  have hz1 := (hnx.block _ hs0).trans HQ.out
  by_cases hlt : k < ps.length
  ·obtain ⟨p, hp⟩ : ∃ p, ps[k]? = some p := ⟨ps[k], List.getElem?_eq_getElem hlt⟩
   obtain ⟨b, off, cp, hve, hbb, c0, c1, c2, _⟩ := HV.out.at.cells k p hp
   cases hve
   have hbw : b < w.heap.size := by omega
   have hno := HV.out.nears p (List.mem_of_getElem? hp)
   obtain ⟨pa, pc, hpn⟩ := Zac hno.1
   have HCP := hide (fun W (hb : Below w.heap.size w W) => Zfm p.1 p.2 lo W (Zae hno.1 hb (Nat.le_refl _)) (by have := ZjS (List.mem_of_getElem? hp); omega))
   unfold wayC at HCP
   rw [hpn] at c2 HCP
   rw [<- BWR.cell (p := ⟨b, off + k * 3, none⟩) hbw] at c0
   rw [<- BWR.cell (p := ⟨b, off + k * 3 + 1, none⟩) hbw] at c1
   rw [<- BWR.cell (p := ⟨b, off + k * 3 + 2, none⟩) hbw] at c2
   have hki : (0 : Int) <= (k : Int) := by omega
   have hkj : (k : Int) < (ps.length : Int) := by omega
   by_cases hzz : p.1.to = z
   ·have hh := ZiA hp HNO.out hzz
    have hDe : D = p.1 := HD.out.trans hh.1
    have hFe : F = true := HF.out.trans hh.2
    subst hDe hFe
    subst hzz
    clear hp hno hpn hh
    go_wp2_with fail
    refine (HCP.out _ (BWR.alloc (by omega) _)).mono ?_
    rintro e w2 ⟨v1, rfl, hn2', b2'⟩
    obtain ⟨na, nc, rfl⟩ := Zac hn2'
    have hn2 := Zag (b0 := wr.heap.size) hn2' (by simp)
    have b2 : Below wr.heap.size wr w2 := ((Below.refl _ _).alloc (Nat.le_refl _) _).trans (b2'.mono (by simp))
    clear hn2' b2'
    have b2s := b2.size
    have hz2 := (b2.block _ (Zab hz1)).trans hz1
    have u0 := Zaa hz2 0
    have u1 := Zaa hz2 1
    have u2 := Zaa hz2 2
    simp at u0 u1 u2
    have fu := Zaf hz2
    have FF := hide (Zc7 p.1 (.slice na p.1.hops.length nc) hz2)
    have G8 := ZaX w2 w.heap.size p.1 (.slice na p.1.hops.length nc)
    have O3 := hide (Zag (b0 := w.heap.size) (hn2.kept G8 (by
     cases hv : (Value.slice na p.1.hops.length nc).ownBlock with
     | none => exact .inl rfl
     | some g => exact .inr (fun e => by have := (hn2.lt g hv).1; simp at e; omega))) (by omega))
    have B2 : Below w.heap.size w w2 := BWR.trans (b2.mono (by omega))
    have BF := hide (B2.grown G8 B2.size (fun k hk => by simp at hk; omega))
    clear hz2 hn2 b2 G8 hz1
    go_wp2_with fail
    (try simp only [Exit.inBlock, Exit.then])
    refine bodyPost_ret (Zax rfl _ _ w.heap.size 46 (wayC p.1 (.slice na p.1.hops.length nc)) (0, 0) _ rfl FF.out Tryz.underlying46 rfl (by kernel_rfl)) rfl ?_
    exact ⟨_, rfl, O3.out, BF.out⟩
   ·have HN := hide (Zkb hp HNO.out hzz)
    have hd : (p.1.to == z) = false := by simpa using hzz
    clear hp hno hpn hz1
    go_wp2
    go_roundw
    case rel => exact ⟨k + 1, by omega, by go_num, HN, hnx.alloc (by omega) _⟩
    case measure => simp [intOf]; omega
  ·have hh := Zha (ps := ps) (z := z) (by have h := HNO.out; rw [List.take_of_length_le (by omega)] at h; exact h)
   have hDe : D = Zbc := HD.out.trans hh.1
   have hFe : F = false := HF.out.trans hh.2
   subst hDe hFe
   have u0 := Zaa hz1 0
   have u1 := Zaa hz1 1
   have u2 := Zaa hz1 2
   simp at u0 u1 u2
   have fu := Zaf hz1
   have FF := hide (Zc7 Zbc (.slice none 0 0) hz1)
   have G8 := hide (ZaX wr w.heap.size Zbc (.slice none 0 0))
   clear hz1 hh
   go_wp2_with fail
   (try simp only [Exit.inBlock, Exit.then])
   refine bodyPost_ret (Zax rfl _ _ w.heap.size 46 (wayC Zbc (.slice none 0 0)) (0, 0) _ rfl FF.out Tryz.underlying46 rfl (by kernel_rfl)) rfl ?_
   exact ⟨.slice none 0 0, rfl, World.ownsRow_nil _ _ _ _, BWR.grown G8.out BWR.size (fun k hk => by simp at hk; omega)⟩
theorem Zhc (la lb : List Int) (va vb : Value) (ba bb : Nat) (w : World) (ha : w.ownsRow ba 3 1 va la.length (flat intE la)) (hb : w.ownsRow bb 3 1 vb lb.length (flat intE lb)) (hla : la.length <= 1048576) (hlb : lb.length <= 1048576) :
  Calls Tryz.prog 95 #[va, vb] w fun e w' => ∃ x, e = .returned x /\ w'.ownsRow w.heap.size 3 1 x (Zca la lb).length (flat intE (Zca la lb)) /\ Below w.heap.size w w' := by
 have H1 := hide (ZcQ la va ba w ha hla)
 have HB := hide hb
 obtain ⟨pa, qa, rfl⟩ := Zac ha
 obtain ⟨pb, qb, rfl⟩ := Zac hb
 clear ha hb
 go_enter Tryz.func95, Tryz.ntmps95
 go_wp2_with fail
 refine H1.out.mono ?_
 rintro e w1 ⟨v1, rfl, o1, b1⟩
 obtain ⟨p1, q1, rfl⟩ := Zac o1
 have OB := hide (Zae HB.out b1 (Nat.le_refl _))
 have O1 := hide o1
 have hs1 := b1.size
 clear o1 H1 HB
 go_wp2_with (first
  | (at_builtin; refine Zcc Zdj (by omega) Zch (by omega) _ rfl _ _ 34 rfl w.heap.size 3 Tryz.underlying34 (.int .i64 0) rfl Tryz.info3 (.slice p1 la.length q1) la rfl O1.out bb (.slice pb lb.length qb) lb rfl OB.out (by omega) hs1 ?_))
 intro v2 w2 o2 hg2
 have B2 : Below w.heap.size w w2 := b1.grown hg2 hs1 (fun k hk => (O1.out.lt k hk).1)
 have hLL : (la ++ lb).length <= 2097152 := by simp; omega
 have o2' : w2.ownsRow w.heap.size 3 1 v2 (la ++ lb).length (Zbm (la ++ lb)) := by rw [<- Zb0]; simpa using o2
 obtain ⟨L, hL⟩ : ∃ L, L = la ++ lb := ⟨_, rfl⟩
 rw [<- hL] at o2' hLL
 have HL := hide hL
 clear hL o2
 obtain ⟨p2, q2, rfl⟩ := Zac o2'
 have HSO := hide (Znl w.heap.size (.slice p2 L.length q2) L w2 o2' (by omega))
 clear o2' hg2
 go_wp2_with fail
 refine HSO.out.mono ?_
 rintro e w3 ⟨rfl, o3, k3⟩
 have B3 := k3 w.heap.size w (Nat.le_refl _) B2
 have HCO := hide (Zjb w.heap.size _ _ w3 o3 (by rw [List.length_mergeSort]; omega))
 clear o3 k3 HSO
 go_wp2_with fail
 refine HCO.out.mono ?_
 rintro e w4 ⟨x, rfl, o4, k4⟩
 have B4 := hide (k4 w.heap.size w (Nat.le_refl _) B3)
 have O4 := hide o4
 obtain ⟨p4, q4, rfl⟩ := Zac o4
 clear o4 k4 HCO
 go_wp2
 go_ret
 exact ⟨_, rfl, by rw [Zb0]; unfold Zca; rw [<- HL.out]; exact O4.out, B4.out⟩
def togI (x y : WayD) : WayD := if Zbb x y then x else if Zbb y x then y else ⟨x.to, x.cost, Zca x.hops y.hops⟩
theorem Zkq {B : Nat} {w W : World} (h : Below B w W) : Below B w W.drew := h.trans ⟨rfl, rfl, rfl, Nat.le_refl _, fun _ _ => rfl⟩
theorem Zj1 (x y : WayD) (vx vy : Value) (bx bY : Nat) (w : World) (hx : w.ownsRow bx 3 1 vx x.hops.length (flat intE x.hops)) (hy : w.ownsRow bY 3 1 vy y.hops.length (flat intE y.hops)) (hlx : x.hops.length <= 1048576) (hly : y.hops.length <= 1048576) :
  Calls Tryz.prog 77 #[.agg (wayC x vx), .agg (wayC y vy)] w fun e w' => ∃ u, e = .returned (.agg (wayC (togI x y) u)) /\ w'.ownsRow w.heap.size 3 1 u (togI x y).hops.length (flat intE (togI x y).hops) /\ Below w.heap.size w w' := by
 obtain ⟨D, hD⟩ : ∃ D, D = togI x y := ⟨_, rfl⟩
 rw [<- hD]
 have HD := hide hD
 clear hD
 obtain ⟨p1, q1, rfl⟩ := Zac hx
 obtain ⟨p2, q2, rfl⟩ := Zac hy
 have HW1 := hide (fun W (hb : Below w.heap.size w W) => Zfm x (.slice p1 x.hops.length q1) bx W (Zae hx hb (Nat.le_refl _)) hlx)
 have HW2 := hide (fun W (hb : Below w.heap.size w W) => Zfm y (.slice p2 y.hops.length q2) bY W (Zae hy hb (Nat.le_refl _)) hly)
 have HHB := hide (fun W (hb : Below w.heap.size w W) => Zhc x.hops y.hops (.slice p1 x.hops.length q1) (.slice p2 y.hops.length q2) bx bY W (Zae hx hb (Nat.le_refl _)) (Zae hy hb (Nat.le_refl _)) hlx hly)
 have HB1 := hide (fun W => Zb9 (.slice p1 x.hops.length q1) (.slice p2 y.hops.length q2) x y W)
 have HB2 := hide (fun W => Zb9 (.slice p2 y.hops.length q2) (.slice p1 x.hops.length q1) y x W)
 clear hx hy
 have m0 := Zmq w (.cells #[.int .i64 x.to, .int .i64 x.cost, .slice p1 x.hops.length q1] 46) (.cells #[.int .i64 y.to, .int .i64 y.cost, .slice p2 y.hops.length q2] 46) (.cells #[.int .i64 0, .int .i64 0, .slice none 0 0] 46)
 have m1 := ZlU w (.cells #[.int .i64 x.to, .int .i64 x.cost, .slice p1 x.hops.length q1] 46) (.cells #[.int .i64 y.to, .int .i64 y.cost, .slice p2 y.hops.length q2] 46) (.cells #[.int .i64 0, .int .i64 0, .slice none 0 0] 46)
 have m2 := Zl0 w (.cells #[.int .i64 x.to, .int .i64 x.cost, .slice p1 x.hops.length q1] 46) (.cells #[.int .i64 y.to, .int .i64 y.cost, .slice p2 y.hops.length q2] 46) (.cells #[.int .i64 0, .int .i64 0, .slice none 0 0] 46)
 have BQ := Zgl (w := w) (.cells #[.int .i64 x.to, .int .i64 x.cost, .slice p1 x.hops.length q1] 46) (.cells #[.int .i64 y.to, .int .i64 y.cost, .slice p2 y.hops.length q2] 46) (.cells #[.int .i64 0, .int .i64 0, .slice none 0 0] 46)
 obtain ⟨w1, hw1⟩ : ∃ W, W = (((w.alloc (.cells #[.int .i64 x.to, .int .i64 x.cost, .slice p1 x.hops.length q1] 46)).alloc (.cells #[.int .i64 y.to, .int .i64 y.cost, .slice p2 y.hops.length q2] 46)).alloc (.cells #[.int .i64 0, .int .i64 0, .slice none 0 0] 46)) := ⟨_, rfl⟩
 rw [<- hw1] at m0 m1 m2 BQ
 have s0 := 0
 have s1 := 0
 have s2 := 0
 have t0 := 0
 have t1 := 0
 have t2 := 0
 obtain ⟨F1, hF1⟩ : ∃ b, b = Zbb x y := ⟨_, rfl⟩
 obtain ⟨F2, hF2⟩ : ∃ b, b = Zbb y x := ⟨_, rfl⟩
 rw [<- hF1] at HB1
 rw [<- hF2] at HB2
 have HF1 := hide hF1
 have HF2 := hide hF2
 clear hF1 hF2
 unfold wayC at HB1 HB2 HW1 HW2 |-
 go_enter Tryz.func77, Tryz.ntmps77
 go_wp2_with fail
 rw [<- hw1]
 clear hw1
 refine (HB1.out _).mono ?_
 rintro e w2 ⟨rfl, b1⟩
 have m0 := (b1.block _ (Zab m0)).trans m0
 have m1 := (b1.block _ (Zab m1)).trans m1
 have m2 := (b1.block _ (Zab m2)).trans m2
 have BQ := BQ.trans (b1.mono BQ.size)
 clear s0 s1 s2 t0 t1 t2 b1
 have s0 := Zaa m0 0
 have s1 := Zaa m0 1
 have s2 := Zaa m0 2
 have t0 := Zaa m1 0
 have t1 := Zaa m1 1
 have t2 := Zaa m1 2
 simp at s0 s1 s2 t0 t1 t2
 cases F1
 ·go_wp2_with fail
  refine (HB2.out _).mono ?_
  rintro e w3 ⟨rfl, b1⟩
  have m0 := (b1.block _ (Zab m0)).trans m0
  have m1 := (b1.block _ (Zab m1)).trans m1
  have m2 := (b1.block _ (Zab m2)).trans m2
  have BQ := BQ.trans (b1.mono BQ.size)
  clear s0 s1 s2 t0 t1 t2 b1
  have s0 := Zaa m0 0
  have s1 := Zaa m0 1
  have s2 := Zaa m0 2
  have t0 := Zaa m1 0
  have t1 := Zaa m1 1
  have t2 := Zaa m1 2
  simp at s0 s1 s2 t0 t1 t2
  cases F2
  ·have hDe : D = ⟨x.to, x.cost, Zca x.hops y.hops⟩ := by rw [HD.out]; unfold togI; rw [<- HF1.out, <- HF2.out]; rfl
   subst hDe
   clear HW1 HW2 HB1 HB2 HD
   go_wp2
   refine wp_region_noPanic ?_
   have hS0 : w3.drew.cell? ⟨w.heap.size, 0, none⟩ = some (.int .i64 x.to) /\ w3.drew.cell? ⟨w.heap.size, 1, none⟩ = some (.int .i64 x.cost) /\ w3.drew.cell? ⟨w.heap.size, 2, none⟩ = some (.slice p1 x.hops.length q1) /\ w3.drew.cell? ⟨w.heap.size + 1, 2, none⟩ = some (.slice p2 y.hops.length q2) := ⟨s0, s1, s2, t2⟩
   refine Zai (S := fun W => W.cell? ⟨w.heap.size, 0, none⟩ = some (.int .i64 x.to) /\ W.cell? ⟨w.heap.size, 1, none⟩ = some (.int .i64 x.cost) /\ W.cell? ⟨w.heap.size, 2, none⟩ = some (.slice p1 x.hops.length q1) /\ W.cell? ⟨w.heap.size + 1, 2, none⟩ = some (.slice p2 y.hops.length q2)) (by kernel_rfl) 11 rfl hS0 ?_
   intro ops hops _
   show wpAnyH Tryz.prog .any ops _ _ 11 #[false, false, false, false, false, false, false, false, false, false, false] _ w3.drew
   iterate 8
    refine Zas 11 ?_ ?_ ?_ (by rw [hops.out]; kernel_rfl) ?_ ?_ (by assumption) ?_
    rotate_left 2
    ·rw [hops.out]; simp only [getS, Nat.reduceSub, Nat.reduceAdd]; rfl
    ·intro W hW; obtain ⟨k1, k2, k3, k4⟩ := hW; go_simp <;> with_reducible rfl
    ·exact fun _ _ _ => id
    try simp only [putS]
   refine Zak 8 (oi := ?_) ?_ (by rw [hops.out]; kernel_rfl) ?_ ?_
   rotate_left 1
   ·rw [hops.out]; simp only [getS]; rfl
   ·rw [hops.out]; kernel_rfl
   intro K hK
   go_simp
   refine (HHB.out _ (Zkq BQ)).mono ?_
   rintro e w4 ⟨u, rfl, hn2, b2⟩
   obtain ⟨na, nc, rfl⟩ := Zac hn2
   have hK2 : w4.cell? ⟨w.heap.size, 0, none⟩ = some (.int .i64 x.to) /\ w4.cell? ⟨w.heap.size, 1, none⟩ = some (.int .i64 x.cost) /\ w4.cell? ⟨w.heap.size, 2, none⟩ = some (.slice p1 x.hops.length q1) /\ w4.cell? ⟨w.heap.size + 1, 2, none⟩ = some (.slice p2 y.hops.length q2) := by
    refine ⟨?_, ?_, ?_, ?_⟩ <;> (rw [b2.cell (by first | exact Zab m0 | exact Zab m1)]; assumption)
   refine hK.out _ _ hK2 (fun _ => ?_)
   clear hK K
   try simp only [putS]
   refine ZaZ 9 ?_ ?_ ?_ (by rw [hops.out]; kernel_rfl) ?_ ?_ (by assumption) ?_
   rotate_left 2
   ·rw [hops.out]; simp only [getS]; rfl
   ·intro W hW; obtain ⟨k1, k2, k3, k4⟩ := hW; go_simp <;> with_reducible rfl
   ·exact fun _ _ _ => id
   try simp only [putS]
   have hz2 := (b2.block _ (Zab m2)).trans m2
   have hz0 := (b2.block _ (Zab m0)).trans m0
   have hz1 := (b2.block _ (Zab m1)).trans m1
   have u0 := Zaa hz2 0
   have u1 := Zaa hz2 1
   have u2 := Zaa hz2 2
   simp at u0 u1 u2
   have fu := Zaf hz2
   have FF := hide (Zc7 ⟨x.to, x.cost, Zca x.hops y.hops⟩ (.slice na (Zca x.hops y.hops).length nc) hz2)
   have G8 := ZaX w4 (w.heap.size + 1 + 1) ⟨x.to, x.cost, Zca x.hops y.hops⟩ (.slice na (Zca x.hops y.hops).length nc)
   have hsz := Zab m2
   have O3 := hide (Zag (b0 := w.heap.size) (hn2.kept G8 (by
    cases hv : (Value.slice na (Zca x.hops y.hops).length nc).ownBlock with
    | none => exact .inl rfl
    | some g => exact .inr (fun e => by
      have h9 := (hn2.lt g hv).1
      have h8 : w3.heap.size <= g := h9
      simp at e
      omega))) (by show w.heap.size <= w3.heap.size; omega))
   have B2 : Below w.heap.size w w4 := (Zkq BQ).trans (b2.mono BQ.size)
   have BF := hide (B2.grown G8 B2.size (fun k hk => by simp at hk; omega))
   have hS5 : ∀ W : World, W.heap[w.heap.size]? = w4.heap[w.heap.size]? -> W.heap[w.heap.size + 1]? = w4.heap[w.heap.size + 1]? -> W.cell? ⟨w.heap.size, 0, none⟩ = some (.int .i64 x.to) /\ W.cell? ⟨w.heap.size, 1, none⟩ = some (.int .i64 x.cost) /\ W.cell? ⟨w.heap.size, 2, none⟩ = some (.slice p1 x.hops.length q1) /\ W.cell? ⟨w.heap.size + 1, 2, none⟩ = some (.slice p2 y.hops.length q2) := by
    intro W e1 e2
    refine ⟨?_, ?_, ?_, ?_⟩
    ·rw [World.cell?_of_block (w := w4) e1]; exact hK2.1
    ·rw [World.cell?_of_block (w := w4) e1]; exact hK2.2.1
    ·rw [World.cell?_of_block (w := w4) e1]; exact hK2.2.2.1
    ·rw [World.cell?_of_block (w := w4) e2]; exact hK2.2.2.2
   have hS6 := hS5 (Za0 w4 (w.heap.size + 1 + 1) ⟨x.to, x.cost, Zca x.hops y.hops⟩ (.slice na (Zca x.hops y.hops).length nc)) (G8.block _ (Zab hz0) (by simp; omega)) (G8.block _ (Zab hz1) (by simp))
   clear hS5 hz2 hn2 b2 G8 hz0 hz1
   refine Zak 10 (oi := ?_) ?_ (by rw [hops.out]; kernel_rfl) ?_ ?_
   rotate_left 1
   ·rw [hops.out]; simp only [getS]; rfl
   ·rw [hops.out]; kernel_rfl
   intro K hK
   go_simp
   refine hK.out _ _ hS6 (fun _ => ?_)
   clear hK K
   try simp only [putS]
   refine wpAnyH_done (by rw [hops.out]; kernel_rfl) ?_ _
   clear hops ops
   refine NoPanic.normal ?_
   go_wp2_with fail
   (try simp only [Exit.inBlock, Exit.then])
   refine bodyPost_ret (results_cell_row rfl _ _ (w.heap.size + 1 + 1) 46 (wayC ⟨x.to, x.cost, Zca x.hops y.hops⟩ (.slice na (Zca x.hops y.hops).length nc)) (0, 0) _ rfl FF.out Tryz.underlying46 rfl (by kernel_rfl)) rfl ?_
   exact ⟨_, rfl, O3.out, BF.out⟩
  ·have hDe : D = y := by rw [HD.out]; unfold togI; rw [<- HF1.out, <- HF2.out]; rfl
   subst hDe
   clear HW1 HHB HB1 HB2 HD
   go_wp2_with fail
   refine (HW2.out _ BQ).mono ?_
   rintro e w4 ⟨v1, rfl, hn2, b2⟩
   obtain ⟨na, nc, rfl⟩ := Zac hn2
   have hz2 := (b2.block _ (Zab m2)).trans m2
   have u0 := Zaa hz2 0
   have u1 := Zaa hz2 1
   have u2 := Zaa hz2 2
   simp at u0 u1 u2
   have fu := Zaf hz2
   have FF := hide (Zc7 D (.slice na D.hops.length nc) hz2)
   have G8 := ZaX w4 (w.heap.size + 1 + 1) D (.slice na D.hops.length nc)
   have hsz := Zab m2
   have O3 := hide (Zag (b0 := w.heap.size) (hn2.kept G8 (by
    cases hv : (Value.slice na D.hops.length nc).ownBlock with
    | none => exact .inl rfl
    | some g => exact .inr (fun e => by have := (hn2.lt g hv).1; simp at e; omega))) (by omega))
   have B2 : Below w.heap.size w w4 := BQ.trans (b2.mono BQ.size)
   have BF := hide (B2.grown G8 B2.size (fun k hk => by simp at hk; omega))
   clear hz2 hn2 b2 G8 m2 m0 m1
   go_wp2_with fail
   (try simp only [Exit.inBlock, Exit.then])
   refine bodyPost_ret (results_cell_row rfl _ _ (w.heap.size + 1 + 1) 46 (wayC D (.slice na D.hops.length nc)) (0, 0) _ rfl FF.out Tryz.underlying46 rfl (by kernel_rfl)) rfl ?_
   exact ⟨_, rfl, O3.out, BF.out⟩
 ·have hDe : D = x := by rw [HD.out]; unfold togI; rw [<- HF1.out]; rfl
  subst hDe
  clear HW2 HHB HB1 HB2 HD
  go_wp2_with fail
  refine (HW1.out _ BQ).mono ?_
  rintro e w4 ⟨v1, rfl, hn2, b2⟩
  obtain ⟨na, nc, rfl⟩ := Zac hn2
  have hz2 := (b2.block _ (Zab m2)).trans m2
  have u0 := Zaa hz2 0
  have u1 := Zaa hz2 1
  have u2 := Zaa hz2 2
  simp at u0 u1 u2
  have fu := Zaf hz2
  have FF := hide (Zc7 D (.slice na D.hops.length nc) hz2)
  have G8 := ZaX w4 (w.heap.size + 1 + 1) D (.slice na D.hops.length nc)
  have hsz := Zab m2
  have O3 := hide (Zag (b0 := w.heap.size) (hn2.kept G8 (by
   cases hv : (Value.slice na D.hops.length nc).ownBlock with
   | none => exact .inl rfl
   | some g => exact .inr (fun e => by have := (hn2.lt g hv).1; simp at e; omega))) (by omega))
  have B2 : Below w.heap.size w w4 := BQ.trans (b2.mono BQ.size)
  have BF := hide (B2.grown G8 B2.size (fun k hk => by simp at hk; omega))
  clear hz2 hn2 b2 G8 m2 m0 m1
  go_wp2_with fail
  (try simp only [Exit.inBlock, Exit.then])
  refine bodyPost_ret (results_cell_row rfl _ _ (w.heap.size + 1 + 1) 46 (wayC D (.slice na D.hops.length nc)) (0, 0) _ rfl FF.out Tryz.underlying46 rfl (by kernel_rfl)) rfl ?_
  exact ⟨_, rfl, O3.out, BF.out⟩
def Hop6 (l : List Int) : Prop := ∀ z ∈ l, 1 <= z /\ z <= 6
structure GoodW (x : WayD) : Prop where
 node : 1 <= x.to /\ x.to <= 6
 cost : 0 <= x.cost /\ x.cost <= 60000
 asc : x.hops.Pairwise (· < ·)
 hop6 : Hop6 x.hops
theorem Zfy : ∀ {l : List Int} {a : Int}, l.Pairwise (· < ·) -> (∀ z ∈ l, a <= z /\ z <= 6) -> (l.length : Int) <= 7 - a \/ l = []
 | [], _, _, _ => .inr rfl
 | x :: xs, a, h, hr => by
  have h' := List.pairwise_cons.1 h
  have hx := hr x (by simp)
  rcases Zfy (a := x + 1) h'.2 (fun z hz => ⟨by have := h'.1 z hz; omega, (hr z (by simp [hz])).2⟩) with h1 | h1
  ·left; simp; omega
  ·left; subst h1; simp; omega
theorem Zc4 {l : List Int} (h : l.Pairwise (· < ·)) (h6 : Hop6 l) : l.length <= 6 := by
 rcases Zfy (a := 1) h h6 with h1 | h1
 ·omega
 ·subst h1; simp
theorem GoodW.len {x : WayD} (h : GoodW x) : x.hops.length <= 6 := Zc4 h.asc h.hop6
def AscW (ds : List WayD) : Prop := ds.Pairwise (fun x y => x.to < y.to)
theorem Zkj : ∀ {a b : List WayD}, AscW a -> AscW b -> (∀ x, x ∈ a ↔ x ∈ b) -> a = b
 | [], [], _, _, _ => rfl
 | [], y :: ys, _, _, h => by have := (h y).2 (by simp); cases this
 | x :: xs, [], _, _, h => by have := (h x).1 (by simp); cases this
 | x :: xs, y :: ys, ha, hb, h => by
  have ha' := List.pairwise_cons.1 ha
  have hb' := List.pairwise_cons.1 hb
  have hxy : x = y := by
   have h1 := (h x).1 (by simp)
   have h2 := (h y).2 (by simp)
   rcases List.mem_cons.1 h1 with e | e
   ·exact e
   ·rcases List.mem_cons.1 h2 with e2 | e2
    ·exact e2.symm
    ·have := ha'.1 y e2; have := hb'.1 x e; omega
  subst hxy
  have : xs = ys := by
   refine Zkj ha'.2 hb'.2 (fun z => ?_)
   have hz := h z
   constructor
   ·intro hm
    have h1 := hz.1 (List.mem_cons_of_mem _ hm)
    rcases List.mem_cons.1 h1 with e | e
    ·have := ha'.1 z hm; subst e; omega
    ·exact e
   ·intro hm
    have h1 := hz.2 (List.mem_cons_of_mem _ hm)
    rcases List.mem_cons.1 h1 with e | e
    ·have := hb'.1 z hm; subst e; omega
    ·exact e
  rw [this]
theorem ZaL {ds : List WayD} {to : Int} {w : WayD} (h : ZaI ds to = some w) : w ∈ ds /\ w.to = to := by
 unfold ZaI at h
 exact ⟨List.mem_of_find?_eq_some h, by have := List.find?_some h; simpa using this⟩
theorem Zcf {ds : List WayD} {to : Int} (h : ZaI ds to = none) : ∀ w ∈ ds, w.to ≠ to := by
 unfold ZaI at h
 rw [List.find?_eq_none] at h
 intro w hw
 simpa using h w hw
theorem Zig {ds : List WayD} (h : AscW ds) {x y : WayD} (hx : x ∈ ds) (hy : y ∈ ds) (e : x.to = y.to) : x = y := by
 induction ds with
 | nil => cases hx
 | cons a ds ih =>
  have h' := List.pairwise_cons.1 h
  rcases List.mem_cons.1 hx with e1 | e1
  ·rcases List.mem_cons.1 hy with e2 | e2
   ·rw [e1, e2]
   ·have := h'.1 y e2; subst e1; omega
  ·rcases List.mem_cons.1 hy with e2 | e2
   ·have := h'.1 x e1; subst e2; omega
   ·exact ih h'.2 e1 e2
theorem Zbx {ds : List WayD} (h : AscW ds) {w : WayD} (hw : w ∈ ds) : ZaI ds w.to = some w := by
 cases e : ZaI ds w.to with
 | none => exact absurd rfl (Zcf e w hw)
 | some x =>
  have h1 := ZaL e
  rw [Zig h h1.1 hw h1.2]
theorem Zly {a b : List WayD} (ha : AscW a) (hb : AscW b) (h : ∀ to, ZaI a to = ZaI b to) : a = b := by
 refine Zkj ha hb (fun x => ⟨fun hx => ?_, fun hx => ?_⟩)
 ·have := Zbx ha hx
  rw [h] at this
  exact (ZaL this).1
 ·have := Zbx hb hx
  rw [<- h] at this
  exact (ZaL this).1
def ZaD (to : Int) (S : WayD -> Prop) : Option WayD -> Prop
 | none => ∀ w, ¬ S w
 | some b => b.to = to /\ (∃ w, S w /\ w.cost = b.cost) /\ (∀ w, S w -> b.cost <= w.cost) /\ b.hops.Pairwise (· < ·) /\ ∀ x, x ∈ b.hops ↔ ∃ w, S w /\ w.cost = b.cost /\ x ∈ w.hops
theorem ZaD.unique {to : Int} {S : WayD -> Prop} {o o' : Option WayD} (h : ZaD to S o) (h' : ZaD to S o') : o = o' := by
 cases o with
 | none =>
  cases o' with
  | none => rfl
  | some b =>
   obtain ⟨_, ⟨w, hw, _⟩, _⟩ := h'
   exact absurd hw (h w)
 | some a =>
  cases o' with
  | none =>
   obtain ⟨_, ⟨w, hw, _⟩, _⟩ := h
   exact absurd hw (h' w)
  | some b =>
   obtain ⟨h1, ⟨w, hw, e1⟩, h3, h4, h5⟩ := h
   obtain ⟨k1, ⟨v, hv, e2⟩, k3, k4, k5⟩ := h'
   have hc : a.cost = b.cost := by
    have := h3 v hv
    have := k3 w hw
    omega
   have hh : a.hops = b.hops := Zh1 h4 k4 (fun x => by rw [h5, k5, hc])
   cases a; cases b
   simp at *
   exact ⟨by rw [h1, k1], hc, hh⟩
theorem ZaD.congr {to : Int} {S T : WayD -> Prop} {o : Option WayD} (h : ZaD to S o) (e : ∀ w, S w ↔ T w) : ZaD to T o := by
 have : S = T := funext fun w => propext (e w)
 rw [<- this]
 exact h
def Zja (tog : WayD -> WayD -> WayD) : Prop := ∀ x y : WayD, Hop6 x.hops -> Hop6 y.hops -> (x.cost < y.cost -> tog x y = x) /\ (y.cost < x.cost -> tog x y = y) /\
 (x.cost = y.cost -> (tog x y).to = x.to /\ (tog x y).cost = x.cost /\ (tog x y).hops.Pairwise (· < ·) /\ ∀ z, z ∈ (tog x y).hops ↔ z ∈ x.hops \/ z ∈ y.hops)
theorem Ze9 : Zja togD := by
 intro x y hx hy
 unfold togD Zbb
 refine ⟨fun h => by simp [h], fun h => ?_, fun h => ?_⟩
 ·rw [if_neg (by simp; omega), if_pos (by simpa using h)]
 ·rw [if_neg (by simp; omega), if_neg (by simp; omega)]
  refine ⟨rfl, rfl, ZfE _ _, fun z => ?_⟩
  show z ∈ addL x.hops y.hops ↔ _
  rw [ZfI]
  constructor
  ·exact fun h => h.2.2
  ·rintro (h1 | h1)
   ·exact ⟨(hx z h1).1, (hx z h1).2, .inl h1⟩
   ·exact ⟨(hy z h1).1, (hy z h1).2, .inr h1⟩
theorem ZhF : Zja togI := by
 intro x y hx hy
 unfold togI Zbb
 refine ⟨fun h => by simp [h], fun h => ?_, fun h => ?_⟩
 ·rw [if_neg (by simp; omega), if_pos (by simpa using h)]
 ·rw [if_neg (by simp; omega), if_neg (by simp; omega)]
  exact ⟨rfl, rfl, Zgh _ _, fun z => ZeF⟩
theorem ZaD.hop6 {to : Int} {S : WayD -> Prop} {b : WayD} (h : ZaD to S (some b)) (hS : ∀ w, S w -> Hop6 w.hops) : Hop6 b.hops := by
 intro z hz
 obtain ⟨w, hw, _, hm⟩ := (h.2.2.2.2 z).1 hz
 exact hS w hw z hm
theorem ZaD.add {tog : WayD -> WayD -> WayD} (ht : Zja tog) {to : Int} {S : WayD -> Prop} {o : Option WayD} {w : WayD} (h : ZaD to S o) (hS : ∀ w, S w -> Hop6 w.hops) (hto : w.to = to) (hasc : w.hops.Pairwise (· < ·)) (h6 : Hop6 w.hops) : ZaD to (fun x => S x \/ x = w) (Zd9 tog o (some w)) := by
 cases o with
 | none =>
  refine ⟨hto, ⟨w, .inr rfl, rfl⟩, fun x hx => ?_, hasc, fun x => ⟨fun hx => ⟨w, .inr rfl, rfl, hx⟩, ?_⟩⟩
  ·rcases hx with h1 | rfl
   ·exact absurd h1 (h x)
   ·exact Int.le_refl _
  ·rintro ⟨v, h1 | rfl, _, hm⟩
   ·exact absurd h1 (h v)
   ·exact hm
 | some b =>
  have hb6 := h.hop6 hS
  obtain ⟨h1, ⟨u, hu, e1⟩, h3, h4, h5⟩ := h
  obtain ⟨t1, t2, t3⟩ := ht b w hb6 h6
  show ZaD to _ (some (tog b w))
  rcases Int.lt_trichotomy b.cost w.cost with hl | hl | hl
  ·rw [t1 hl]
   refine ⟨h1, ⟨u, .inl hu, e1⟩, fun x hx => ?_, h4, fun x => ?_⟩
   ·rcases hx with hx | rfl
    ·exact h3 x hx
    ·omega
   ·rw [h5]
    constructor
    ·rintro ⟨v, hv, e, hm⟩
     exact ⟨v, .inl hv, e, hm⟩
    ·rintro ⟨v, hv | rfl, e, hm⟩
     ·exact ⟨v, hv, e, hm⟩
     ·omega
  ·obtain ⟨s1, s2, s3, s4⟩ := t3 hl
   refine ⟨by rw [s1, h1], ⟨w, .inr rfl, by rw [s2, hl]⟩, fun x hx => ?_, s3, fun x => ?_⟩
   ·rw [s2]
    rcases hx with hx | rfl
    ·exact h3 x hx
    ·omega
   ·rw [s4, h5, s2]
    constructor
    ·rintro (⟨v, hv, e, hm⟩ | hm)
     ·exact ⟨v, .inl hv, e, hm⟩
     ·exact ⟨w, .inr rfl, hl.symm, hm⟩
    ·rintro ⟨v, hv | rfl, e, hm⟩
     ·exact .inl ⟨v, hv, e, hm⟩
     ·exact .inr hm
  ·rw [t2 hl]
   refine ⟨hto, ⟨w, .inr rfl, rfl⟩, fun x hx => ?_, hasc, fun x => ⟨fun hx => ⟨w, .inr rfl, rfl, hx⟩, ?_⟩⟩
   ·rcases hx with hx | rfl
    ·have := h3 x hx; omega
    ·exact Int.le_refl _
   ·rintro ⟨v, hv | rfl, e, hm⟩
    ·have := h3 v hv; omega
    ·exact hm
theorem ZaD.good {to : Int} {S : WayD -> Prop} {b : WayD} (h : ZaD to S (some b)) (hS : ∀ w, S w -> GoodW w /\ w.to = to) : GoodW b := by
 have h6 := h.hop6 (fun w hw => (hS w hw).1.hop6)
 obtain ⟨h1, ⟨u, hu, e1⟩, h3, h4, h5⟩ := h
 have hg := hS u hu
 exact ⟨by rw [h1, <- hg.2]; exact hg.1.node, by rw [<- e1]; exact hg.1.cost, h4, h6⟩
def Zav (S : Int -> WayD -> Prop) (ds : List WayD) : Prop := AscW ds /\ ∀ to, ZaD to (S to) (ZaI ds to)
theorem Zav.unique {S : Int -> WayD -> Prop} {a b : List WayD} (ha : Zav S a) (hb : Zav S b) : a = b :=
 Zly ha.1 hb.1 (fun to => (ha.2 to).unique (hb.2 to))
theorem Zav.congr {S T : Int -> WayD -> Prop} {a : List WayD} (ha : Zav S a) (e : ∀ to w, S to w ↔ T to w) : Zav T a :=
 ⟨ha.1, fun to => (ha.2 to).congr (e to)⟩
theorem Zav.good {S : Int -> WayD -> Prop} {ds : List WayD} (h : Zav S ds) (hS : ∀ to w, S to w -> GoodW w /\ w.to = to) : ∀ w ∈ ds, GoodW w := by
 intro w hw
 have h1 := h.2 w.to
 rw [Zbx h.1 hw] at h1
 exact h1.good (hS w.to)
theorem Zc8 {ds : List WayD} (h : AscW ds) (hg : ∀ w ∈ ds, 1 <= w.to /\ w.to <= 6) : ds.length <= 6 := by
 have h1 : (ds.map (·.to)).Pairwise (· < ·) := by rw [List.pairwise_map]; exact h
 have := Zc4 h1 (fun z hz => by
  obtain ⟨w, hw, rfl⟩ := List.mem_map.1 hz
  exact hg w hw)
 simpa using this
theorem Zav.put {tog : WayD -> WayD -> WayD} (ht : Zja tog) {S : Int -> WayD -> Prop} {ds es : List WayD} {w : WayD} (h : Zav S ds) (hS : ∀ to w, S to w -> GoodW w /\ w.to = to) (hw : GoodW w) (he : AscW es) (hf : ∀ to, ZaI es to = if to = w.to then Zd9 tog (ZaI ds to) (some w) else ZaI ds to) : Zav (fun to x => S to x \/ (x = w /\ w.to = to)) es := by
 refine ⟨he, fun to => ?_⟩
 rw [hf]
 by_cases e : to = w.to
 ·rw [if_pos e]
  refine ((h.2 to).add ht (fun v hv => (hS to v hv).1.hop6) e.symm hw.asc hw.hop6).congr (fun x => ?_)
  constructor
  ·rintro (h1 | h1)
   ·exact .inl h1
   ·exact .inr ⟨h1, e.symm⟩
  ·rintro (h1 | h1)
   ·exact .inl h1
   ·exact .inr h1.1
 ·rw [if_neg e]
  refine (h.2 to).congr (fun x => ⟨.inl, ?_⟩)
  rintro (h1 | h1)
  ·exact h1
  ·exact absurd h1.2.symm e
theorem ZhO {c : Nat -> Int} {h : Nat -> List Int} {w : WayD} : ∀ k : Nat, w ∈ ZcK c h k ↔ ∃ v : Nat, 1 <= v /\ v <= k /\ 0 <= c v /\ w = ⟨(v : Int), c v, h v⟩
 | 0 => by simp [ZcK]; omega
 | k + 1 => by
  have ih := ZhO (c := c) (h := h) (w := w) k
  rw [ZeD c h (by omega)]
  simp only [Nat.add_sub_cancel, List.mem_append]
  rw [ih]
  constructor
  ·rintro (⟨v, h1, h2, h3⟩ | h4)
   ·exact ⟨v, h1, by omega, h3⟩
   ·split at h4
    ·rename_i h0
     exact ⟨k + 1, by omega, by omega, h0, by simpa using h4⟩
    ·simp at h4
  ·rintro ⟨v, h1, h2, h3, h4⟩
   by_cases e : v = k + 1
   ·subst e
    right
    rw [if_pos h3, h4]
    simp
   ·exact .inl ⟨v, h1, by omega, h3, h4⟩
theorem ZjP (c : Nat -> Int) (h : Nat -> List Int) : ∀ k : Nat, AscW (ZcK c h k)
 | 0 => by simp [ZcK, AscW]
 | k + 1 => by
  have ih := ZjP c h k
  rw [ZeD c h (by omega)]
  simp only [Nat.add_sub_cancel]
  unfold AscW
  rw [List.pairwise_append]
  refine ⟨ih, by split <;> simp, fun a ha b hb => ?_⟩
  obtain ⟨v, h1, h2, _, rfl⟩ := (ZhO k).1 ha
  split at hb
  ·have hb' : b = ⟨((k + 1 : Nat) : Int), c (k + 1), h (k + 1)⟩ := by simpa using hb
   subst hb'
   show (v : Int) < ((k + 1 : Nat) : Int)
   omega
  ·simp at hb
theorem Zmg {F G : Nat -> Bool} (h : ∀ u, F u = true -> G u = true) : Zb3 F <= Zb3 G := by
 have h1 : ∀ u, (F u).toNat <= (G u).toNat := fun u => by
  cases e : F u
  ·simp
  ·rw [h u e]; exact Nat.le_refl _
 unfold Zb3
 have := h1 1; have := h1 2; have := h1 3; have := h1 4; have := h1 5; have := h1 6
 omega
theorem Fix.bound {L : Nat -> Nat -> Int} {src : Nat} {c : Nat -> Int} {h : Nat -> List Int} (A : Fix L src c h) (hL : Links L 1000) : ∀ (n v : Nat), 0 <= c v -> (c v).toNat <= n -> c v <= 1000 * (Zb3 (fun x => decide (0 <= c x /\ c x < c v)) : Int) := by
 obtain ⟨F, I, hF⟩ := A
 intro n
 induction n with
 | zero =>
  intro v h0 hn
  have : c v = 0 := by omega
  omega
 | succ n ih =>
  intro v h0 hn
  by_cases hv : v = src
  ·subst hv; rw [I.start]; omega
  ·obtain ⟨u, hu, hl, hc⟩ := I.pred v hv h0
   have h1 := (I.fnode u hu).2
   have h2 := ih u h1 (by omega)
   have hle := hL.le u v
   have hcard : Zb3 (fun x => decide (0 <= c x /\ c x < c u)) + 1 <= Zb3 (fun x => decide (0 <= c x /\ c x < c v)) := by
    rw [<- ZdU (F := fun x => decide (0 <= c x /\ c x < c u)) (u := u) (I.fnode u hu).1 (by simp)]
    refine Zmg (fun x hx => ?_)
    simp only [Bool.or_eq_true, decide_eq_true_eq, beq_iff_eq] at hx |-
    rcases hx with hx | rfl
    ·omega
    ·omega
   omega
theorem Fix.bound6 {L : Nat -> Nat -> Int} {src : Nat} {c : Nat -> Int} {h : Nat -> List Int} (A : Fix L src c h) (hL : Links L 1000) (v : Nat) (h0 : 0 <= c v) : c v <= 6000 := by
 have h1 := A.bound hL _ v h0 (Nat.le_refl _)
 have h2 := ZhH (fun x => decide (0 <= c x /\ c x < c v))
 omega
theorem Zbs.asc {xs : List RecD} {area src : Int} {ds : List WayD} (h : Zbs xs area src ds) : AscW ds /\ ∀ w ∈ ds, GoodW w /\ w.cost <= 6000 := by
 unfold Zbs at h
 split at h
 ·rename_i e
  have hst : ZaE xs = true := by
   simp only [Bool.and_eq_true] at e
   exact e.1.1
  obtain ⟨c, g, A, rfl⟩ := h
  refine ⟨ZjP c g 6, fun w hw => ?_⟩
  obtain ⟨v, h1, h2, h3, rfl⟩ := (ZhO 6).1 hw
  have hb := A.bound6 (Zeo hst) v h3
  obtain ⟨F, I, _⟩ := A
  exact ⟨⟨⟨by show 1 <= (v : Int); omega, by show (v : Int) <= 6; omega⟩, ⟨h3, by show c v <= 60000; omega⟩, I.asc v, fun z hz => I.rng v z hz⟩, hb⟩
 ·subst h
  exact ⟨by simp [AscW], by simp⟩
theorem Zby (xs : List RecD) (area src : Int) : AscW (ZbR xs area src) /\ ∀ w ∈ ZbR xs area src, GoodW w /\ w.cost <= 6000 := by
 by_cases h : ∃ ds, Zbs xs area src ds
 ·obtain ⟨ds, hd⟩ := h
  rw [<- hd.eq]
  exact hd.asc
 ·unfold ZbR
  rw [dif_neg h]
  exact ⟨by simp [AscW], by simp⟩
theorem ZfF {ps : List WP} (hl : ps.length <= 6) (hg : ∀ w ∈ Zah ps, w.hops.length <= 6) : totW ps <= 42 := by
 have : ∀ qs : List WP, (∀ w ∈ Zah qs, w.hops.length <= 6) -> totW qs <= 7 * qs.length := by
  intro qs
  induction qs with
  | nil => intro _; simp [totW]
  | cons q qs ih =>
   intro h
   rw [Zgq, List.length_cons]
   have h1 := h q.1 (by simp [Zah])
   have h2 := ih (fun w hw => h w (by simp only [Zah, List.map_cons, List.mem_cons] at hw |-; exact .inr hw))
   omega
 have := this ps hg
 omega
def Zar (xs : List RecD) (al : List Int) (src : Int) (to : Int) (w : WayD) : Prop := w.to = to /\ ∃ a ∈ al, w ∈ ZbR xs a src
theorem ZaH {xs : List RecD} {al : List Int} {src to : Int} {w : WayD} (h : Zar xs al src to w) : GoodW w /\ w.to = to := by
 obtain ⟨h1, a, _, h2⟩ := h
 exact ⟨((Zby xs a src).2 w h2).1, h1⟩
theorem ZcE {xs : List RecD} {a src : Int} {w : WayD} (h : w ∈ ZbR xs a src) : ZaE xs = true /\ 0 <= a /\ a < 3 := by
 by_cases he : ∃ ds, Zbs xs a src ds
 ·obtain ⟨ds, hd⟩ := he
  rw [<- hd.eq] at h
  unfold Zbs at hd
  split at hd
  ·rename_i e
   simp only [Bool.and_eq_true] at e
   obtain ⟨⟨e1, _⟩, e3⟩ := e
   refine ⟨e1, ?_⟩
   unfold ZhT Zi3 at e3
   rcases Zgo xs (ZfC a src) with hz | ⟨j, y, hz, hy, hs⟩
   ·rw [hz] at e3; simp at e3
   ·have hm : y ∈ xs := List.mem_of_getElem? hy
    unfold ZaE at e1
    simp only [Bool.and_eq_true] at e1
    have hok := Zdn e1.1.2 hm
    simp only [Zba, ZfC, Bool.and_eq_true, beq_iff_eq] at hs
    obtain ⟨⟨⟨s1, s2⟩, _⟩, _⟩ := hs
    unfold Za3 at hok
    rw [if_pos s2] at hok
    simp only [Bool.and_eq_true, inB, decide_eq_true_eq] at hok
    omega
  ·rw [hd] at h; cases h
 ·unfold ZbR at h
  rw [dif_neg he] at h
  cases h
theorem ZhI {xs : List RecD} {al bs : List Int} {src : Int} (h : ∀ a, 0 <= a -> a < 3 -> (a ∈ al ↔ a ∈ bs)) (to : Int) (w : WayD) : Zar xs al src to w ↔ Zar xs bs src to w := by
 constructor
 ·rintro ⟨h1, a, h2, h3⟩
  have := (ZcE h3).2
  exact ⟨h1, a, (h a this.1 this.2).1 h2, h3⟩
 ·rintro ⟨h1, a, h2, h3⟩
  have := (ZcE h3).2
  exact ⟨h1, a, (h a this.1 this.2).2 h2, h3⟩
theorem ZdN {xs : List RecD} {al : List Int} {src a : Int} {k : Nat} (h : al[k]? = some a) (to : Int) (w : WayD) : Zar xs (al.take (k + 1)) src to w ↔ Zar xs (al.take k) src to w \/ (w.to = to /\ w ∈ ZbR xs a src) := by
 obtain ⟨hk, e⟩ := List.getElem?_eq_some_iff.1 h
 unfold Zar
 rw [List.take_succ_eq_append_getElem hk, e]
 constructor
 ·rintro ⟨h1, b, h2, h3⟩
  rcases List.mem_append.1 h2 with h4 | h4
  ·exact .inl ⟨h1, b, h4, h3⟩
  ·have : b = a := by simpa using h4
   subst this
   exact .inr ⟨h1, h3⟩
 ·rintro (⟨h1, b, h2, h3⟩ | ⟨h1, h3⟩)
  ·exact ⟨h1, b, List.mem_append.2 (.inl h2), h3⟩
  ·exact ⟨h1, a, List.mem_append.2 (.inr (by simp)), h3⟩
theorem Zdt {ds : List WayD} {j : Nat} {r : WayD} (h : ds[j]? = some r) (w : WayD) : w ∈ ds.take (j + 1) ↔ w ∈ ds.take j \/ w = r := by
 obtain ⟨hk, e⟩ := List.getElem?_eq_some_iff.1 h
 rw [List.take_succ_eq_append_getElem hk, e]
 simp
theorem ZbQ {S : Int -> WayD -> Prop} (h : ∀ to w, ¬ S to w) : Zav S [] := ⟨by simp [AscW], fun to => h to⟩
theorem Zav.push {S : Int -> WayD -> Prop} {ds : List WayD} {t : Int} {b : WayD} (h : Zav (fun to w => to < t /\ S to w) ds) (hb : ZaD t (S t) (some b)) : Zav (fun to w => to < t + 1 /\ S to w) (ds ++ [b]) := by
 have hlt : ∀ w ∈ ds, w.to < t := by
  intro w hw
  have h1 := h.2 w.to
  rw [Zbx h.1 hw] at h1
  obtain ⟨_, ⟨u, hu, _⟩, _⟩ := h1
  exact hu.1
 have hbt : b.to = t := hb.1
 have hasc : AscW (ds ++ [b]) := by
  unfold AscW
  rw [List.pairwise_append]
  refine ⟨h.1, by simp, fun x hx y hy => ?_⟩
  have : y = b := by simpa using hy
  subst this
  rw [hbt]
  exact hlt x hx
 refine ⟨hasc, fun to => ?_⟩
 by_cases e : to = t
 ·subst e
  have hf : ZaI (ds ++ [b]) b.to = some b := Zbx hasc (by simp)
  rw [hbt] at hf
  rw [hf]
  refine hb.congr (fun w => ⟨fun hw => ⟨by omega, hw⟩, fun hw => hw.2⟩)
 ·have hf : ZaI (ds ++ [b]) to = ZaI ds to := by
   unfold ZaI
   rw [List.find?_append]
   cases e2 : ds.find? (fun x => x.to == to) with
   | some w => rfl
   | none =>
    simp only [Option.none_or, List.find?_cons, List.find?_nil]
    have : (b.to == to) = false := by rw [hbt]; simpa using fun h => e h.symm
    rw [this]
  rw [hf]
  refine (h.2 to).congr (fun w => ⟨fun hw => ⟨by omega, hw.2⟩, fun hw => ⟨by have := hw.1; omega, hw.2⟩⟩)
theorem Zav.skip {S : Int -> WayD -> Prop} {ds : List WayD} {t : Int} (h : Zav (fun to w => to < t /\ S to w) ds) (hb : ZaD t (S t) none) : Zav (fun to w => to < t + 1 /\ S to w) ds := by
 refine h.congr (fun to w => ⟨fun hw => ⟨by omega, hw.2⟩, fun hw => ⟨?_, hw.2⟩⟩)
 have h1 := hw.1
 by_cases e : to = t
 ·subst e; exact absurd hw.2 (hb w)
 ·omega
theorem ZbI (ds : List WayD) (to : Int) : (Za6 ds to = true /\ ZaI ds to = some (Za8 ds to)) \/ (Za6 ds to = false /\ ZaI ds to = none) := by
 unfold Za6 Za8 ZaI
 cases e : ds.find? (fun x => x.to == to) with
 | none => exact .inr ⟨rfl, rfl⟩
 | some w => exact .inl ⟨rfl, rfl⟩
theorem Zjc {tog : WayD -> WayD -> WayD} (ht : Zja tog) {xs : List RecD} {al : List Int} {src a t : Int} {k : Nat} {o : Option WayD} (h : al[k]? = some a) (hb : ZaD t (Zar xs (al.take k) src t) o) :
  ZaD t (Zar xs (al.take (k + 1)) src t) (Zd9 tog o (ZaI (ZbR xs a src) t)) := by
 have hw := Zby xs a src
 cases e : ZaI (ZbR xs a src) t with
 | none =>
  refine ZaD.congr hb (fun w => ?_)
  rw [ZdN h]
  constructor
  ·exact .inl
  ·rintro (h1 | ⟨h1, h2⟩)
   ·exact h1
   ·exact absurd h1 (Zcf e w h2)
 | some r =>
  have hr := ZaL e
  have hg := (hw.2 r hr.1).1
  refine (hb.add ht (fun w hw => (ZaH hw).1.hop6) hr.2 hg.asc hg.hop6).congr (fun w => ?_)
  rw [ZdN h]
  constructor
  ·rintro (h1 | h1)
   ·exact .inl h1
   ·subst h1; exact .inr ⟨hr.2, hr.1⟩
  ·rintro (h1 | ⟨h1, h2⟩)
   ·exact .inl h1
   ·exact .inr (Zig hw.1 h2 hr.1 (by rw [h1, hr.2]))
def Off (x : Value) (lo hi : Nat) : Prop := ∀ b, x.ownBlock = some b -> b < lo \/ hi <= b
theorem Off.kept {x : Value} {lo hi : Nat} (h : Off x lo hi) {W W' : World} (hg : W.grownBy W' x.ownBlock) : ∀ k, lo <= k -> k < hi -> k < W.heap.size -> W'.heap[k]? = W.heap[k]? :=
 fun k h1 h2 h3 => hg.block k h3 (fun e => by have := h k e.symm; omega)
theorem Off.next {x x' : Value} {lo hi B : Nat} (h : Off x lo hi) (hn : ∀ b, x'.ownBlock = some b -> x.ownBlock = some b \/ B <= b) (hB : hi <= B) : Off x' lo hi := fun b hb => by
 rcases hn b hb with h1 | h1
 ·exact h b h1
 ·omega
end Go.Proofs.YtakiifededfjlaaGreat
