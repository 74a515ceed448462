/-
  spec.Merge: its contract.
  slices.BinarySearchFunc at lists of records: its contract.
  A record put into a list in order: the plain mathematics.
  spec.l08With: its contract.
  The search for shortest ways, as values: what holds while nodes are gone on from one by one, the cheapest first; that its end tells costs and hops which are determined by the links alone.
  spec.Find, impl.Find: their contracts.
  spec.l06Node, l06Tells: their contracts.
  laws.eqIntS, markIntS, heldIntS, toIntS, szIntS: their contracts (IntRow2 without nets).
  Ways as values; laws.szWay, toWay, eqWay.
  laws.markIntS, markWay, heldWay: only the row's own memory turns; what was marked is held.
  spec.l06Copy: a way with a row of its own.
  spec.l03In, l06Add: their contracts.
-/
import Derived.Test.YtdaigojpeofmpaaGreatQb5
import Derived.Test.YtdaigojpeofmpaaGreatQb6
import Derived.Test.YtdaigojpeofmpaaGreatQb2
import Derived.Test.YtdaigojpeofmpaaGreatQb1
import Derived.Deep.QuietTactic
import Derived.BigQuiet
import Derived.WalkSmall
import Derived.Handy
namespace Go.Proofs.YtdaigojpeofmpaaGreat
open Go.RowKit

set_option linter.unusedSimpArgs false

theorem tot_filt (f : RP → Bool) (ps : List RP) : tot (ps.filter f) ≤ tot ps := by
  induction ps with
  | nil => simp [tot]
  | cons p ps ih =>
    rw [List.filter_cons]
    split
    · rw [tot_cons, tot_cons]; omega
    · rw [tot_cons]; omega

/-- of each record one of the three holds at most -/
theorem tot_two (f g : RP → Bool) (hfg : ∀ p, f p = true → g p = false) (ps : List RP) : tot (ps.filter f) + tot (ps.filter g) ≤ tot ps := by
  induction ps with
  | nil => simp [tot]
  | cons p ps ih =>
    have := hfg p
    by_cases hf : f p = true
    · have hg := this hf
      simp only [List.filter_cons, hf, hg, if_true, Bool.false_eq_true, if_false, tot_cons]
      omega
    · have hf' : f p = false := by simpa using hf
      by_cases hg : g p = true
      · simp only [List.filter_cons, hf', hg, if_true, Bool.false_eq_true, if_false, tot_cons]
        omega
      · have hg' : g p = false := by simpa using hg
        simp only [List.filter_cons, hf', hg', Bool.false_eq_true, if_false, tot_cons]
        omega

theorem before_asym {x y : RecD} (h : beforeB x y = true) : beforeB y x = false := by
  unfold beforeB at *
  simp only [Bool.or_eq_true, Bool.and_eq_true, decide_eq_true_eq, beq_iff_eq] at h
  simp only [Bool.or_eq_false_iff, Bool.and_eq_false_iff, decide_eq_false_iff_not, beq_eq_false_iff_ne]
  omega

theorem tot_put (ps : List RP) (r : RP) : tot (putL ps r) ≤ tot ps + (1 + r.1.near.length) := by
  unfold putL
  rw [tot_append, tot_append]
  have h := tot_two (fun p => beforeB p.1 r.1) (fun p => beforeB r.1 p.1) (fun p hp => before_asym hp) ps
  have e : tot [r] = 1 + r.1.near.length := by simp [tot]
  omega

end Go.Proofs.YtdaigojpeofmpaaGreat
namespace Go.Proofs.YtdaigojpeofmpaaGreat
open Go.RowKit

set_option linter.unusedSimpArgs false

end Go.Proofs.YtdaigojpeofmpaaGreat
namespace Go.Proofs.YtdaigojpeofmpaaGreat
open Go.RowKit

theorem bef_trans {x y z : RecD} (h1 : beforeB x y = true) (h2 : beforeB y z = true) : beforeB x z = true := by
  unfold beforeB at *
  simp only [Bool.or_eq_true, Bool.and_eq_true, decide_eq_true_eq, beq_iff_eq] at *
  omega

theorem bef_irrefl_same {x y : RecD} (h1 : sameKeyB x y = true) : beforeB x y = false ∧ beforeB y x = false := by
  unfold beforeB sameKeyB at *
  simp only [Bool.or_eq_false_iff, Bool.and_eq_false_iff, decide_eq_false_iff_not, beq_eq_false_iff_ne, Bool.and_eq_true, beq_iff_eq] at *
  omega

/-- in order -/
def Asc (xs : List RecD) : Prop := xs.Pairwise (fun x y => beforeB x y = true)

theorem asc_back {xs : List RecD} (h : Asc xs) : ascB ordR xs = true := by
  unfold Asc at h
  rw [List.pairwise_iff_getElem] at h
  refine all_true fun j hj => ?_
  cases j with
  | zero => rfl
  | succ k =>
    rw [ascAt_eq (List.getElem?_eq_getElem (by omega)) (List.getElem?_eq_getElem hj), ordR_neg]
    exact h k (k + 1) (by omega) hj (by omega)

/-- what l05Put makes of keys in order -/
def putD (xs : List RecD) (r : RecD) : List RecD := xs.filter (fun x => beforeB x r) ++ [r] ++ xs.filter (fun x => beforeB r x)

theorem putL_fsts (ps : List RP) (r : RP) : fsts (putL ps r) = putD (fsts ps) r.1 := by
  unfold putL putD fsts
  simp [List.filter_map, Function.comp_def]

section
variable {xs : List RecD} {r : RecD} {i : Nat}

end
end Go.Proofs.YtdaigojpeofmpaaGreat
namespace Go.Proofs.YtdaigojpeofmpaaGreat
open Go.RowKit

set_option linter.unusedSimpArgs false

/-- a Seq of 0 is 1 -/
def seq1 (r : RecD) : RecD := if r.seq = 0 then { r with seq := 1 } else r

/-- a store with records in the place of those with their keys -/
def withD (xs ts : List RecD) : List RecD := ts.foldl (fun a r => putD a (seq1 r)) xs

theorem withD_step {xs ts : List RecD} {k : Nat} {r : RecD} (h : ts[k]? = some r) : withD xs (ts.take (k + 1)) = putD (withD xs (ts.take k)) (seq1 r) := by
  obtain ⟨hk, e⟩ := List.getElem?_eq_some_iff.1 h
  unfold withD
  rw [List.take_succ_eq_append_getElem hk, e, List.foldl_append]
  rfl

theorem tot_takeK {ts : List RP} {k : Nat} {p : RP} (h : ts[k]? = some p) : tot (ts.take (k + 1)) = tot (ts.take k) + (1 + p.1.near.length) := by
  obtain ⟨hk, e⟩ := List.getElem?_eq_some_iff.1 h
  rw [List.take_succ_eq_append_getElem hk, tot_append, e]
  simp [tot]

theorem tot_takeL (ts : List RP) (k : Nat) : tot (ts.take k) ≤ tot ts := by
  have h := tot_append (ts.take k) (ts.drop k)
  rw [List.take_append_drop] at h
  omega

set_option maxRecDepth 100000 in
set_option maxHeartbeats 4000000 in
theorem with_any (v v2 : Value) (ps ts : List RP) (hi : Nat) (w : World) (hv : RecsIn w hi v ps) (ht : RecsIn w hi v2 ts) (hhi : hi ≤ w.heap.size) (hn : tot ps + tot ts ≤ 1048576) :
    Calls Tryz.prog 76 #[v, v2] w fun e w' => ∃ x qs, e = .returned x ∧ fsts qs = withD (fsts ps) (fsts ts) ∧ RecsIn w' w'.heap.size x qs ∧ tot qs ≤ tot ps + tot ts ∧ Below w.heap.size w w' := by
  have htl := tot_len ts
  obtain ⟨a1, c1, rfl⟩ := owns_lenS hv.row
  obtain ⟨a2, c2, rfl⟩ := owns_lenS ht.row
  have HT := hide ht
  have HV0 := hide (hv.wide hhi)
  clear hv ht
  go_enter Tryz.func76, Tryz.ntmps76
  go_wp2
  go_loopw [6, 5] (fun i o wr => ∃ (k : Nat) (x : Value) (qs : List RP), k ≤ ts.length ∧ i = .int .i64 (k : Int) ∧ o = x ∧ RecsIn wr wr.heap.size x qs ∧ Hid (fsts qs = withD (fsts ps) ((fsts ts).take k)) ∧ tot qs ≤ tot ps + tot (ts.take k) ∧ Below w.heap.size w wr) (fun i _ _ => ts.length - (intOf i).toNat)
  case atStart => exact ⟨0, _, ps, by omega, rfl, rfl, HV0.out, hide (by simp [withD]), by omega, Below.refl _ _⟩
  case round =>
    obtain ⟨k, x, qs, hk, rfl, rfl, hin, HF, htq, hnx⟩ := hrel
    clear HV0
    obtain ⟨xa, xc, rfl⟩ := owns_lenS hin.row
    have hsz := hnx.size
    by_cases hlt : k < ts.length
    · obtain ⟨p, hp⟩ : ∃ p, ts[k]? = some p := ⟨ts[k], List.getElem?_eq_getElem hlt⟩
      obtain ⟨bb, off, cap', hve, hbb, c0, c1, c2, c3, c4, c5, c6, c7, hnr⟩ := HT.out.at.cells k p hp
      cases hve
      obtain ⟨pa, pc, hpn⟩ := NearsAt.shape hnr
      rw [hpn] at c5
      rw [← hnx.cell (p := ⟨bb, off + k * 8, none⟩) (Nat.lt_of_lt_of_le hbb hhi)] at c0
      rw [← hnx.cell (p := ⟨bb, off + k * 8 + 1, none⟩) (Nat.lt_of_lt_of_le hbb hhi)] at c1
      rw [← hnx.cell (p := ⟨bb, off + k * 8 + 2, none⟩) (Nat.lt_of_lt_of_le hbb hhi)] at c2
      rw [← hnx.cell (p := ⟨bb, off + k * 8 + 3, none⟩) (Nat.lt_of_lt_of_le hbb hhi)] at c3
      rw [← hnx.cell (p := ⟨bb, off + k * 8 + 4, none⟩) (Nat.lt_of_lt_of_le hbb hhi)] at c4
      rw [← hnx.cell (p := ⟨bb, off + k * 8 + 5, none⟩) (Nat.lt_of_lt_of_le hbb hhi)] at c5
      rw [← hnx.cell (p := ⟨bb, off + k * 8 + 6, none⟩) (Nat.lt_of_lt_of_le hbb hhi)] at c6
      rw [← hnx.cell (p := ⟨bb, off + k * 8 + 7, none⟩) (Nat.lt_of_lt_of_le hbb hhi)] at c7
      have htk := tot_takeK hp
      have htl2 := tot_takeL ts (k + 1)
      have hno0 := HT.out.nears p (List.mem_of_getElem? hp)
      have hno1 : NearOwn wr 0 wr.heap.size p := (hno0.keep (W' := wr) (fun j _ h2 _ => hnx.block j (by omega))).wide (Nat.le_refl _) (by omega)
      have hpe : p = (p.1, .slice pa p.1.near.length pc) := by rw [← hpn]
      have hki : (0 : Int) ≤ (k : Int) := by omega
      have hkj : (k : Int) < (ts.length : Int) := by omega
      by_cases hs0 : p.1.seq = 0
      · have hd : (p.1.seq == 0) = true := by simpa using hs0
        have hse : seq1 p.1 = { p.1 with seq := 1 } := by unfold seq1; rw [if_pos hs0]
        have hno : NearOwn wr 0 wr.heap.size ({ p.1 with seq := 1 }, .slice pa p.1.near.length pc) := by rw [hpe] at hno1; exact hno1
        clear hs0 hpe hno0 hno1 hnr hpn
        have BA : Below wr.heap.size wr (wr.alloc (.cells #[.int .i64 p.1.area, .int .i64 p.1.kind, .int .i64 p.1.owner, .int .i64 p.1.key, .int .i64 1, .slice pa p.1.near.length pc, .int .i64 p.1.cost, .bool p.1.far] 39)) := (Below.refl _ _).alloc (Nat.le_refl _) _
        have hno2 : NearOwn (wr.alloc (.cells #[.int .i64 p.1.area, .int .i64 p.1.kind, .int .i64 p.1.owner, .int .i64 p.1.key, .int .i64 1, .slice pa p.1.near.length pc, .int .i64 p.1.cost, .bool p.1.far] 39)) 0 (wr.alloc (.cells #[.int .i64 p.1.area, .int .i64 p.1.kind, .int .i64 p.1.owner, .int .i64 p.1.key, .int .i64 1, .slice pa p.1.near.length pc, .int .i64 p.1.cost, .bool p.1.far] 39)).heap.size ({ p.1 with seq := 1 }, .slice pa p.1.near.length pc) := (hno.keep (W' := (wr.alloc (.cells #[.int .i64 p.1.area, .int .i64 p.1.kind, .int .i64 p.1.owner, .int .i64 p.1.key, .int .i64 1, .slice pa p.1.near.length pc, .int .i64 p.1.cost, .bool p.1.far] 39))) (fun j _ _ h3 => BA.block j h3)).wide (Nat.le_refl _) BA.size
        have HP := hide (put_any (.slice xa qs.length xc) qs (wr.alloc (.cells #[.int .i64 p.1.area, .int .i64 p.1.kind, .int .i64 p.1.owner, .int .i64 p.1.key, .int .i64 1, .slice pa p.1.near.length pc, .int .i64 p.1.cost, .bool p.1.far] 39)).heap.size ({ p.1 with seq := 1 }, .slice pa p.1.near.length pc) (wr.alloc (.cells #[.int .i64 p.1.area, .int .i64 p.1.kind, .int .i64 p.1.owner, .int .i64 p.1.key, .int .i64 1, .slice pa p.1.near.length pc, .int .i64 p.1.cost, .bool p.1.far] 39)) ((hin.below BA (Nat.le_refl _)).wide BA.size) (Nat.le_refl _) (by omega) hno2)
        have HF2 := hide (show fsts (putL qs ({ p.1 with seq := 1 }, .slice pa p.1.near.length pc)) = withD (fsts ps) ((fsts ts).take (k + 1)) by
          rw [putL_fsts, withD_step (fsts_at hp), ← HF.out, hse])
        have htp := tot_put qs ({ p.1 with seq := 1 }, .slice pa p.1.near.length pc)
        have HB := hide (hnx.trans (BA.mono hnx.size))
        have HTK := hide htk
        have htp2 : tot (putL qs ({ p.1 with seq := 1 }, .slice pa p.1.near.length pc)) ≤ tot qs + (1 + p.1.near.length) := htp
        obtain ⟨Q, hQ⟩ : ∃ Q, Q = putL qs ({ p.1 with seq := 1 }, .slice pa p.1.near.length pc) := ⟨_, rfl⟩
        rw [← hQ] at HP HF2 htp2
        unfold recC at HP
        simp only [] at HP
        clear hno hno2 hin hse htp hp HF htk hQ
        go_wp2_with fail
        refine HP.out.mono ?_
        rintro e w2 ⟨y, rfl, hy, b2⟩
        obtain ⟨ya, yc, rfl⟩ := owns_lenS hy.row
        have HY := hide hy
        have HB2 := hide (HB.out.trans (b2.mono HB.out.size))
        clear hy b2 HP HB BA
        go_wp2
        go_roundw
        case rel => exact ⟨k + 1, _, Q, by omega, by go_num, rfl, HY.out, HF2, by have := HTK.out; omega, HB2.out⟩
        case measure => simp [intOf]; omega
      · have hd : (p.1.seq == 0) = false := by simpa using hs0
        have hse : seq1 p.1 = p.1 := by unfold seq1; rw [if_neg hs0]
        have hno : NearOwn wr 0 wr.heap.size (p.1, .slice pa p.1.near.length pc) := by rw [hpe] at hno1; exact hno1
        clear hs0 hpe hno0 hno1 hnr hpn
        have BA : Below wr.heap.size wr (wr.alloc (.cells #[.int .i64 p.1.area, .int .i64 p.1.kind, .int .i64 p.1.owner, .int .i64 p.1.key, .int .i64 p.1.seq, .slice pa p.1.near.length pc, .int .i64 p.1.cost, .bool p.1.far] 39)) := (Below.refl _ _).alloc (Nat.le_refl _) _
        have hno2 : NearOwn (wr.alloc (.cells #[.int .i64 p.1.area, .int .i64 p.1.kind, .int .i64 p.1.owner, .int .i64 p.1.key, .int .i64 p.1.seq, .slice pa p.1.near.length pc, .int .i64 p.1.cost, .bool p.1.far] 39)) 0 (wr.alloc (.cells #[.int .i64 p.1.area, .int .i64 p.1.kind, .int .i64 p.1.owner, .int .i64 p.1.key, .int .i64 p.1.seq, .slice pa p.1.near.length pc, .int .i64 p.1.cost, .bool p.1.far] 39)).heap.size (p.1, .slice pa p.1.near.length pc) := (hno.keep (W' := (wr.alloc (.cells #[.int .i64 p.1.area, .int .i64 p.1.kind, .int .i64 p.1.owner, .int .i64 p.1.key, .int .i64 p.1.seq, .slice pa p.1.near.length pc, .int .i64 p.1.cost, .bool p.1.far] 39))) (fun j _ _ h3 => BA.block j h3)).wide (Nat.le_refl _) BA.size
        have HP := hide (put_any (.slice xa qs.length xc) qs (wr.alloc (.cells #[.int .i64 p.1.area, .int .i64 p.1.kind, .int .i64 p.1.owner, .int .i64 p.1.key, .int .i64 p.1.seq, .slice pa p.1.near.length pc, .int .i64 p.1.cost, .bool p.1.far] 39)).heap.size (p.1, .slice pa p.1.near.length pc) (wr.alloc (.cells #[.int .i64 p.1.area, .int .i64 p.1.kind, .int .i64 p.1.owner, .int .i64 p.1.key, .int .i64 p.1.seq, .slice pa p.1.near.length pc, .int .i64 p.1.cost, .bool p.1.far] 39)) ((hin.below BA (Nat.le_refl _)).wide BA.size) (Nat.le_refl _) (by omega) hno2)
        have HF2 := hide (show fsts (putL qs (p.1, .slice pa p.1.near.length pc)) = withD (fsts ps) ((fsts ts).take (k + 1)) by
          rw [putL_fsts, withD_step (fsts_at hp), ← HF.out, hse])
        have htp := tot_put qs (p.1, .slice pa p.1.near.length pc)
        have HB := hide (hnx.trans (BA.mono hnx.size))
        have HTK := hide htk
        have htp2 : tot (putL qs (p.1, .slice pa p.1.near.length pc)) ≤ tot qs + (1 + p.1.near.length) := htp
        obtain ⟨Q, hQ⟩ : ∃ Q, Q = putL qs (p.1, .slice pa p.1.near.length pc) := ⟨_, rfl⟩
        rw [← hQ] at HP HF2 htp2
        unfold recC at HP
        simp only [] at HP
        clear hno hno2 hin hse htp hp HF htk hQ
        go_wp2_with fail
        refine HP.out.mono ?_
        rintro e w2 ⟨y, rfl, hy, b2⟩
        obtain ⟨ya, yc, rfl⟩ := owns_lenS hy.row
        have HY := hide hy
        have HB2 := hide (HB.out.trans (b2.mono HB.out.size))
        clear hy b2 HP HB BA
        go_wp2
        go_roundw
        case rel => exact ⟨k + 1, _, Q, by omega, by go_num, rfl, HY.out, HF2, by have := HTK.out; omega, HB2.out⟩
        case measure => simp [intOf]; omega
    · have hkn : ¬ (k : Int) < (ts.length : Int) := by omega
      have HE := hide (show fsts qs = withD (fsts ps) (fsts ts) by have h := HF.out; rw [List.take_of_length_le (by simp [fsts]; omega)] at h; exact h)
      have HI := hide hin
      have hq : tot qs ≤ tot ps + tot ts := by have := tot_takeL ts k; omega
      clear hin HF
      go_wp2
      go_ret
      first
        | exact ⟨_, qs, rfl, HE.out, HI.out, hq, hnx⟩
        | exact ⟨_, rfl, qs, HE.out, HI.out, hq, hnx⟩
end Go.Proofs.YtdaigojpeofmpaaGreat
namespace Go.Proofs.YtdaigojpeofmpaaGreat

/-- the nodes are 1 .. 6 -/
def IsNode (v : Nat) : Prop := 1 ≤ v ∧ v ≤ 6

/-- costs of links: not below 0, at most K, of nodes alone -/
structure Links (L : Nat → Nat → Int) (K : Int) : Prop where
  pos : ∀ u v, 0 ≤ L u v
  le : ∀ u v, L u v ≤ K
  node : ∀ u v, 0 < L u v → IsNode u ∧ IsNode v

/-- the hop by which a way goes on over the link from u to v -/
def OverHop (src : Nat) (h : Nat → List Int) (u v : Nat) (x : Int) : Prop := (u = src ∧ x = (v : Int)) ∨ (u ≠ src ∧ x ∈ h u)

/-- the state of a search from src: F are the nodes that are done, c the costs (below 0: none yet), h the hops -/
structure Inv (L : Nat → Nat → Int) (src : Nat) (F : Nat → Bool) (c : Nat → Int) (h : Nat → List Int) : Prop where
  fnode : ∀ v, F v = true → IsNode v ∧ 0 ≤ c v
  cnode : ∀ v, 0 ≤ c v → IsNode v
  start : c src = 0
  start0 : h src = []
  closed : ∀ u v, F u = true → 0 < L u v → 0 ≤ c v ∧ c v ≤ c u + L u v
  pred : ∀ v, v ≠ src → 0 ≤ c v → ∃ u, F u = true ∧ 0 < L u v ∧ c v = c u + L u v
  mono : ∀ u v, F u = true → F v = false → 0 ≤ c v → c u ≤ c v
  hop : ∀ v, v ≠ src → ∀ x, x ∈ h v ↔ 0 ≤ c v ∧ ∃ u, F u = true ∧ 0 < L u v ∧ c v = c u + L u v ∧ OverHop src h u v x
  asc : ∀ v, (h v).Pairwise (· < ·)
  rng : ∀ v x, x ∈ h v → 1 ≤ x ∧ x ≤ 6

/-- what going on from u makes of the cost of v -/
def relaxC (L : Nat → Nat → Int) (c : Nat → Int) (u v : Nat) : Int :=
  if 0 < L u v ∧ (c v < 0 ∨ c u + L u v < c v) then c u + L u v else c v

theorem relaxC_le {L : Nat → Nat → Int} {c : Nat → Int} {u v : Nat} (h : 0 ≤ c v) : relaxC L c u v ≤ c v := by
  unfold relaxC; split <;> omega

theorem relaxC_nn {L : Nat → Nat → Int} {c : Nat → Int} {u v : Nat} (hu : 0 ≤ c u) (h : 0 ≤ c v) : 0 ≤ relaxC L c u v := by
  unfold relaxC; split <;> omega

theorem relaxC_same {L : Nat → Nat → Int} {c : Nat → Int} {u v : Nat} (h0 : 0 ≤ c v) (h : c v ≤ c u) : relaxC L c u v = c v := by
  unfold relaxC; split <;> omega

/-- the hops behind going on from u, as a set -/
structure RelaxH (L : Nat → Nat → Int) (src : Nat) (c : Nat → Int) (h : Nat → List Int) (u v : Nat) (h' : List Int) : Prop where
  asc : h'.Pairwise (· < ·)
  mem : ∀ x, x ∈ h' ↔ ((x ∈ h v ∧ relaxC L c u v = c v) ∨ (0 < L u v ∧ relaxC L c u v = c u + L u v ∧ OverHop src h u v x))

theorem Inv.step {L : Nat → Nat → Int} {K : Int} {src : Nat} {F : Nat → Bool} {c : Nat → Int} {h : Nat → List Int} (I : Inv L src F c h) (hL : Links L K)
    {u : Nat} (hu : F u = false) (hcu : 0 ≤ c u) (hmin : ∀ v, F v = false → 0 ≤ c v → c u ≤ c v) {h' : Nat → List Int} (hh : ∀ v, RelaxH L src c h u v (h' v)) :
    Inv L src (fun v => F v || v == u) (fun v => relaxC L c u v) h' := by
  have hup : ∀ v, F v = true → c v ≤ c u := fun v hv => I.mono v u hv hu hcu
  have keep : ∀ v, F v = true → relaxC L c u v = c v := fun v hv => relaxC_same (I.fnode v hv).2 (hup v hv)
  have keepu : relaxC L c u u = c u := relaxC_same hcu (Int.le_refl _)
  have hsrc : relaxC L c u src = 0 := by
    have := I.start
    unfold relaxC; split <;> omega
  have hFn : ∀ v, F v = true → v ≠ u := fun v hv e => by rw [e, hu] at hv; cases hv
  -- hops of done nodes and of u stay
  have hsame : ∀ v, 0 ≤ c v → c v ≤ c u → ∀ x, x ∈ h' v ↔ x ∈ h v := by
    intro v h0 hv x
    rw [(hh v).mem x]
    have e := relaxC_same (L := L) h0 hv
    constructor
    · rintro (⟨h1, _⟩ | ⟨h1, h2, _⟩)
      · exact h1
      · omega
    · intro h1; exact .inl ⟨h1, e⟩
  have hover : ∀ w, (F w = true ∨ w = u) → ∀ v x, OverHop src h' w v x ↔ OverHop src h w v x := by
    intro w hw v x
    have : ∀ x, x ∈ h' w ↔ x ∈ h w := by
      rcases hw with hw | rfl
      · exact hsame w (I.fnode w hw).2 (hup w hw)
      · exact hsame _ hcu (Int.le_refl _)
    unfold OverHop; rw [this x]
  have hFu : ∀ v, (F v || v == u) = true ↔ (F v = true ∨ v = u) := by
    intro v; simp
  refine ⟨?_, ?_, hsrc, ?_, ?_, ?_, ?_, ?_, fun v => (hh v).asc, ?_⟩
  · intro v hv
    rcases (hFu v).1 hv with h1 | rfl
    · refine ⟨(I.fnode v h1).1, ?_⟩
      show 0 ≤ relaxC L c u v
      rw [keep v h1]; exact (I.fnode v h1).2
    · refine ⟨I.cnode _ hcu, ?_⟩
      show 0 ≤ relaxC L c _ _
      rw [keepu]; exact hcu
  · intro v hv
    have hv' : 0 ≤ relaxC L c u v := hv
    unfold relaxC at hv'
    split at hv'
    · rename_i h1; exact (hL.node u v h1.1).2
    · exact I.cnode v hv'
  · have : ∀ x, x ∉ h' src := by
      intro x hx
      rw [(hh src).mem x, I.start0] at hx
      rcases hx with ⟨h1, _⟩ | ⟨h1, h2, _⟩
      · cases h1
      · rw [hsrc] at h2; omega
    exact List.eq_nil_iff_forall_not_mem.2 this
  · intro w v hw hl
    show 0 ≤ relaxC L c u v ∧ relaxC L c u v ≤ relaxC L c u w + L w v
    rcases (hFu w).1 hw with h1 | rfl
    · rw [keep w h1]
      have := I.closed w v h1 hl
      have h2 := relaxC_le (L := L) (u := u) this.1
      have h3 := relaxC_nn (L := L) hcu this.1
      omega
    · rw [keepu]
      unfold relaxC
      split <;> omega
  · intro v hv h0
    have h0' : 0 ≤ relaxC L c u v := h0
    show ∃ w, (F w || w == u) = true ∧ 0 < L w v ∧ relaxC L c u v = relaxC L c u w + L w v
    by_cases h1 : 0 < L u v ∧ (c v < 0 ∨ c u + L u v < c v)
    · refine ⟨u, by simp, h1.1, ?_⟩
      rw [keepu]; unfold relaxC; rw [if_pos h1]
    · have e : relaxC L c u v = c v := by unfold relaxC; rw [if_neg h1]
      rw [e] at h0' ⊢
      obtain ⟨w, hw, hl, hc⟩ := I.pred v hv h0'
      exact ⟨w, by simp [hw], hl, by rw [keep w hw]; exact hc⟩
  · intro w v hw hv h0
    have h0' : 0 ≤ relaxC L c u v := h0
    have hv1 : F v = false := by cases hfv : F v <;> simp [hfv] at hv ⊢
    show relaxC L c u w ≤ relaxC L c u v
    have hwc : relaxC L c u w ≤ c u := by
      rcases (hFu w).1 hw with h1 | rfl
      · rw [keep w h1]; exact hup w h1
      · rw [keepu]; omega
    have huv : c u ≤ relaxC L c u v := by
      by_cases h1 : 0 < L u v ∧ (c v < 0 ∨ c u + L u v < c v)
      · unfold relaxC; rw [if_pos h1]; omega
      · have e : relaxC L c u v = c v := by unfold relaxC; rw [if_neg h1]
        rw [e] at h0' ⊢
        exact hmin v hv1 h0'
    omega
  · intro v hv x
    show x ∈ h' v ↔ 0 ≤ relaxC L c u v ∧ ∃ w, (F w || w == u) = true ∧ 0 < L w v ∧ relaxC L c u v = relaxC L c u w + L w v ∧ OverHop src h' w v x
    rw [(hh v).mem x]
    constructor
    · rintro (⟨h1, h2⟩ | ⟨h1, h2, h3⟩)
      · obtain ⟨h0, w, hw, hl, hc, ho⟩ := (I.hop v hv x).1 h1
        rw [h2]
        exact ⟨h0, w, by simp [hw], hl, by rw [keep w hw]; exact hc, (hover w (.inl hw) v x).2 ho⟩
      · refine ⟨by omega, u, by simp, h1, by rw [keepu]; exact h2, (hover u (.inr rfl) v x).2 h3⟩
    · rintro ⟨h0, w, hw, hl, hc, ho⟩
      rcases (hFu w).1 hw with h1 | rfl
      · rw [keep w h1] at hc
        have hcl := I.closed w v h1 hl
        have h3 := relaxC_le (L := L) (u := u) hcl.1
        have e : relaxC L c u v = c v := by omega
        refine .inl ⟨(I.hop v hv x).2 ⟨hcl.1, w, h1, hl, by omega, (hover w (.inl h1) v x).1 ho⟩, e⟩
      · rw [keepu] at hc
        exact .inr ⟨hl, hc, (hover _ (.inr rfl) v x).1 ho⟩
  · intro v x hx
    rw [(hh v).mem x] at hx
    rcases hx with ⟨h1, _⟩ | ⟨h1, _, h3⟩
    · exact I.rng v x h1
    · rcases h3 with ⟨_, rfl⟩ | ⟨_, h4⟩
      · have := (hL.node u v h1).2; unfold IsNode at this; omega
      · exact I.rng u x h4

/-- ascending lists with the same members are the same -/
theorem asc_ext : ∀ {a b : List Int}, a.Pairwise (· < ·) → b.Pairwise (· < ·) → (∀ x, x ∈ a ↔ x ∈ b) → a = b
  | [], [], _, _, _ => rfl
  | [], y :: ys, _, _, h => by have := (h y).2 (by simp); cases this
  | x :: xs, [], _, _, h => by have := (h x).1 (by simp); cases this
  | x :: xs, y :: ys, ha, hb, h => by
    have ha' := List.pairwise_cons.1 ha
    have hb' := List.pairwise_cons.1 hb
    have hxy : x = y := by
      have h1 := (h x).1 (by simp)
      have h2 := (h y).2 (by simp)
      rcases List.mem_cons.1 h1 with e | e
      · exact e
      · rcases List.mem_cons.1 h2 with e2 | e2
        · exact e2.symm
        · have := ha'.1 y e2; have := hb'.1 x e; omega
    subst hxy
    have : xs = ys := by
      refine asc_ext ha'.2 hb'.2 (fun z => ?_)
      have hz := h z
      constructor
      · intro hm
        have h1 := hz.1 (List.mem_cons_of_mem _ hm)
        rcases List.mem_cons.1 h1 with e | e
        · have := ha'.1 z hm; omega
        · exact e
      · intro hm
        have h1 := hz.2 (List.mem_cons_of_mem _ hm)
        rcases List.mem_cons.1 h1 with e | e
        · have := hb'.1 z hm; omega
        · exact e
    rw [this]

/-- the end of a search: every node that has a cost is done -/
def Fix (L : Nat → Nat → Int) (src : Nat) (c : Nat → Int) (h : Nat → List Int) : Prop := ∃ F, Inv L src F c h ∧ ∀ v, 0 ≤ c v → F v = true

theorem Fix.cost_le {L : Nat → Nat → Int} {src : Nat} {c d : Nat → Int} {h g : Nat → List Int} (A : Fix L src c h) (B : Fix L src d g) :
    ∀ (n : Nat) (v : Nat), 0 ≤ c v → (c v).toNat ≤ n → 0 ≤ d v ∧ d v ≤ c v := by
  obtain ⟨F, I, hF⟩ := A
  obtain ⟨G, J, hG⟩ := B
  intro n
  induction n with
  | zero =>
    intro v h0 hn
    by_cases hv : v = src
    · subst hv; rw [J.start]; omega
    · obtain ⟨u, hu, hl, hc⟩ := I.pred v hv h0
      have := (I.fnode u hu).2
      omega
  | succ n ih =>
    intro v h0 hn
    by_cases hv : v = src
    · subst hv; rw [J.start, I.start]; omega
    · obtain ⟨u, hu, hl, hc⟩ := I.pred v hv h0
      have h1 := (I.fnode u hu).2
      have h2 := ih u h1 (by omega)
      have h3 := J.closed u v (hG u h2.1) hl
      omega

theorem Fix.cost {L : Nat → Nat → Int} {src : Nat} {c d : Nat → Int} {h g : Nat → List Int} (A : Fix L src c h) (B : Fix L src d g) (v : Nat) (h0 : 0 ≤ c v) : d v = c v := by
  have h1 := A.cost_le B _ v h0 (Nat.le_refl _)
  have h2 := B.cost_le A _ v h1.1 (Nat.le_refl _)
  omega

theorem Fix.hops_sub {L : Nat → Nat → Int} {src : Nat} {c d : Nat → Int} {h g : Nat → List Int} (A : Fix L src c h) (B : Fix L src d g) :
    ∀ (n : Nat) (v : Nat), 0 ≤ c v → (c v).toNat ≤ n → ∀ x, x ∈ h v → x ∈ g v := by
  have hcost := A.cost B
  obtain ⟨F, I, hF⟩ := A
  obtain ⟨G, J, hG⟩ := B
  intro n
  induction n with
  | zero =>
    intro v h0 hn x hx
    by_cases hv : v = src
    · subst hv; rw [I.start0] at hx; cases hx
    · obtain ⟨u, hu, hl, hc⟩ := I.pred v hv h0
      have := (I.fnode u hu).2
      omega
  | succ n ih =>
    intro v h0 hn x hx
    by_cases hv : v = src
    · subst hv; rw [I.start0] at hx; cases hx
    · obtain ⟨_, u, hu, hl, hc, ho⟩ := (I.hop v hv x).1 hx
      have h1 := (I.fnode u hu).2
      have eu := hcost u h1
      have ev := hcost v h0
      refine (J.hop v hv x).2 ⟨by omega, u, hG u (by omega), hl, by omega, ?_⟩
      rcases ho with h3 | ⟨h3, h4⟩
      · exact .inl h3
      · exact .inr ⟨h3, ih u h1 (by omega) x h4⟩

theorem Fix.hops {L : Nat → Nat → Int} {src : Nat} {c d : Nat → Int} {h g : Nat → List Int} (A : Fix L src c h) (B : Fix L src d g) (v : Nat) (h0 : 0 ≤ c v) : g v = h v := by
  have e := A.cost B v h0
  have sub1 := A.hops_sub B _ v h0 (Nat.le_refl _)
  have sub2 := B.hops_sub A _ v (by omega : 0 ≤ d v) (Nat.le_refl _)
  obtain ⟨F, I, _⟩ := A
  obtain ⟨G, J, _⟩ := B
  exact asc_ext (J.asc v) (I.asc v) (fun x => ⟨sub2 x, sub1 x⟩)

/-- the search's start -/
theorem Inv.init {L : Nat → Nat → Int} {src : Nat} (hs : IsNode src) : Inv L src (fun _ => false) (fun v => if v = src then 0 else -1) (fun _ => []) := by
  refine ⟨by simp, ?_, by simp, rfl, by simp, ?_, by simp, ?_, by simp, by simp⟩
  · intro v hv
    have hv' : (0 : Int) ≤ if v = src then 0 else -1 := hv
    split at hv'
    · rename_i e; rw [e]; exact hs
    · omega
  · intro v hv h0
    have h0' : (0 : Int) ≤ if v = src then 0 else -1 := h0
    rw [if_neg hv] at h0'; omega
  · intro v hv x
    simp [hv]
end Go.Proofs.YtdaigojpeofmpaaGreat
namespace Go.Proofs.YtdaigojpeofmpaaGreat
open Go.RowKit

set_option linter.unusedSimpArgs false

theorem results_cell_row_tmp5 {P : Program} {fn : Func} {p u : Tmp} {ty : TypeId} (h : fn.results = #[.cell p ty, .tmp u]) (tmps : Array Value) (w : World) (g : Nat) (t : TypeId) (cs : Array Value) (fr : Nat × Nat) (d : TypeDesc)
    (hp : tmps.getD p undef = .pointer (some ⟨g, 0, none⟩)) (hg : w.heap[g]? = some (.cells cs t fr))
    (hu : P.underlying ty = some d) (hd : (match d with | .struct _ | .array _ _ => true | _ => false) = true) (hi : (P.info? ty).map (·.size) = some cs.size) :
    (results fn tmps).run P w = .ok (.tuple #[.agg cs, tmps.getD u undef]) w := by
  have hp' : tmps[p]?.getD undef = .pointer (some ⟨g, 0, none⟩) := by simpa using hp
  rw [results_cell_tmp h]
  simp [hp', asAddr, run_loadVar_row w g t ty cs fr d hg hu hd hi]

/-- the one with the key, and whether there is one -/
def findD (xs : List RecD) (r : RecD) : RecD := if atZ xs r < 0 then zeroRD else xs.getD (atZ xs r).toNat zeroRD

def findB (xs : List RecD) (r : RecD) : Bool := !decide (atZ xs r < 0)

theorem find_none {xs : List RecD} {r : RecD} (h : atZ xs r = -1) : findD xs r = zeroRD ∧ findB xs r = false := by unfold findD findB; rw [h]; exact ⟨rfl, rfl⟩

theorem find_at {xs : List RecD} {r y : RecD} {k : Nat} (h : atZ xs r = (k : Int)) (hy : xs[k]? = some y) : findD xs r = y ∧ findB xs r = true := by
  unfold findD findB
  rw [h, if_neg (by omega)]
  exact ⟨by simp [hy], by simp⟩

theorem fsts_some5 {ps : List RP} {k : Nat} {y : RecD} (h : (fsts ps)[k]? = some y) : ∃ p, ps[k]? = some p ∧ p.1 = y := by
  simp [fsts] at h
  obtain ⟨v, hv⟩ := h
  exact ⟨(y, v), hv, rfl⟩

end Go.Proofs.YtdaigojpeofmpaaGreat
namespace Go.Proofs.YtdaigojpeofmpaaGreat
open Go.RowKit

set_option linter.unusedSimpArgs false

def nodeR (area node : Int) : RecD := ⟨area, 1, node, 0, 0, [], 0, false⟩

/-- a node's record of an area -/
def nodeD (xs : List RecD) (area node : Int) : RecD := findD xs (nodeR area node)

def nodeB (xs : List RecD) (area node : Int) : Bool := findB xs (nodeR area node)

/-- what a list of neighbours tells of b -/
def tellsN (ns : List Nr) (b : Int) : Int := match ns.find? (fun n => n.to == b) with
  | some n => n.c
  | none => 0

def tellsD (xs : List RecD) (area a b : Int) : Int := tellsN (nodeD xs area a).near b

def linkedD (xs : List RecD) (area a b : Int) : Int := if tellsD xs area b a = 0 then 0 else tellsD xs area a b

theorem nears_nil (W : World) (B : Nat) : NearsAt W (.slice none 0 0) [] B := ⟨none, 0, rfl, .inl rfl⟩

set_option maxRecDepth 100000 in
set_option maxHeartbeats 4000000 in
theorem snode_any (v : Value) (ps : List RP) (hi : Nat) (area node : Int) (w : World) (hv : RecsIn w hi v ps) (hhi : hi ≤ w.heap.size) (hn : tot ps ≤ 1048576) :
    Calls Tryz.prog 118 #[v, .int .i64 area, .int .i64 node] w fun e w' => ∃ u, e = .returned (.tuple #[.agg (recC (nodeD (fsts ps) area node) u), .bool (nodeB (fsts ps) area node)]) ∧ NearsAt w' u (nodeD (fsts ps) area node).near hi ∧ (nodeD (fsts ps) area node).near.length ≤ 1048576 ∧ Below w.heap.size w w' := by
  have hnl := tot_len ps
  obtain ⟨a1, c1, rfl⟩ := owns_lenS hv.row
  have BX : Below w.heap.size w (w.alloc (.cells #[.int .i64 0, .int .i64 0, .int .i64 0, .int .i64 0, .int .i64 0, .slice none 0 0, .int .i64 0, .bool false] 39)) := (Below.refl _ _).alloc (Nat.le_refl _) _
  have hq := heap_alloc_new w (.cells #[.int .i64 0, .int .i64 0, .int .i64 0, .int .i64 0, .int .i64 0, .slice none 0 0, .int .i64 0, .bool false] 39)
  obtain ⟨w0, hw0⟩ : ∃ W, W = w.alloc (.cells #[.int .i64 0, .int .i64 0, .int .i64 0, .int .i64 0, .int .i64 0, .slice none 0 0, .int .i64 0, .bool false] 39) := ⟨_, rfl⟩
  rw [← hw0] at BX hq
  have hs0 := lt_of_heap hq
  have HAT := hide (satI_any (.slice a1 ps.length c1) ps hi (nodeR area node, .slice none 0 0) w0 (hv.below BX hhi) (by have := BX.size; omega) hn)
  unfold recC nodeR at HAT
  simp only [] at HAT
  have HV := hide hv
  clear hv
  unfold nodeD nodeB
  obtain ⟨nr, hnr⟩ : ∃ r, r = nodeR area node := ⟨_, rfl⟩
  rw [show (⟨area, 1, node, 0, 0, [], 0, false⟩ : RecD) = nr from hnr.symm] at HAT
  rw [← hnr]
  clear hnr
  rcases atZ_cases (fsts ps) nr with hz | ⟨j, y, hz, hy, _⟩
  · obtain ⟨e1, e2⟩ := find_none hz
    rw [e1, e2]
    rw [hz] at HAT
    clear hz e1 e2
    unfold recC
    go_enter Tryz.func118, Tryz.ntmps118
    go_wp2_with fail
    rw [← hw0]
    clear hw0
    refine HAT.out.mono ?_
    rintro e w1 ⟨rfl, b1⟩
    have B1 : Below w.heap.size w w1 := BX.trans (b1.mono BX.size)
    have hz1 := (b1.block _ hs0).trans hq
    clear b1 hq HAT
    have u0 := cells_at hz1 0
    have u1 := cells_at hz1 1
    have u2 := cells_at hz1 2
    have u3 := cells_at hz1 3
    have u4 := cells_at hz1 4
    have u5 := cells_at hz1 5
    have u6 := cells_at hz1 6
    have u7 := cells_at hz1 7
    simp at u0 u1 u2 u3 u4 u5 u6 u7
    have fu := frozen_at hz1
    have FF := hide (fin85 zeroRD (.slice none 0 0) hz1)
    have G8 := hide (grown85 w1 w.heap.size zeroRD (.slice none 0 0))
    clear hz1
    go_wp2_with fail
    (try simp only [Exit.inBlock, Exit.then])
    refine bodyPost_ret (results_cell_row_tmp5 rfl _ _ w.heap.size 39 (recC zeroRD (.slice none 0 0)) (0, 0) _ rfl FF.out Tryz.underlying39 rfl (by kernel_rfl)) rfl ?_
    exact ⟨.slice none 0 0, rfl, nears_nil _ _, (by simp [zeroRD]), B1.grown G8.out B1.size (fun k hk => by simp at hk; omega)⟩
  · obtain ⟨e1, e2⟩ := find_at hz hy
    rw [e1, e2]
    obtain ⟨t, htj, hty⟩ := fsts_some5 hy
    have hjl : j < ps.length := (List.getElem?_eq_some_iff.1 htj).1
    have hji : (0 : Int) ≤ (j : Int) := by omega
    have hjj : (j : Int) < (ps.length : Int) := by omega
    have hj0 : ¬ (j : Int) < 0 := by omega
    rw [hz] at HAT
    obtain ⟨b, off, cp, hve, hbb, c0, c1, c2, c3, c4, c5, c6, c7, hnr⟩ := HV.out.at.cells j t htj
    cases hve
    have hbw : b < w.heap.size := by omega
    obtain ⟨pa, pc, hpn⟩ := NearsAt.shape hnr
    rw [hpn] at c5 hnr
    have HNL := hide (show t.1.near.length ≤ 1048576 by have := tot_mem (List.mem_of_getElem? htj); omega)
    have HNR := hide hnr
    subst hty
    clear hz hy htj e1 e2 hpn hnr
    unfold recC
    go_enter Tryz.func118, Tryz.ntmps118
    go_wp2_with fail
    rw [← hw0]
    clear hw0
    refine HAT.out.mono ?_
    rintro e w1 ⟨rfl, b1⟩
    have B1 : Below w.heap.size w w1 := BX.trans (b1.mono BX.size)
    have hz1 := (b1.block _ hs0).trans hq
    clear b1 hq HAT
    rw [← B1.cell (p := ⟨b, off + j * 8, none⟩) hbw] at c0
    rw [← B1.cell (p := ⟨b, off + j * 8 + 1, none⟩) hbw] at c1
    rw [← B1.cell (p := ⟨b, off + j * 8 + 2, none⟩) hbw] at c2
    rw [← B1.cell (p := ⟨b, off + j * 8 + 3, none⟩) hbw] at c3
    rw [← B1.cell (p := ⟨b, off + j * 8 + 4, none⟩) hbw] at c4
    rw [← B1.cell (p := ⟨b, off + j * 8 + 5, none⟩) hbw] at c5
    rw [← B1.cell (p := ⟨b, off + j * 8 + 6, none⟩) hbw] at c6
    rw [← B1.cell (p := ⟨b, off + j * 8 + 7, none⟩) hbw] at c7
    obtain ⟨z, hzz⟩ : ∃ z, z = w.heap.size := ⟨_, rfl⟩
    rw [← hzz] at hz1 ⊢
    have HZ := hide hzz
    clear hzz
    have u0 := cells_at hz1 0
    have u1 := cells_at hz1 1
    have u2 := cells_at hz1 2
    have u3 := cells_at hz1 3
    have u4 := cells_at hz1 4
    have u5 := cells_at hz1 5
    have u6 := cells_at hz1 6
    have u7 := cells_at hz1 7
    simp at u0 u1 u2 u3 u4 u5 u6 u7
    have fu := frozen_at hz1
    have HZ1 := hide hz1
    have FIN : ∀ W, W = putR5 w1 z t.1 (.slice pa t.1.near.length pc) → NearsAt W (.slice pa t.1.near.length pc) t.1.near hi ∧ Below w.heap.size w W := by
      intro W hW
      have G8 := grown85 w1 z t.1 (.slice pa t.1.near.length pc)
      rw [← hW] at G8
      have BF : Below w.heap.size w W := B1.grown G8 B1.size (fun k hk => by have := HZ.out; simp at hk; omega)
      exact ⟨RowAt.later HNR.out BF hhi, BF⟩
    have HFIN := hide FIN
    clear hz1 FIN HNR B1 HV BX hs0 hjl hbb hbw
    go_wp2_with fail
    (try simp only [Exit.inBlock, Exit.then])
    refine bodyPost_ret (results_cell_row_tmp5 rfl _ _ z 39 (recC t.1 (.slice pa t.1.near.length pc)) (0, 0) _ rfl (fin85 t.1 (.slice pa t.1.near.length pc) HZ1.out) Tryz.underlying39 rfl (by kernel_rfl)) rfl ?_
    obtain ⟨W5, hW5⟩ : ∃ W, W = putR5 w1 z t.1 (.slice pa t.1.near.length pc) := ⟨_, rfl⟩
    have h := HFIN.out W5 hW5
    subst hW5
    exact ⟨_, rfl, h.1, HNL.out, h.2⟩

theorem tells_hit {ns : List Nr} {k : Nat} {n : Nr} {b : Int} (h : ns[k]? = some n) (hno : ∀ q ∈ ns.take k, q.to ≠ b) (hb : n.to = b) : tellsN ns b = n.c := by
  have e : ns.find? (fun x => x.to == b) = some n := by
    obtain ⟨hk, e1⟩ := List.getElem?_eq_some_iff.1 h
    rw [List.find?_eq_some_iff_append]
    refine ⟨by simpa using hb, ns.take k, ns.drop (k + 1), ?_, ?_⟩
    · rw [← e1, ← List.drop_eq_getElem_cons hk, List.take_append_drop]
    · intro x hx
      simpa using hno x hx
  unfold tellsN
  rw [e]

theorem tells_none {ns : List Nr} {b : Int} (hno : ∀ q ∈ ns, q.to ≠ b) : tellsN ns b = 0 := by
  have e : ns.find? (fun x => x.to == b) = none := by
    rw [List.find?_eq_none]
    intro x hx
    simpa using hno x hx
  unfold tellsN
  rw [e]

theorem take_allN {ns : List Nr} {k : Nat} {n : Nr} {b : Int} (h : ns[k]? = some n) (hno : ∀ q ∈ ns.take k, q.to ≠ b) (hz : n.to ≠ b) : ∀ q ∈ ns.take (k + 1), q.to ≠ b := by
  obtain ⟨hk, e⟩ := List.getElem?_eq_some_iff.1 h
  rw [List.take_succ_eq_append_getElem hk, e]
  intro q hq
  rcases List.mem_append.1 hq with h1 | h1
  · exact hno q h1
  · have : q = n := by simpa using h1
    subst this
    exact hz

set_option maxRecDepth 100000 in
set_option maxHeartbeats 4000000 in
theorem stells_any (v : Value) (ps : List RP) (hi : Nat) (area a b : Int) (w : World) (hv : RecsIn w hi v ps) (hhi : hi ≤ w.heap.size) (hn : tot ps ≤ 1048576) :
    Calls Tryz.prog 116 #[v, .int .i64 area, .int .i64 a, .int .i64 b] w fun e w' => e = .returned (.int .i64 (tellsD (fsts ps) area a b)) ∧ Below w.heap.size w w' := by
  have HNO := hide (snode_any v ps hi area a w hv hhi hn)
  obtain ⟨a1, c1, rfl⟩ := owns_lenS hv.row
  clear hv
  unfold tellsD
  obtain ⟨D, hD⟩ : ∃ D, D = nodeD (fsts ps) area a := ⟨_, rfl⟩
  rw [← hD] at HNO
  rw [← hD]
  clear hD
  obtain ⟨X, hX⟩ : ∃ X, X = tellsN D.near b := ⟨_, rfl⟩
  rw [← hX]
  have HX := hide hX
  clear hX
  unfold recC at HNO
  go_enter Tryz.func116, Tryz.ntmps116
  go_wp2_with fail
  refine HNO.out.mono ?_
  rintro e w1 ⟨u, rfl, hu, hul, b1⟩
  obtain ⟨ua, uc, rfl⟩ := NearsAt.shape hu
  have hx := heap_alloc_new w1 (.cells #[.int .i64 D.area, .int .i64 D.kind, .int .i64 D.owner, .int .i64 D.key, .int .i64 D.seq, .slice ua D.near.length uc, .int .i64 D.cost, .bool D.far] 39)
  have BX : Below w1.heap.size w1 (w1.alloc (.cells #[.int .i64 D.area, .int .i64 D.kind, .int .i64 D.owner, .int .i64 D.key, .int .i64 D.seq, .slice ua D.near.length uc, .int .i64 D.cost, .bool D.far] 39)) := (Below.refl _ _).alloc (Nat.le_refl _) _
  obtain ⟨w2, hw2⟩ : ∃ W, W = w1.alloc (.cells #[.int .i64 D.area, .int .i64 D.kind, .int .i64 D.owner, .int .i64 D.key, .int .i64 D.seq, .slice ua D.near.length uc, .int .i64 D.cost, .bool D.far] 39) := ⟨_, rfl⟩
  rw [← hw2] at hx BX
  have B2 : Below w.heap.size w w2 := b1.trans (BX.mono b1.size)
  have HU : Hid (NearsAt w2 (.slice ua D.near.length uc) D.near w2.heap.size) := hide ((RowAt.later hu BX (Nat.le_trans hhi b1.size)).more (Nat.le_trans hhi B2.size))
  have hs2 := lt_of_heap hx
  have HXX := hide hx
  clear hu hx
  go_wp2
  rw [← hw2]
  clear hw2
  go_loopw [11] (fun i wr => ∃ k : Nat, k ≤ D.near.length ∧ i = .int .i64 k ∧ Hid (∀ q ∈ D.near.take k, q.to ≠ b) ∧ Below w2.heap.size w2 wr) (fun i _ => D.near.length - (intOf i).toNat)
  case atStart => exact ⟨0, by omega, rfl, hide (by simp), Below.refl _ _⟩
  case round =>
    obtain ⟨k, hk, rfl, HNN, hnx⟩ := hrel
    have hx2 := (hnx.block _ hs2).trans HXX.out
    have d5 := cells_at hx2 5
    simp at d5
    clear hx2
    have BWR : Below w.heap.size w wr := B2.trans (hnx.mono B2.size)
    by_cases hlt : k < D.near.length
    · obtain ⟨n, hnk⟩ : ∃ n, D.near[k]? = some n := ⟨D.near[k], List.getElem?_eq_getElem hlt⟩
      obtain ⟨g, off, cap', hve, hbb, c0, c1⟩ := HU.out.cells k n hnk
      cases hve
      rw [← hnx.cell (p := ⟨g, off + k * 2, none⟩) hbb] at c0
      rw [← hnx.cell (p := ⟨g, off + k * 2 + 1, none⟩) hbb] at c1
      have hki : (0 : Int) ≤ (k : Int) := by omega
      have hkj : (k : Int) < (D.near.length : Int) := by omega
      by_cases hzz : n.to = b
      · have HF := hide (HX.out.trans (tells_hit hnk HNN.out hzz))
        rw [hzz] at c0
        clear hnk hzz
        go_wp2
        go_ret
        exact ⟨by rw [HF.out]; rfl, BWR⟩
      · have HN := hide (take_allN hnk HNN.out hzz)
        have hd : (n.to == b) = false := by simpa using hzz
        clear hnk
        go_wp2
        go_roundw
        case rel => exact ⟨k + 1, by omega, by go_num, HN, hnx⟩
        case measure => simp [intOf]; omega
    · have HF := hide (HX.out.trans (tells_none (by have h := HNN.out; rw [List.take_of_length_le (by omega)] at h; exact h)))
      go_wp2
      go_ret
      exact ⟨by rw [HF.out]; rfl, BWR⟩
end Go.Proofs.YtdaigojpeofmpaaGreat
namespace Go.Proofs.YtdaigojpeofmpaaGreat
open Go.RowKit

def intC (zs : List Int) (j : Nat) : Value := .int .i64 (zs.getD j 0)

def IntsAt (W : World) (v : Value) (zs : List Int) (B : Nat) : Prop := RowAt W v zs.length 1 (intC zs) B

theorem below_drewN {B : Nat} {w wr : World} (h : Below B w wr) (n : Nat) : Below B w (wr.drewN n) := ⟨h.os, h.tape, h.output, h.size, h.block⟩

theorem list_ne_at {xs ys : List Int} {k : Nat} (h : xs.getD k 0 ≠ ys.getD k 0) : ¬ xs = ys := by
  rintro rfl
  exact h rfl

theorem list_eq_all {xs ys : List Int} (hl : xs.length = ys.length) (h : ∀ j, j < xs.length → xs.getD j 0 = ys.getD j 0) : xs = ys := by
  apply List.ext_getElem hl
  intro i h1 h2
  have := h i h1
  simpa [List.getD, List.getElem?_eq_getElem h1, List.getElem?_eq_getElem h2] using this

/-- cells of numbers, as rows of structs of one cell -/
def intE (z : Int) : List Value := [.int .i64 z]

theorem intE_len (z : Int) : (intE z).length = 1 := rfl

theorem flat_int (l : List Int) : flat intE l = intsOf l := by
  induction l with
  | nil => rfl
  | cons x l ih => rw [flat_cons, ih]; rfl

def HopsAt (W : World) (v : Value) (l : List Int) (B : Nat) : Prop := StructsAt intE 1 W v l B

theorem HopsAt.then {W W' : World} {v : Value} {l : List Int} (h : HopsAt W v l W.heap.size) (hb : Below W.heap.size W W') : HopsAt W' v l W'.heap.size := RowAt.then h hb

theorem HopsAt.shape {W : World} {v : Value} {l : List Int} {B : Nat} (h : HopsAt W v l B) : ∃ a cap, v = .slice a l.length cap := by obtain ⟨a, cap, h, _⟩ := h; exact ⟨a, cap, h⟩

theorem HopsAt.ints {W : World} {v : Value} {l : List Int} {B : Nat} (h : HopsAt W v l B) : IntsAt W v l B := by
  obtain ⟨a, cap, hv, h2⟩ := h
  refine ⟨a, cap, hv, ?_⟩
  rcases h2 with h0 | ⟨b, off, ha, hb, hx⟩
  · exact .inl h0
  · refine .inr ⟨b, off, ha, hb, fun j hj => ?_⟩
    rw [hx j hj, flat_int]
    have hj' : j < l.length := by omega
    simp [intsOf, intC, List.getD, List.getElem?_eq_getElem hj']

theorem HopsAt.cell {W : World} {v : Value} {l : List Int} {B : Nat} (h : HopsAt W v l B) (i : Nat) (z : Int) (hz : l[i]? = some z) : ∃ b off cap, v = .slice (some ⟨b, off, none⟩) l.length cap ∧ b < B ∧ W.cell? ⟨b, off + i, none⟩ = some (.int .i64 z) := by
  obtain ⟨b, off, cap, hv, hb, hc⟩ := StructsAt.cell h intE_len i z hz
  exact ⟨b, off, cap, hv, hb, by have := hc 0 _ rfl; simpa using this⟩

theorem hops_of {W : World} {base : Nat} {v : Value} {l : List Int} (h : W.ownsRow base 3 1 v l.length (flat intE l)) : HopsAt W v l W.heap.size := owns_rowAt h

end Go.Proofs.YtdaigojpeofmpaaGreat
namespace Go.Proofs.YtdaigojpeofmpaaGreat
open Go.RowKit

structure WayD where
  to : Int
  cost : Int
  hops : List Int
  deriving DecidableEq

def wayC (x : WayD) (v : Value) : Array Value := #[.int .i64 x.to, .int .i64 x.cost, v]

/-- the value v is the way x, whose row lies below B -/
def WayAt (W : World) (v : Value) (x : WayD) (B : Nat) : Prop := ∃ v1, v = .agg (wayC x v1) ∧ HopsAt W v1 x.hops B

theorem WayAt.then {W W' : World} {v : Value} {x : WayD} (h : WayAt W v x W.heap.size) (hb : Below W.heap.size W W') : WayAt W' v x W'.heap.size := by
  obtain ⟨v1, hv, h1⟩ := h
  exact ⟨v1, hv, h1.then hb⟩

end Go.Proofs.YtdaigojpeofmpaaGreat
namespace Go.Proofs.YtdaigojpeofmpaaGreat
open Go.RowKit

end Go.Proofs.YtdaigojpeofmpaaGreat
namespace Go.Proofs.YtdaigojpeofmpaaGreat
open Go.RowKit

set_option linter.unusedSimpArgs false

theorem intE_one (z : Int) : ∀ u ∈ intE z, u.oneCell' = true := by
  intro u hu
  simp [intE] at hu
  subst hu
  rfl

abbrev putW3 (W : World) (g : Nat) (x : WayD) (v : Value) : World := ((W.setCell ⟨g, 0, none⟩ (.int .i64 x.to)).setCell ⟨g, 1, none⟩ (.int .i64 x.cost)).setCell ⟨g, 2, none⟩ v

theorem finW3 {W : World} {B0 : Nat} {c0 c1 c2 : Value} (x : WayD) (v : Value) (hr : W.heap[B0]? = some (.cells #[c0, c1, c2] 73)) :
    (putW3 W B0 x v).heap[B0]? = some (.cells (wayC x v) 73) := by
  have k1 := heap_setCell_same _ _ 0 _ _ (.int .i64 x.to) hr
  have k2 := heap_setCell_same _ _ 1 _ _ (.int .i64 x.cost) k1
  have k3 := heap_setCell_same _ _ 2 _ _ v k2
  simp only [List.setIfInBounds_toArray, List.set_cons_zero, List.set_cons_succ] at k3
  unfold putW3 wayC
  exact k3

theorem grownW3 (W : World) (g : Nat) (x : WayD) (v : Value) : W.grownBy (putW3 W g x v) (some g) :=
  grown_trans (grown_trans (grown_set W g _ _) (grown_set _ g _ _)) (grown_set _ g _ _)

theorem int_flat1 (l : List Int) : (flat intE l).length = l.length * 1 := flat_len intE_len l

theorem own_litI (W : World) (g base : Nat) (hg : g = W.heap.size) (hb : base ≤ W.heap.size) : (W.alloc (.cells #[] 3)).ownsRow base 3 1 (.slice (some ⟨g, 0, none⟩) 0 0) 0 (flat intE []) := by
  subst hg
  exact World.ownsRow_lit W #[] 0 hb (by unfold maxLen; omega) (by simp)

set_option maxRecDepth 100000 in
set_option maxHeartbeats 1000000 in
theorem copyW_any (x : WayD) (v : Value) (base : Nat) (w : World) (ho : w.ownsRow base 3 1 v x.hops.length (flat intE x.hops)) (hn : x.hops.length ≤ 1048576) :
    Calls Tryz.prog 117 #[.agg (wayC x v)] w fun e w' => ∃ v', e = .returned (.agg (wayC x v')) ∧ w'.ownsRow w.heap.size 3 1 v' x.hops.length (flat intE x.hops) ∧ Below w.heap.size w w' := by
  obtain ⟨va, vc, rfl⟩ := owns_lenS ho
  have OW := hide ho
  clear ho
  go_enter Tryz.func117, Tryz.ntmps117
  unfold wayC
  go_wp2_with (first
    | (at_builtin; refine append_row5 int_flat1 (by omega) intE_one (by omega) _ rfl _ _ 28 rfl (w.heap.size + 2) 3 Tryz.underlying28 (.int .i64 0) rfl Tryz.info3 _ [] rfl ?own0 base _ x.hops rfl (((OW.out.alloc _).alloc _).alloc _) (by simp; omega) (by simp) ?_))
  case own0 =>
    exact own_litI _ _ _ (by simp) (by simp)
  intro v' w4 hown' hgrow
  obtain ⟨na, nc, rfl⟩ := owns_lenS hown'
  simp only [Value.ownBlock] at hgrow
  have hb4 : Below w.heap.size w w4 := ((((Below.refl w.heap.size w).alloc (by simp) _).alloc (by simp) _).alloc (by simp; omega) _).grown hgrow (by simp; omega) (fun k hk => by simp at hk; omega)
  have q0 : w4.heap[w.heap.size]? = some (.cells #[.int .i64 x.to, .int .i64 x.cost, .slice va x.hops.length vc] 73) := by
    rw [hgrow.block w.heap.size (by simp; omega) (by simp; omega), Below.heap_alloc _ _ _ (by simp; omega), Below.heap_alloc _ _ _ (by simp), heap_alloc_new]
  have q1 : w4.heap[w.heap.size + 1]? = some (.cells #[.int .i64 0, .int .i64 0, .slice none 0 0] 73) := by
    rw [hgrow.block (w.heap.size + 1) (by simp) (by simp), Below.heap_alloc _ _ _ (by simp)]
    have e := heap_alloc_new (w.alloc (.cells #[.int .i64 x.to, .int .i64 x.cost, .slice va x.hops.length vc] 73)) (.cells #[.int .i64 0, .int .i64 0, .slice none 0 0] 73)
    rw [show (w.alloc (.cells #[.int .i64 x.to, .int .i64 x.cost, .slice va x.hops.length vc] 73)).heap.size = w.heap.size + 1 by simp] at e
    exact e
  have r2 := cells_at q0 2
  have f0 := frozen_at q0
  simp at r2
  have q2 := heap_setCell_same w4 w.heap.size 2 _ _ (.slice na x.hops.length nc) q0
  simp only [List.setIfInBounds_toArray, List.set_cons_zero, List.set_cons_succ] at q2
  have q3 : (w4.setCell ⟨w.heap.size, 2, none⟩ (.slice na x.hops.length nc)).heap[w.heap.size + 1]? = some (.cells #[.int .i64 0, .int .i64 0, .slice none 0 0] 73) := by
    rw [heap_setCell_other w4 ⟨w.heap.size, 2, none⟩ _ _ (by show w.heap.size + 1 ≠ w.heap.size; omega)]; exact q1
  have y0 := cells_at q2 0
  have y1 := cells_at q2 1
  have y2 := cells_at q2 2
  simp at y0 y1 y2
  have u0 := cells_at q3 0
  have u1 := cells_at q3 1
  have u2 := cells_at q3 2
  simp at u0 u1 u2
  have fu := frozen_at q3
  have F := finW3 x (.slice na x.hops.length nc) q3
  have hown2 := owns_set (j := 2) (u := .slice na x.hops.length nc) hown' (show w.heap.size < w.heap.size + 2 by omega)
  have G8 := grownW3 (w4.setCell ⟨w.heap.size, 2, none⟩ (.slice na x.hops.length nc)) (w.heap.size + 1) x (.slice na x.hops.length nc)
  have hown3 := owns_baseS (b0 := w.heap.size) (hown2.kept G8 (by
    cases hv : (Value.slice na x.hops.length nc).ownBlock with
    | none => exact .inl rfl
    | some g => exact .inr (fun e => by have := (hown2.lt g hv).1; simp at e; omega))) (by omega)
  have hb5 : Below w.heap.size w (putW3 (w4.setCell ⟨w.heap.size, 2, none⟩ (.slice na x.hops.length nc)) (w.heap.size + 1) x (.slice na x.hops.length nc)) := (hb4.setCell (p := ⟨w.heap.size, 2, none⟩) (Nat.le_refl _) _).grown G8 (by have := lt_of_heap q3; omega) (fun k hk => by simp at hk; omega)
  have FF := hide F
  have H3 := hide hown3
  have H5 := hide hb5
  clear F hown3 hb5 hown2 G8 hb4 hown' hgrow q0 q1 q2 q3 OW
  go_wp2_with fail
  (try simp only [Exit.inBlock, Exit.then])
  refine bodyPost_ret (results_cell_row rfl _ _ (w.heap.size + 1) 73 (wayC _ _) (0, 0) _ rfl FF.out Tryz.underlying73 rfl (by kernel_rfl)) rfl ?_
  exact ⟨_, rfl, H3.out, H5.out⟩
end Go.Proofs.YtdaigojpeofmpaaGreat
namespace Go.Proofs.YtdaigojpeofmpaaGreat
open Go.RowKit

set_option linter.unusedSimpArgs false

theorem take_mem {l : List Int} {k : Nat} {z y : Int} (h : l[k]? = some y) (hn : z ∉ l.take k) (hz : z ≠ y) : z ∉ l.take (k + 1) := by
  obtain ⟨hk, e⟩ := List.getElem?_eq_some_iff.1 h
  rw [List.take_succ_eq_append_getElem hk, e]
  simp [hn, hz]

set_option maxRecDepth 100000 in
set_option maxHeartbeats 1000000 in
theorem sin_any (v : Value) (l : List Int) (z : Int) (w : World) (hn : l.length ≤ 1048576) (hv : HopsAt w v l w.heap.size) :
    Calls Tryz.prog 191 #[v, .int .i64 z] w fun e w' => e = .returned (.bool (decide (z ∈ l))) ∧ Below w.heap.size w w' := by
  obtain ⟨R, hR⟩ : ∃ R, R = decide (z ∈ l) := ⟨_, rfl⟩
  rw [← hR]
  have HR := hide hR
  clear hR
  obtain ⟨a, cap, rfl⟩ := hv.shape
  have HV := hide hv
  clear hv
  go_enter Tryz.func191, Tryz.ntmps191
  go_wp2
  go_loopw [5] (fun i wr => ∃ k : Nat, k ≤ l.length ∧ i = .int .i64 k ∧ Hid (z ∉ l.take k) ∧ Below w.heap.size w wr) (fun i _ => l.length - (intOf i).toNat)
  case atStart => exact ⟨0, by omega, rfl, hide (by simp), Below.refl _ _⟩
  case round =>
    obtain ⟨k, hk, rfl, HNO, hnx⟩ := hrel
    by_cases hlt : k < l.length
    · obtain ⟨y, hy⟩ : ∃ y, l[k]? = some y := ⟨l[k], List.getElem?_eq_getElem hlt⟩
      obtain ⟨b, off, cap', hve, hbb, c0⟩ := HV.out.cell k y hy
      cases hve
      rw [← hnx.cell (p := ⟨b, off + k, none⟩) hbb] at c0
      have hki : (0 : Int) ≤ (k : Int) := by omega
      have hkj : (k : Int) < (l.length : Int) := by omega
      by_cases hzy : z = y
      · subst hzy
        have HF := hide (show R = true by rw [HR.out]; exact decide_eq_true (List.mem_of_getElem? hy))
        clear hy
        go_wp2
        (try go_quiet (fail))
        (try go_wp2)
        go_ret
        exact ⟨ret_bool HF.out, by first | exact hnx | exact hnx.trans ⟨rfl, rfl, rfl, Nat.le_refl _, fun _ _ => rfl⟩⟩
      · have HN := hide (take_mem hy HNO.out hzy)
        have hyz : ¬ y = z := fun e => hzy e.symm
        have hd : (y == z) = false := by simpa using hyz
        clear hy
        go_wp2
        (try go_quiet (fail))
        (try go_wp2)
        go_roundw
        case rel => exact ⟨k + 1, by omega, by go_num, HN, by first | exact hnx | exact hnx.trans ⟨rfl, rfl, rfl, Nat.le_refl _, fun _ _ => rfl⟩⟩
        case measure => simp [intOf]; omega
    · have HF := hide (show R = false by
        rw [HR.out]
        have h := HNO.out
        rw [List.take_of_length_le (by omega)] at h
        exact decide_eq_false h)
      go_wp2
      go_ret
      exact ⟨ret_bool HF.out, hnx⟩

/-- the numbers of 1 .. k that stand in one of the two -/
def addT (a b : List Int) : Nat → List Int
  | 0 => []
  | k + 1 => addT a b k ++ (if (k : Int) + 1 ∈ a ∨ (k : Int) + 1 ∈ b then [(k : Int) + 1] else [])

def addL (a b : List Int) : List Int := addT a b 6

theorem addT_len (a b : List Int) (k : Nat) : (addT a b k).length ≤ k := by
  induction k with
  | zero => simp [addT]
  | succ k ih =>
    unfold addT
    rw [List.length_append]
    split <;> simp <;> omega

set_option maxRecDepth 100000 in
set_option maxHeartbeats 2000000 in
theorem sadd_any (v1 v2 : Value) (xs ys : List Int) (w : World) (hx : xs.length ≤ 1048576) (hy : ys.length ≤ 1048576) (h1 : HopsAt w v1 xs w.heap.size) (h2 : HopsAt w v2 ys w.heap.size) :
    Calls Tryz.prog 121 #[v1, v2] w fun e w' => ∃ x, e = .returned x ∧ w'.ownsRow w.heap.size 3 1 x (addL xs ys).length (flat intE (addL xs ys)) ∧ Below w.heap.size w w' := by
  obtain ⟨a1, c1, rfl⟩ := h1.shape
  obtain ⟨a2, c2, rfl⟩ := h2.shape
  have HI1 := hide (fun z W (hb : Below w.heap.size w W) => sin_any (.slice a1 xs.length c1) xs z W hx ((RowAt.later h1 hb (Nat.le_refl _)).more hb.size))
  have HI2 := hide (fun z W (hb : Below w.heap.size w W) => sin_any (.slice a2 ys.length c2) ys z W hy ((RowAt.later h2 hb (Nat.le_refl _)).more hb.size))
  have O0 := hide (own_litI w w.heap.size w.heap.size rfl (Nat.le_refl _))
  have B0 : Below w.heap.size w (w.alloc (.cells #[] 3)) := (Below.refl _ _).alloc (Nat.le_refl _) _
  clear h1 h2
  go_enter Tryz.func121, Tryz.ntmps121
  go_wp2
  generalize w.alloc (.cells #[] 3) = w0 at *
  go_loopw [6, 5] (fun i o wr => ∃ (k : Nat) (l : List Int) (u : Value), k ≤ 6 ∧ i = .int .i64 ((k : Int) + 1) ∧ o = u ∧ Hid (l = addT xs ys k) ∧ wr.ownsRow w.heap.size 3 1 u l.length (flat intE l) ∧ Below w.heap.size w wr) (fun i _ _ => 8 - (intOf i).toNat)
  case atStart => exact ⟨0, [], _, by omega, rfl, rfl, hide rfl, O0.out, B0⟩
  case round =>
    obtain ⟨k, l, u, hk, rfl, rfl, HL, hown, hnx⟩ := hrel
    obtain ⟨ua, uc, rfl⟩ := owns_lenS hown
    have hsz := hnx.size
    have hll : l.length ≤ 6 := by rw [HL.out]; have := addT_len xs ys k; omega
    have OW := hide hown
    clear hown
    by_cases hlt : k < 6
    · have hk6 : (k : Int) + 1 ≤ 6 := by omega
      have hw1 : IntKind.i64.wrap ((k : Int) + 1 + 1) = ((k + 1 : Nat) : Int) + 1 := by rw [wrap_fit _ (by omega) (by omega)]; omega
      obtain ⟨P, hP⟩ : ∃ P, P = decide ((k : Int) + 1 ∈ xs) := ⟨_, rfl⟩
      obtain ⟨Q, hQ⟩ : ∃ Q, Q = decide ((k : Int) + 1 ∈ ys) := ⟨_, rfl⟩
      have H1 := HI1.out ((k : Int) + 1)
      have H2 := HI2.out ((k : Int) + 1)
      rw [← hP] at H1
      rw [← hQ] at H2
      have J1 := hide H1
      have J2 := hide H2
      have HST := hide (show addT xs ys (k + 1) = l ++ (if P = true ∨ Q = true then [(k : Int) + 1] else []) by
        rw [HL.out, hP, hQ]
        simp [addT])
      clear H1 H2 hP hQ HI1 HI2
      cases P
      · go_wp2_with fail
        refine (J1.out _ hnx).mono ?_
        rintro e w2 ⟨rfl, b2⟩
        have b2s := b2.size
        go_wp2_with fail
        refine (J2.out _ (hnx.trans (b2.mono hsz))).mono ?_
        rintro e w3 ⟨rfl, b3⟩
        have b3s := b3.size
        have B3 : Below wr.heap.size wr w3 := b2.trans (b3.mono b2s)
        clear b2 b3
        cases Q
        · have HN := hide (show l = addT xs ys (k + 1) by rw [HST.out]; simp)
          have OW3 := hide (owns_below OW.out B3 (Nat.le_refl _))
          go_wp2
          go_roundw
          case rel => exact ⟨k + 1, l, _, by omega, rfl, rfl, HN, OW3.out, hnx.trans (B3.mono hsz)⟩
          case measure => simp [intOf]; omega
        · have HN := hide (show l ++ [(k : Int) + 1] = addT xs ys (k + 1) by rw [HST.out]; simp)
          go_wp2_with (first
            | (at_builtin; refine append_struct5 intE_len (by omega) (by omega) _ rfl _ _ 28 rfl w.heap.size 3 Tryz.underlying28 (.int .i64 0) rfl Tryz.info3 _ l ((k : Int) + 1) (intE_one _) rfl ((owns_below OW.out B3 (Nat.le_refl _)).alloc _) ⟨w3.heap.size, 0, none⟩ 1 rfl (news_struct (cs := intE ((k : Int) + 1))) (by omega) (by simp; omega) ?_))
          intro v' w4 hown' hgrow
          obtain ⟨va, vc, rfl⟩ := owns_lenS hown'
          have B4 : Below w.heap.size w w4 := ((hnx.trans (B3.mono hsz)).alloc (by omega) _).grown hgrow (by simp; omega) (fun j hj => (OW.out.lt j hj).1)
          have OW4 := hide hown'
          clear hown' hgrow
          go_wp2
          go_roundw
          case rel => exact ⟨k + 1, l ++ [(k : Int) + 1], _, by omega, rfl, rfl, HN, (by simpa using OW4.out), B4⟩
          case measure => simp [intOf]; omega
      · have HN := hide (show l ++ [(k : Int) + 1] = addT xs ys (k + 1) by rw [HST.out]; simp)
        go_wp2_with fail
        refine (J1.out _ hnx).mono ?_
        rintro e w3 ⟨rfl, B3⟩
        have b3s := B3.size
        go_wp2_with (first
          | (at_builtin; refine append_struct5 intE_len (by omega) (by omega) _ rfl _ _ 28 rfl w.heap.size 3 Tryz.underlying28 (.int .i64 0) rfl Tryz.info3 _ l ((k : Int) + 1) (intE_one _) rfl ((owns_below OW.out B3 (Nat.le_refl _)).alloc _) ⟨w3.heap.size, 0, none⟩ 1 rfl (news_struct (cs := intE ((k : Int) + 1))) (by omega) (by simp; omega) ?_))
        intro v' w4 hown' hgrow
        obtain ⟨va, vc, rfl⟩ := owns_lenS hown'
        have B4 : Below w.heap.size w w4 := ((hnx.trans (B3.mono hsz)).alloc (by omega) _).grown hgrow (by simp; omega) (fun j hj => (OW.out.lt j hj).1)
        have OW4 := hide hown'
        clear hown' hgrow
        go_wp2
        go_roundw
        case rel => exact ⟨k + 1, l ++ [(k : Int) + 1], _, by omega, rfl, rfl, HN, (by simpa using OW4.out), B4⟩
        case measure => simp [intOf]; omega
    · have hk6 : ¬ (k : Int) + 1 ≤ 6 := by omega
      have KN := hide (show l = addL xs ys by rw [HL.out, show k = 6 by omega]; rfl)
      go_wp2
      go_ret
      have h := OW.out
      rw [KN.out] at h
      exact ⟨_, by rw [KN.out]; rfl, h, hnx⟩
end Go.Proofs.YtdaigojpeofmpaaGreat
