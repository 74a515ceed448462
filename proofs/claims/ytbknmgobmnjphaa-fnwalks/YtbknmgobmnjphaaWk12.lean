/-
  spec.Merge: its contract.
  slices.BinarySearchFunc at lists of records: its contract.
  A record put into a list in order: the plain mathematics.
  spec.l08With: its contract.
  What is within several areas: the sets of ways; lists under way.
  What is beyond: the sets of ways that records tell of.
  What a border tells into an area: the records, determined by the sets of ways.
-/
import Derived.Test.YtbknmgobmnjphaaWk10
import Derived.Test.YtbknmgobmnjphaaWk11
import Derived.Test.YtbknmgobmnjphaaWk2
import Derived.Test.YtbknmgobmnjphaaWk6
import Derived.Test.YtbknmgobmnjphaaWk8
namespace Go.Proofs.Ytbknmgobmnjphaa
open Go.RowKit

set_option linter.unusedSimpArgs false

theorem tot_filt (f : RP → Bool) (ps : List RP) : tot (ps.filter f) ≤ tot ps := by
  induction ps with
  | nil => simp [tot]
  | cons p ps ih =>
    rw [List.filter_cons]
    split
    · rw [tot_cons, tot_cons]; omega
    · rw [tot_cons]; omega

/-- of each record one of the three holds at most -/
theorem tot_two (f g : RP → Bool) (hfg : ∀ p, f p = true → g p = false) (ps : List RP) : tot (ps.filter f) + tot (ps.filter g) ≤ tot ps := by
  induction ps with
  | nil => simp [tot]
  | cons p ps ih =>
    have := hfg p
    by_cases hf : f p = true
    · have hg := this hf
      simp only [List.filter_cons, hf, hg, if_true, Bool.false_eq_true, if_false, tot_cons]
      omega
    · have hf' : f p = false := by simpa using hf
      by_cases hg : g p = true
      · simp only [List.filter_cons, hf', hg, if_true, Bool.false_eq_true, if_false, tot_cons]
        omega
      · have hg' : g p = false := by simpa using hg
        simp only [List.filter_cons, hf', hg', Bool.false_eq_true, if_false, tot_cons]
        omega

theorem before_asym {x y : RecD} (h : beforeB x y = true) : beforeB y x = false := by
  unfold beforeB at *
  simp only [Bool.or_eq_true, Bool.and_eq_true, decide_eq_true_eq, beq_iff_eq] at h
  simp only [Bool.or_eq_false_iff, Bool.and_eq_false_iff, decide_eq_false_iff_not, beq_eq_false_iff_ne]
  omega

theorem tot_put (ps : List RP) (r : RP) : tot (putL ps r) ≤ tot ps + (1 + r.1.near.length) := by
  unfold putL
  rw [tot_append, tot_append]
  have h := tot_two (fun p => beforeB p.1 r.1) (fun p => beforeB r.1 p.1) (fun p hp => before_asym hp) ps
  have e : tot [r] = 1 + r.1.near.length := by simp [tot]
  omega

end Go.Proofs.Ytbknmgobmnjphaa
namespace Go.Proofs.Ytbknmgobmnjphaa
open Go.RowKit

set_option linter.unusedSimpArgs false

end Go.Proofs.Ytbknmgobmnjphaa
namespace Go.Proofs.Ytbknmgobmnjphaa
open Go.RowKit

theorem bef_trans {x y z : RecD} (h1 : beforeB x y = true) (h2 : beforeB y z = true) : beforeB x z = true := by
  unfold beforeB at *
  simp only [Bool.or_eq_true, Bool.and_eq_true, decide_eq_true_eq, beq_iff_eq] at *
  omega

theorem bef_irrefl_same {x y : RecD} (h1 : sameKeyB x y = true) : beforeB x y = false ∧ beforeB y x = false := by
  unfold beforeB sameKeyB at *
  simp only [Bool.or_eq_false_iff, Bool.and_eq_false_iff, decide_eq_false_iff_not, beq_eq_false_iff_ne, Bool.and_eq_true, beq_iff_eq] at *
  omega

/-- in order -/
def Asc (xs : List RecD) : Prop := xs.Pairwise (fun x y => beforeB x y = true)

theorem asc_back {xs : List RecD} (h : Asc xs) : ascB ordR xs = true := by
  unfold Asc at h
  rw [List.pairwise_iff_getElem] at h
  refine all_true fun j hj => ?_
  cases j with
  | zero => rfl
  | succ k =>
    rw [ascAt_eq (List.getElem?_eq_getElem (by omega)) (List.getElem?_eq_getElem hj), ordR_neg]
    exact h k (k + 1) (by omega) hj (by omega)

/-- what l05Put makes of keys in order -/
def putD (xs : List RecD) (r : RecD) : List RecD := xs.filter (fun x => beforeB x r) ++ [r] ++ xs.filter (fun x => beforeB r x)

theorem putL_fsts (ps : List RP) (r : RP) : fsts (putL ps r) = putD (fsts ps) r.1 := by
  unfold putL putD fsts
  simp [List.filter_map, Function.comp_def]

section
variable {xs : List RecD} {r : RecD} {i : Nat}

end
end Go.Proofs.Ytbknmgobmnjphaa
namespace Go.Proofs.Ytbknmgobmnjphaa
open Go.RowKit

set_option linter.unusedSimpArgs false

/-- a Seq of 0 is 1 -/
def seq1 (r : RecD) : RecD := if r.seq = 0 then { r with seq := 1 } else r

/-- a store with records in the place of those with their keys -/
def withD (xs ts : List RecD) : List RecD := ts.foldl (fun a r => putD a (seq1 r)) xs

theorem withD_step {xs ts : List RecD} {k : Nat} {r : RecD} (h : ts[k]? = some r) : withD xs (ts.take (k + 1)) = putD (withD xs (ts.take k)) (seq1 r) := by
  obtain ⟨hk, e⟩ := List.getElem?_eq_some_iff.1 h
  unfold withD
  rw [List.take_succ_eq_append_getElem hk, e, List.foldl_append]
  rfl

theorem tot_takeK {ts : List RP} {k : Nat} {p : RP} (h : ts[k]? = some p) : tot (ts.take (k + 1)) = tot (ts.take k) + (1 + p.1.near.length) := by
  obtain ⟨hk, e⟩ := List.getElem?_eq_some_iff.1 h
  rw [List.take_succ_eq_append_getElem hk, tot_append, e]
  simp [tot]

theorem tot_takeL (ts : List RP) (k : Nat) : tot (ts.take k) ≤ tot ts := by
  have h := tot_append (ts.take k) (ts.drop k)
  rw [List.take_append_drop] at h
  omega

set_option maxRecDepth 100000 in
set_option maxHeartbeats 4000000 in
theorem with_any (v v2 : Value) (ps ts : List RP) (hi : Nat) (w : World) (hv : RecsIn w hi v ps) (ht : RecsIn w hi v2 ts) (hhi : hi ≤ w.heap.size) (hn : tot ps + tot ts ≤ 1048576) :
    Calls Try.prog 44 #[v, v2] w fun e w' => ∃ x qs, e = .returned x ∧ fsts qs = withD (fsts ps) (fsts ts) ∧ RecsIn w' w'.heap.size x qs ∧ tot qs ≤ tot ps + tot ts ∧ Below w.heap.size w w' := by
  have htl := tot_len ts
  obtain ⟨a1, c1, rfl⟩ := owns_lenS hv.row
  obtain ⟨a2, c2, rfl⟩ := owns_lenS ht.row
  have HT := hide ht
  have HV0 := hide (hv.wide hhi)
  clear hv ht
  go_enter Try.func44, Try.ntmps44
  go_wp2
  go_loopw [6, 5] (fun i o wr => ∃ (k : Nat) (x : Value) (qs : List RP), k ≤ ts.length ∧ i = .int .i64 (k : Int) ∧ o = x ∧ RecsIn wr wr.heap.size x qs ∧ Hid (fsts qs = withD (fsts ps) ((fsts ts).take k)) ∧ tot qs ≤ tot ps + tot (ts.take k) ∧ Below w.heap.size w wr) (fun i _ _ => ts.length - (intOf i).toNat)
  case atStart => exact ⟨0, _, ps, by omega, rfl, rfl, HV0.out, hide (by simp [withD]), by omega, Below.refl _ _⟩
  case round =>
    obtain ⟨k, x, qs, hk, rfl, rfl, hin, HF, htq, hnx⟩ := hrel
    clear HV0
    obtain ⟨xa, xc, rfl⟩ := owns_lenS hin.row
    have hsz := hnx.size
    by_cases hlt : k < ts.length
    · obtain ⟨p, hp⟩ : ∃ p, ts[k]? = some p := ⟨ts[k], List.getElem?_eq_getElem hlt⟩
      obtain ⟨bb, off, cap', hve, hbb, c0, c1, c2, c3, c4, c5, c6, c7, hnr⟩ := HT.out.at.cells k p hp
      cases hve
      obtain ⟨pa, pc, hpn⟩ := NearsAt.shape hnr
      rw [hpn] at c5
      rw [← hnx.cell (p := ⟨bb, off + k * 8, none⟩) (Nat.lt_of_lt_of_le hbb hhi)] at c0
      rw [← hnx.cell (p := ⟨bb, off + k * 8 + 1, none⟩) (Nat.lt_of_lt_of_le hbb hhi)] at c1
      rw [← hnx.cell (p := ⟨bb, off + k * 8 + 2, none⟩) (Nat.lt_of_lt_of_le hbb hhi)] at c2
      rw [← hnx.cell (p := ⟨bb, off + k * 8 + 3, none⟩) (Nat.lt_of_lt_of_le hbb hhi)] at c3
      rw [← hnx.cell (p := ⟨bb, off + k * 8 + 4, none⟩) (Nat.lt_of_lt_of_le hbb hhi)] at c4
      rw [← hnx.cell (p := ⟨bb, off + k * 8 + 5, none⟩) (Nat.lt_of_lt_of_le hbb hhi)] at c5
      rw [← hnx.cell (p := ⟨bb, off + k * 8 + 6, none⟩) (Nat.lt_of_lt_of_le hbb hhi)] at c6
      rw [← hnx.cell (p := ⟨bb, off + k * 8 + 7, none⟩) (Nat.lt_of_lt_of_le hbb hhi)] at c7
      have htk := tot_takeK hp
      have htl2 := tot_takeL ts (k + 1)
      have hno0 := HT.out.nears p (List.mem_of_getElem? hp)
      have hno1 : NearOwn wr 0 wr.heap.size p := (hno0.keep (W' := wr) (fun j _ h2 _ => hnx.block j (by omega))).wide (Nat.le_refl _) (by omega)
      have hpe : p = (p.1, .slice pa p.1.near.length pc) := by rw [← hpn]
      have hki : (0 : Int) ≤ (k : Int) := by omega
      have hkj : (k : Int) < (ts.length : Int) := by omega
      by_cases hs0 : p.1.seq = 0
      · have hd : (p.1.seq == 0) = true := by simpa using hs0
        have hse : seq1 p.1 = { p.1 with seq := 1 } := by unfold seq1; rw [if_pos hs0]
        have hno : NearOwn wr 0 wr.heap.size ({ p.1 with seq := 1 }, .slice pa p.1.near.length pc) := by rw [hpe] at hno1; exact hno1
        clear hs0 hpe hno0 hno1 hnr hpn
        have BA : Below wr.heap.size wr (wr.alloc (.cells #[.int .i64 p.1.area, .int .i64 p.1.kind, .int .i64 p.1.owner, .int .i64 p.1.key, .int .i64 1, .slice pa p.1.near.length pc, .int .i64 p.1.cost, .bool p.1.far] 55)) := (Below.refl _ _).alloc (Nat.le_refl _) _
        have hno2 : NearOwn (wr.alloc (.cells #[.int .i64 p.1.area, .int .i64 p.1.kind, .int .i64 p.1.owner, .int .i64 p.1.key, .int .i64 1, .slice pa p.1.near.length pc, .int .i64 p.1.cost, .bool p.1.far] 55)) 0 (wr.alloc (.cells #[.int .i64 p.1.area, .int .i64 p.1.kind, .int .i64 p.1.owner, .int .i64 p.1.key, .int .i64 1, .slice pa p.1.near.length pc, .int .i64 p.1.cost, .bool p.1.far] 55)).heap.size ({ p.1 with seq := 1 }, .slice pa p.1.near.length pc) := (hno.keep (W' := (wr.alloc (.cells #[.int .i64 p.1.area, .int .i64 p.1.kind, .int .i64 p.1.owner, .int .i64 p.1.key, .int .i64 1, .slice pa p.1.near.length pc, .int .i64 p.1.cost, .bool p.1.far] 55))) (fun j _ _ h3 => BA.block j h3)).wide (Nat.le_refl _) BA.size
        have HP := hide (put_any (.slice xa qs.length xc) qs (wr.alloc (.cells #[.int .i64 p.1.area, .int .i64 p.1.kind, .int .i64 p.1.owner, .int .i64 p.1.key, .int .i64 1, .slice pa p.1.near.length pc, .int .i64 p.1.cost, .bool p.1.far] 55)).heap.size ({ p.1 with seq := 1 }, .slice pa p.1.near.length pc) (wr.alloc (.cells #[.int .i64 p.1.area, .int .i64 p.1.kind, .int .i64 p.1.owner, .int .i64 p.1.key, .int .i64 1, .slice pa p.1.near.length pc, .int .i64 p.1.cost, .bool p.1.far] 55)) ((hin.below BA (Nat.le_refl _)).wide BA.size) (Nat.le_refl _) (by omega) hno2)
        have HF2 := hide (show fsts (putL qs ({ p.1 with seq := 1 }, .slice pa p.1.near.length pc)) = withD (fsts ps) ((fsts ts).take (k + 1)) by
          rw [putL_fsts, withD_step (fsts_at hp), ← HF.out, hse])
        have htp := tot_put qs ({ p.1 with seq := 1 }, .slice pa p.1.near.length pc)
        have HB := hide (hnx.trans (BA.mono hnx.size))
        have HTK := hide htk
        have htp2 : tot (putL qs ({ p.1 with seq := 1 }, .slice pa p.1.near.length pc)) ≤ tot qs + (1 + p.1.near.length) := htp
        obtain ⟨Q, hQ⟩ : ∃ Q, Q = putL qs ({ p.1 with seq := 1 }, .slice pa p.1.near.length pc) := ⟨_, rfl⟩
        rw [← hQ] at HP HF2 htp2
        unfold recC at HP
        simp only [] at HP
        clear hno hno2 hin hse htp hp HF htk hQ
        go_wp2_with fail
        refine HP.out.mono ?_
        rintro e w2 ⟨y, rfl, hy, b2⟩
        obtain ⟨ya, yc, rfl⟩ := owns_lenS hy.row
        have HY := hide hy
        have HB2 := hide (HB.out.trans (b2.mono HB.out.size))
        clear hy b2 HP HB BA
        go_wp2
        go_roundw
        case rel => exact ⟨k + 1, _, Q, by omega, by go_num, rfl, HY.out, HF2, by have := HTK.out; omega, HB2.out⟩
        case measure => simp [intOf]; omega
      · have hd : (p.1.seq == 0) = false := by simpa using hs0
        have hse : seq1 p.1 = p.1 := by unfold seq1; rw [if_neg hs0]
        have hno : NearOwn wr 0 wr.heap.size (p.1, .slice pa p.1.near.length pc) := by rw [hpe] at hno1; exact hno1
        clear hs0 hpe hno0 hno1 hnr hpn
        have BA : Below wr.heap.size wr (wr.alloc (.cells #[.int .i64 p.1.area, .int .i64 p.1.kind, .int .i64 p.1.owner, .int .i64 p.1.key, .int .i64 p.1.seq, .slice pa p.1.near.length pc, .int .i64 p.1.cost, .bool p.1.far] 55)) := (Below.refl _ _).alloc (Nat.le_refl _) _
        have hno2 : NearOwn (wr.alloc (.cells #[.int .i64 p.1.area, .int .i64 p.1.kind, .int .i64 p.1.owner, .int .i64 p.1.key, .int .i64 p.1.seq, .slice pa p.1.near.length pc, .int .i64 p.1.cost, .bool p.1.far] 55)) 0 (wr.alloc (.cells #[.int .i64 p.1.area, .int .i64 p.1.kind, .int .i64 p.1.owner, .int .i64 p.1.key, .int .i64 p.1.seq, .slice pa p.1.near.length pc, .int .i64 p.1.cost, .bool p.1.far] 55)).heap.size (p.1, .slice pa p.1.near.length pc) := (hno.keep (W' := (wr.alloc (.cells #[.int .i64 p.1.area, .int .i64 p.1.kind, .int .i64 p.1.owner, .int .i64 p.1.key, .int .i64 p.1.seq, .slice pa p.1.near.length pc, .int .i64 p.1.cost, .bool p.1.far] 55))) (fun j _ _ h3 => BA.block j h3)).wide (Nat.le_refl _) BA.size
        have HP := hide (put_any (.slice xa qs.length xc) qs (wr.alloc (.cells #[.int .i64 p.1.area, .int .i64 p.1.kind, .int .i64 p.1.owner, .int .i64 p.1.key, .int .i64 p.1.seq, .slice pa p.1.near.length pc, .int .i64 p.1.cost, .bool p.1.far] 55)).heap.size (p.1, .slice pa p.1.near.length pc) (wr.alloc (.cells #[.int .i64 p.1.area, .int .i64 p.1.kind, .int .i64 p.1.owner, .int .i64 p.1.key, .int .i64 p.1.seq, .slice pa p.1.near.length pc, .int .i64 p.1.cost, .bool p.1.far] 55)) ((hin.below BA (Nat.le_refl _)).wide BA.size) (Nat.le_refl _) (by omega) hno2)
        have HF2 := hide (show fsts (putL qs (p.1, .slice pa p.1.near.length pc)) = withD (fsts ps) ((fsts ts).take (k + 1)) by
          rw [putL_fsts, withD_step (fsts_at hp), ← HF.out, hse])
        have htp := tot_put qs (p.1, .slice pa p.1.near.length pc)
        have HB := hide (hnx.trans (BA.mono hnx.size))
        have HTK := hide htk
        have htp2 : tot (putL qs (p.1, .slice pa p.1.near.length pc)) ≤ tot qs + (1 + p.1.near.length) := htp
        obtain ⟨Q, hQ⟩ : ∃ Q, Q = putL qs (p.1, .slice pa p.1.near.length pc) := ⟨_, rfl⟩
        rw [← hQ] at HP HF2 htp2
        unfold recC at HP
        simp only [] at HP
        clear hno hno2 hin hse htp hp HF htk hQ
        go_wp2_with fail
        refine HP.out.mono ?_
        rintro e w2 ⟨y, rfl, hy, b2⟩
        obtain ⟨ya, yc, rfl⟩ := owns_lenS hy.row
        have HY := hide hy
        have HB2 := hide (HB.out.trans (b2.mono HB.out.size))
        clear hy b2 HP HB BA
        go_wp2
        go_roundw
        case rel => exact ⟨k + 1, _, Q, by omega, by go_num, rfl, HY.out, HF2, by have := HTK.out; omega, HB2.out⟩
        case measure => simp [intOf]; omega
    · have hkn : ¬ (k : Int) < (ts.length : Int) := by omega
      have HE := hide (show fsts qs = withD (fsts ps) (fsts ts) by have h := HF.out; rw [List.take_of_length_le (by simp [fsts]; omega)] at h; exact h)
      have HI := hide hin
      have hq : tot qs ≤ tot ps + tot ts := by have := tot_takeL ts k; omega
      clear hin HF
      go_wp2
      go_ret
      first
        | exact ⟨_, qs, rfl, HE.out, HI.out, hq, hnx⟩
        | exact ⟨_, rfl, qs, HE.out, HI.out, hq, hnx⟩
end Go.Proofs.Ytbknmgobmnjphaa
namespace Go.Proofs.Ytbknmgobmnjphaa
open Go.RowKit

/-- a way to a node within one of the areas -/
def withinS (xs : List RecD) (al : List Int) (src : Int) (to : Int) (w : WayD) : Prop := w.to = to ∧ ∃ a ∈ al, w ∈ waysD xs a src

theorem withinS_good {xs : List RecD} {al : List Int} {src to : Int} {w : WayD} (h : withinS xs al src to w) : GoodW w ∧ w.to = to := by
  obtain ⟨h1, a, _, h2⟩ := h
  exact ⟨((waysD_asc xs a src).2 w h2).1, h1⟩

/-- only areas have ways -/
theorem waysD_area {xs : List RecD} {a src : Int} {w : WayD} (h : w ∈ waysD xs a src) : storeB xs = true ∧ 0 ≤ a ∧ a < 3 := by
  by_cases he : ∃ ds, IsWays xs a src ds
  · obtain ⟨ds, hd⟩ := he
    rw [← hd.eq] at h
    unfold IsWays at hd
    split at hd
    · rename_i e
      simp only [Bool.and_eq_true] at e
      obtain ⟨⟨e1, _⟩, e3⟩ := e
      refine ⟨e1, ?_⟩
      unfold nodeB findB at e3
      rcases atZ_cases xs (nodeR a src) with hz | ⟨j, y, hz, hy, hs⟩
      · rw [hz] at e3; simp at e3
      · have hm : y ∈ xs := List.mem_of_getElem? hy
        unfold storeB at e1
        simp only [Bool.and_eq_true] at e1
        have hok := allOk_mem e1.1.2 hm
        simp only [sameKeyB, nodeR, Bool.and_eq_true, beq_iff_eq] at hs
        obtain ⟨⟨⟨s1, s2⟩, _⟩, _⟩ := hs
        unfold recOkB at hok
        rw [if_pos s2] at hok
        simp only [Bool.and_eq_true, inB, decide_eq_true_eq] at hok
        omega
    · rw [hd] at h; cases h
  · unfold waysD at h
    rw [dif_neg he] at h
    cases h

/-- one area more -/
theorem withinS_step {xs : List RecD} {al : List Int} {src a : Int} {k : Nat} (h : al[k]? = some a) (to : Int) (w : WayD) : withinS xs (al.take (k + 1)) src to w ↔ withinS xs (al.take k) src to w ∨ (w.to = to ∧ w ∈ waysD xs a src) := by
  obtain ⟨hk, e⟩ := List.getElem?_eq_some_iff.1 h
  unfold withinS
  rw [List.take_succ_eq_append_getElem hk, e]
  constructor
  · rintro ⟨h1, b, h2, h3⟩
    rcases List.mem_append.1 h2 with h4 | h4
    · exact .inl ⟨h1, b, h4, h3⟩
    · have : b = a := by simpa using h4
      subst this
      exact .inr ⟨h1, h3⟩
  · rintro (⟨h1, b, h2, h3⟩ | ⟨h1, h3⟩)
    · exact ⟨h1, b, List.mem_append.2 (.inl h2), h3⟩
    · exact ⟨h1, a, List.mem_append.2 (.inr (by simp)), h3⟩

/-- no ways yet -/
theorem isBest_none {S : Int → WayD → Prop} (h : ∀ to w, ¬ S to w) : IsBest S [] := ⟨by simp [AscW], fun to => h to⟩

/-- the best way to node t, put at the end of those to the nodes below t -/
theorem IsBest.push {S : Int → WayD → Prop} {ds : List WayD} {t : Int} {b : WayD} (h : IsBest (fun to w => to < t ∧ S to w) ds) (hb : BestOf t (S t) (some b)) : IsBest (fun to w => to < t + 1 ∧ S to w) (ds ++ [b]) := by
  have hlt : ∀ w ∈ ds, w.to < t := by
    intro w hw
    have h1 := h.2 w.to
    rw [findW_of h.1 hw] at h1
    obtain ⟨_, ⟨u, hu, _⟩, _⟩ := h1
    exact hu.1
  have hbt : b.to = t := hb.1
  have hasc : AscW (ds ++ [b]) := by
    unfold AscW
    rw [List.pairwise_append]
    refine ⟨h.1, by simp, fun x hx y hy => ?_⟩
    have : y = b := by simpa using hy
    subst this
    rw [hbt]
    exact hlt x hx
  refine ⟨hasc, fun to => ?_⟩
  by_cases e : to = t
  · subst e
    have hf : findW (ds ++ [b]) b.to = some b := findW_of hasc (by simp)
    rw [hbt] at hf
    rw [hf]
    refine hb.congr (fun w => ⟨fun hw => ⟨by omega, hw⟩, fun hw => hw.2⟩)
  · have hf : findW (ds ++ [b]) to = findW ds to := by
      unfold findW
      rw [List.find?_append]
      cases e2 : ds.find? (fun x => x.to == to) with
      | some w => rfl
      | none =>
        simp only [Option.none_or, List.find?_cons, List.find?_nil]
        have : (b.to == to) = false := by rw [hbt]; simpa using fun h => e h.symm
        rw [this]
    rw [hf]
    refine (h.2 to).congr (fun w => ⟨fun hw => ⟨by omega, hw.2⟩, fun hw => ⟨by have := hw.1; omega, hw.2⟩⟩)

theorem IsBest.skip {S : Int → WayD → Prop} {ds : List WayD} {t : Int} (h : IsBest (fun to w => to < t ∧ S to w) ds) (hb : BestOf t (S t) none) : IsBest (fun to w => to < t + 1 ∧ S to w) ds := by
  refine h.congr (fun to w => ⟨fun hw => ⟨by omega, hw.2⟩, fun hw => ⟨?_, hw.2⟩⟩)
  have h1 := hw.1
  by_cases e : to = t
  · subst e; exact absurd hw.2 (hb w)
  · omega

/-- what wayTo tells of such a list -/
theorem wayTo_find (ds : List WayD) (to : Int) : (wayToB ds to = true ∧ findW ds to = some (wayToD ds to)) ∨ (wayToB ds to = false ∧ findW ds to = none) := by
  unfold wayToB wayToD findW
  cases e : ds.find? (fun x => x.to == to) with
  | none => exact .inr ⟨rfl, rfl⟩
  | some w => exact .inl ⟨rfl, rfl⟩

/-- one area more, one node: what is found there -/
theorem bestOf_area {tog : WayD → WayD → WayD} (ht : TogOk tog) {xs : List RecD} {al : List Int} {src a t : Int} {k : Nat} {o : Option WayD} (h : al[k]? = some a) (hb : BestOf t (withinS xs (al.take k) src t) o) :
    BestOf t (withinS xs (al.take (k + 1)) src t) (moreW tog o (findW (waysD xs a src) t)) := by
  have hw := waysD_asc xs a src
  cases e : findW (waysD xs a src) t with
  | none =>
    refine BestOf.congr hb (fun w => ?_)
    rw [withinS_step h]
    constructor
    · exact .inl
    · rintro (h1 | ⟨h1, h2⟩)
      · exact h1
      · exact absurd h1 (findW_none e w h2)
  | some r =>
    have hr := findW_some e
    have hg := (hw.2 r hr.1).1
    refine (hb.add ht (fun w hw => (withinS_good hw).1.hop6) hr.2 hg.asc hg.hop6).congr (fun w => ?_)
    rw [withinS_step h]
    constructor
    · rintro (h1 | h1)
      · exact .inl h1
      · subst h1; exact .inr ⟨hr.2, hr.1⟩
    · rintro (h1 | ⟨h1, h2⟩)
      · exact .inl h1
      · exact .inr (ascW_same hw.1 h2 hr.1 (by rw [h1, hr.2]))

/-- a row that lies in none of the blocks lo .. hi -/
def Off (x : Value) (lo hi : Nat) : Prop := ∀ b, x.ownBlock = some b → b < lo ∨ hi ≤ b

theorem Off.kept {x : Value} {lo hi : Nat} (h : Off x lo hi) {W W' : World} (hg : W.grownBy W' x.ownBlock) : ∀ k, lo ≤ k → k < hi → k < W.heap.size → W'.heap[k]? = W.heap[k]? :=
  fun k h1 h2 h3 => hg.block k h3 (fun e => by have := h k e.symm; omega)

theorem Off.next {x x' : Value} {lo hi B : Nat} (h : Off x lo hi) (hn : ∀ b, x'.ownBlock = some b → x.ownBlock = some b ∨ B ≤ b) (hB : hi ≤ B) : Off x' lo hi := fun b hb => by
  rcases hn b hb with h1 | h1
  · exact h b h1
  · omega
end Go.Proofs.Ytbknmgobmnjphaa
namespace Go.Proofs.Ytbknmgobmnjphaa
open Go.RowKit

/-- what a record of an area tells of beyond -/
def tellsOf (xs : List RecD) (area src : Int) (r : RecD) (d : WayD) : Prop :=
  r.kind = 2 ∧ r.area = area ∧ r.owner ≠ src ∧ ∃ v, findW (waysD xs area src) r.owner = some v ∧ v.cost + r.cost < 60000 ∧ d = ⟨r.key, v.cost + r.cost, v.hops⟩

/-- a way beyond an area to a node, by the records rs -/
def outS (xs rs : List RecD) (area src to : Int) (d : WayD) : Prop := d.to = to ∧ ∃ r ∈ rs, tellsOf xs area src r d

theorem rec_beyond {xs : List RecD} {r : RecD} (hs : storeB xs = true) (hr : r ∈ xs) (hk : r.kind = 2) : (1 ≤ r.key ∧ r.key ≤ 6) ∧ (0 ≤ r.cost ∧ r.cost ≤ 60000) := by
  unfold storeB at hs
  simp only [Bool.and_eq_true] at hs
  have hok := allOk_mem hs.1.2 hr
  unfold recOkB at hok
  rw [if_neg (by omega), if_pos hk] at hok
  simp only [Bool.and_eq_true, inB, decide_eq_true_eq] at hok
  omega

theorem tellsOf_good {xs : List RecD} {area src : Int} {r : RecD} {d : WayD} (hr : r ∈ xs) (h : tellsOf xs area src r d) : GoodW d := by
  obtain ⟨h1, _, _, v, h4, h5, rfl⟩ := h
  have hm := (findW_some h4).1
  have hv := ((waysD_asc xs area src).2 v hm).1
  have hb := rec_beyond (waysD_area hm).1 hr h1
  exact ⟨hb.1, ⟨by show 0 ≤ v.cost + r.cost; have := hv.cost; omega, by show v.cost + r.cost ≤ 60000; omega⟩, hv.asc, hv.hop6⟩

theorem outS_good {xs rs : List RecD} {area src to : Int} {d : WayD} (hs : ∀ r ∈ rs, r ∈ xs) (h : outS xs rs area src to d) : GoodW d ∧ d.to = to := by
  obtain ⟨h1, r, hr, h2⟩ := h
  exact ⟨tellsOf_good (hs r hr) h2, h1⟩

/-- one record more -/
theorem outS_step {xs rs : List RecD} {area src to : Int} {k : Nat} {r : RecD} (h : rs[k]? = some r) (d : WayD) : outS xs (rs.take (k + 1)) area src to d ↔ outS xs (rs.take k) area src to d ∨ (d.to = to ∧ tellsOf xs area src r d) := by
  obtain ⟨hk, e⟩ := List.getElem?_eq_some_iff.1 h
  unfold outS
  rw [List.take_succ_eq_append_getElem hk, e]
  constructor
  · rintro ⟨h1, x, h2, h3⟩
    rcases List.mem_append.1 h2 with h4 | h4
    · exact .inl ⟨h1, x, h4, h3⟩
    · have : x = r := by simpa using h4
      subst this
      exact .inr ⟨h1, h3⟩
  · rintro (⟨h1, x, h2, h3⟩ | ⟨h1, h3⟩)
    · exact ⟨h1, x, List.mem_append.2 (.inl h2), h3⟩
    · exact ⟨h1, r, List.mem_append.2 (.inr (by simp)), h3⟩

/-- the areas by which it goes on -/
def byArea (border : Bool) (a : Int) : Prop := border = true → a = 0

/-- a way beyond to a node that is not within -/
def beyondS (xs : List RecD) (al : List Int) (border : Bool) (src to : Int) (d : WayD) : Prop := (∀ x, ¬ withinS xs al src to x) ∧ ∃ a ∈ al, byArea border a ∧ outS xs xs a src to d

theorem beyondS_good {xs : List RecD} {al : List Int} {border : Bool} {src to : Int} {d : WayD} (h : beyondS xs al border src to d) : GoodW d ∧ d.to = to := by
  obtain ⟨_, a, _, _, h2⟩ := h
  exact outS_good (fun _ h => h) h2

theorem outS_area {xs rs : List RecD} {area src to : Int} {d : WayD} (h : outS xs rs area src to d) : storeB xs = true ∧ 0 ≤ area ∧ area < 3 := by
  obtain ⟨_, r, _, _, _, _, v, h4, _⟩ := h
  exact waysD_area (findW_some h4).1

/-- the ways of the first areas alone -/
def someS (xs : List RecD) (al : List Int) (border : Bool) (src to : Int) (d : WayD) : Prop := ∃ a ∈ al, byArea border a ∧ outS xs xs a src to d

theorem someS_good {xs : List RecD} {al : List Int} {border : Bool} {src to : Int} {d : WayD} (h : someS xs al border src to d) : GoodW d ∧ d.to = to := by
  obtain ⟨a, _, _, h2⟩ := h
  exact outS_good (fun _ h => h) h2

theorem someS_step {xs : List RecD} {al : List Int} {border : Bool} {src to a : Int} {k : Nat} (h : al[k]? = some a) (d : WayD) : someS xs (al.take (k + 1)) border src to d ↔ someS xs (al.take k) border src to d ∨ (byArea border a ∧ outS xs xs a src to d) := by
  obtain ⟨hk, e⟩ := List.getElem?_eq_some_iff.1 h
  unfold someS
  rw [List.take_succ_eq_append_getElem hk, e]
  constructor
  · rintro ⟨b, h2, h3, h4⟩
    rcases List.mem_append.1 h2 with h5 | h5
    · exact .inl ⟨b, h5, h3, h4⟩
    · have : b = a := by simpa using h5
      subst this
      exact .inr ⟨h3, h4⟩
  · rintro (⟨b, h2, h3, h4⟩ | ⟨h3, h4⟩)
    · exact ⟨b, List.mem_append.2 (.inl h2), h3, h4⟩
    · exact ⟨a, List.mem_append.2 (.inr (by simp)), h3, h4⟩

/-- one way more beside the best -/
theorem bestOf_tell {tog : WayD → WayD → WayD} (ht : TogOk tog) {xs : List RecD} {area src to : Int} {k : Nat} {r : RecD} {o : Option WayD} {S0 : WayD → Prop} (hS0 : ∀ d, S0 d → GoodW d ∧ d.to = to) (h : xs[k]? = some r) (hb : BestOf to (fun d => S0 d ∨ outS xs (xs.take k) area src to d) o) {d : WayD} (hd : tellsOf xs area src r d) (hto : d.to = to) :
    BestOf to (fun d => S0 d ∨ outS xs (xs.take (k + 1)) area src to d) (moreW tog o (some d)) := by
  have hg := tellsOf_good (List.mem_of_getElem? h) hd
  refine (hb.add ht (fun w hw => ?_) hto hg.asc hg.hop6).congr (fun w => ?_)
  · rcases hw with h1 | h1
    · exact (hS0 w h1).1.hop6
    · exact (outS_good (fun r hr => List.mem_of_mem_take hr) h1).1.hop6
  · rw [outS_step h]
    have huniq : ∀ w, tellsOf xs area src r w → w = d := by
      rintro w ⟨_, _, _, v, h4, _, rfl⟩
      obtain ⟨_, _, _, v', h4', _, rfl⟩ := hd
      rw [h4] at h4'
      cases h4'
      rfl
    constructor
    · rintro ((h1 | h1) | h1)
      · exact .inl h1
      · exact .inr (.inl h1)
      · subst h1; exact .inr (.inr ⟨hto, hd⟩)
    · rintro (h1 | h1 | ⟨_, h1⟩)
      · exact .inl (.inl h1)
      · exact .inl (.inr h1)
      · exact .inr (huniq w h1)

theorem bestOf_quiet {xs : List RecD} {area src to : Int} {k : Nat} {r : RecD} {o : Option WayD} {S0 : WayD → Prop} (h : xs[k]? = some r) (hb : BestOf to (fun d => S0 d ∨ outS xs (xs.take k) area src to d) o) (hn : ∀ d, d.to = to → ¬ tellsOf xs area src r d) :
    BestOf to (fun d => S0 d ∨ outS xs (xs.take (k + 1)) area src to d) o := by
  refine hb.congr (fun w => ?_)
  rw [outS_step h]
  constructor
  · rintro (h1 | h1)
    · exact .inl h1
    · exact .inr (.inl h1)
  · rintro (h1 | h1 | ⟨h1, h2⟩)
    · exact .inl h1
    · exact .inr h1
    · exact absurd h2 (hn w h1)

/-- a way in a box, its hops a row of the caller's own -/
structure BoxT (W : World) (z lo : Nat) (b : WayD) (bv : Value) : Prop where
  box : W.heap[z]? = some (.cells (wayC b bv) 79)
  own : W.ownsRow lo 3 1 bv b.hops.length (flat intE b.hops)
  len : b.hops.length ≤ 6

theorem BoxT.below {W W' : World} {z lo : Nat} {b : WayD} {bv : Value} (h : BoxT W z lo b bv) (hb : Below W.heap.size W W') : BoxT W' z lo b bv :=
  ⟨(hb.block _ (lt_of_heap h.box)).trans h.box, owns_below h.own hb (Nat.le_refl _), h.len⟩

theorem BoxT.other {W W' : World} {z g lo : Nat} {b : WayD} {bv : Value} {cs : Array Value} {T : TypeId} {fr : Nat × Nat} (h : BoxT W z lo b bv) (hg : W.grownBy W' (some g)) (hgz : z ≠ g) (hbox : W.heap[g]? = some (.cells cs T fr)) (hT : (3 : TypeId) ≠ T) : BoxT W' z lo b bv :=
  ⟨(hg.block z (lt_of_heap h.box) (by simp; omega)).trans h.box, owns_keepB h.own (fun j hj => hg.block j (h.own.lt j hj).2 (fun e => own_type_ne2 h.own hbox hT (by rw [hj]; exact e.symm))), h.len⟩

theorem BoxT.put {W : World} {z lo : Nat} {b : WayD} {bv : Value} (h : BoxT W z lo b bv) {d : WayD} {u : Value} (hu : W.ownsRow lo 3 1 u d.hops.length (flat intE d.hops)) (hl : d.hops.length ≤ 6) : BoxT (putW3 W z d u) z lo d u := by
  have hb := h.box
  unfold wayC at hb
  have hg := grownW3 W z d u
  exact ⟨finW3 d u hb, owns_keepB hu (fun j hj => hg.block j (hu.lt j hj).2 (fun e => own_type_ne2 hu h.box (by decide) (by rw [hj]; exact e.symm))), hl⟩

theorem putW3_other {W : World} {z g : Nat} {d : WayD} {u : Value} {o : Obj} (h : W.heap[g]? = some o) (hne : g ≠ z) : (putW3 W z d u).heap[g]? = some o := ((grownW3 W z d u).block g (lt_of_heap h) (by simp; omega)).trans h
end Go.Proofs.Ytbknmgobmnjphaa
namespace Go.Proofs.Ytbknmgobmnjphaa
open Go.RowKit

/-- no way leads there within the area -/
def notNear (xs : List RecD) (area src to : Int) : Prop := ∀ d, d ∈ waysD xs area src → d.to ≠ to

/-- the record that tells of a node at a cost -/
def tellR (area src to c : Int) : RecD := ⟨area, 2, src, to, 0, [], c, false⟩

/-- what is told of a node -/
def toldTo (xs : List RecD) (al : List Int) (src area to c : Int) : Prop := notNear xs area src to ∧ to ≠ src ∧
  ((∃ w, BestOf to (withinS xs al src to) (some w) ∧ c = w.cost) ∨ (area ≠ 0 ∧ ∃ w, BestOf to (beyondS xs al true src to) (some w) ∧ c = w.cost))

/-- what is told into an area, in order -/
def IsTold (xs : List RecD) (al : List Int) (src area : Int) (ds : List RecD) : Prop := Asc ds ∧ ∀ r, r ∈ ds ↔ ∃ to c, r = tellR area src to c ∧ toldTo xs al src area to c

theorem asc_extR : ∀ {a b : List RecD}, Asc a → Asc b → (∀ x, x ∈ a ↔ x ∈ b) → a = b
  | [], [], _, _, _ => rfl
  | [], y :: ys, _, _, h => by have := (h y).2 (by simp); cases this
  | x :: xs, [], _, _, h => by have := (h x).1 (by simp); cases this
  | x :: xs, y :: ys, ha, hb, h => by
    have ha' := List.pairwise_cons.1 ha
    have hb' := List.pairwise_cons.1 hb
    have irr : ∀ z : RecD, beforeB z z = true → False := fun z hz => by
      have := (bef_irrefl_same (x := z) (y := z) (by simp [sameKeyB])).1
      rw [this] at hz; cases hz
    have hxy : x = y := by
      have h1 := (h x).1 (by simp)
      have h2 := (h y).2 (by simp)
      rcases List.mem_cons.1 h1 with e | e
      · exact e
      · rcases List.mem_cons.1 h2 with e2 | e2
        · exact e2.symm
        · exact (irr x (bef_trans (ha'.1 y e2) (hb'.1 x e))).elim
    subst hxy
    have : xs = ys := by
      refine asc_extR ha'.2 hb'.2 (fun z => ?_)
      have hz := h z
      constructor
      · intro hm
        have h1 := hz.1 (List.mem_cons_of_mem _ hm)
        rcases List.mem_cons.1 h1 with e | e
        · have := ha'.1 z hm; subst e; exact (irr z this).elim
        · exact e
      · intro hm
        have h1 := hz.2 (List.mem_cons_of_mem _ hm)
        rcases List.mem_cons.1 h1 with e | e
        · have := hb'.1 z hm; subst e; exact (irr z this).elim
        · exact e
    rw [this]

theorem IsTold.unique {xs : List RecD} {al : List Int} {src area : Int} {a b : List RecD} (ha : IsTold xs al src area a) (hb : IsTold xs al src area b) : a = b :=
  asc_extR ha.1 hb.1 (fun r => by rw [ha.2, hb.2])

theorem best_good {to : Int} {S : WayD → Prop} {w : WayD} (h : BestOf to S (some w)) (hS : ∀ d, S d → GoodW d ∧ d.to = to) : GoodW w ∧ w.to = to := ⟨h.good hS, h.1⟩

theorem toldTo_node {xs : List RecD} {al : List Int} {src area to c : Int} (h : toldTo xs al src area to c) : 1 ≤ to ∧ to ≤ 6 := by
  obtain ⟨_, _, ⟨w, h1, _⟩ | ⟨_, w, h1, _⟩⟩ := h
  · have hg := best_good h1 (fun d h => withinS_good h)
    rw [← hg.2]; exact hg.1.node
  · have hg := best_good h1 (fun d h => beyondS_good h)
    rw [← hg.2]; exact hg.1.node

/-- at one cost alone -/
theorem toldTo_cost {xs : List RecD} {al : List Int} {src area to c c' : Int} (h : toldTo xs al src area to c) (h' : toldTo xs al src area to c') : c = c' := by
  have hno : ∀ {w v : WayD}, BestOf to (withinS xs al src to) (some w) → BestOf to (beyondS xs al true src to) (some v) → False := by
    intro w v h1 h2
    obtain ⟨_, ⟨u, hu, _⟩, _⟩ := h1
    obtain ⟨_, ⟨u', hu', _⟩, _⟩ := h2
    exact hu'.1 u hu
  obtain ⟨_, _, ⟨w, h1, rfl⟩ | ⟨_, w, h1, rfl⟩⟩ := h
  · obtain ⟨_, _, ⟨v, h2, rfl⟩ | ⟨_, v, h2, rfl⟩⟩ := h'
    · have := h1.unique h2; cases this; rfl
    · exact (hno h1 h2).elim
  · obtain ⟨_, _, ⟨v, h2, rfl⟩ | ⟨_, v, h2, rfl⟩⟩ := h'
    · exact (hno h2 h1).elim
    · have := h1.unique h2; cases this; rfl

theorem tellR_before {area src a b c d : Int} : beforeB (tellR area src a c) (tellR area src b d) = decide (a < b) := by
  simp [beforeB, tellR]
  try exact decide_eq_decide.2 Iff.rfl

theorem IsTold.tot {xs : List RecD} {al : List Int} {src area : Int} {ds : List RecD} (h : IsTold xs al src area ds) : ds.length ≤ 6 ∧ ∀ r ∈ ds, r.near = [] := by
  constructor
  · have h1 : (ds.map (·.key)).Pairwise (· < ·) := by
      rw [List.pairwise_map]
      refine List.Pairwise.imp_of_mem ?_ h.1
      intro a b ha hb hab
      obtain ⟨to, c, rfl, _⟩ := (h.2 a).1 ha
      obtain ⟨to', c', rfl, _⟩ := (h.2 b).1 hb
      rw [tellR_before] at hab
      exact of_decide_eq_true hab
    have h2 := asc6_len h1 (fun z hz => by
      obtain ⟨r, hr, rfl⟩ := List.mem_map.1 hz
      obtain ⟨to, c, rfl, ht⟩ := (h.2 r).1 hr
      exact toldTo_node ht)
    simpa using h2
  · intro r hr
    obtain ⟨to, c, rfl, _⟩ := (h.2 r).1 hr
    rfl

/-- the areas but one: where nothing is near, the same is within -/
theorem withinS_others {xs : List RecD} {al : List Int} {src area to : Int} (hn : notNear xs area src to) (d : WayD) : withinS xs (al.filter (fun a => a != area)) src to d ↔ withinS xs al src to d := by
  constructor
  · rintro ⟨h1, a, h2, h3⟩
    exact ⟨h1, a, (List.mem_filter.1 h2).1, h3⟩
  · rintro ⟨h1, a, h2, h3⟩
    refine ⟨h1, a, List.mem_filter.2 ⟨h2, ?_⟩, h3⟩
    have : a ≠ area := fun e => by subst e; exact hn d h3 h1
    simpa using this

/-- what wayTo tells of the ways of an area -/
theorem near_has (xs : List RecD) (area src to : Int) : (wayToB (waysD xs area src) to = true ∧ ¬ notNear xs area src to) ∨ (wayToB (waysD xs area src) to = false ∧ notNear xs area src to) := by
  rcases wayTo_find (waysD xs area src) to with ⟨h1, h2⟩ | ⟨h1, h2⟩
  · have h3 := findW_some h2
    exact .inl ⟨h1, fun h => h _ h3.1 h3.2⟩
  · exact .inr ⟨h1, fun d hd => findW_none h2 d hd⟩

/-- what wayTo tells of a list of best ways -/
theorem best_has {S : Int → WayD → Prop} {ds : List WayD} (h : IsBest S ds) (to : Int) : (wayToB ds to = true ∧ BestOf to (S to) (some (wayToD ds to))) ∨ (wayToB ds to = false ∧ ∀ d, ¬ S to d) := by
  have hb := h.2 to
  rcases wayTo_find ds to with ⟨h1, h2⟩ | ⟨h1, h2⟩
  · rw [h2] at hb
    exact .inl ⟨h1, hb⟩
  · rw [h2] at hb
    exact .inr ⟨h1, hb⟩

theorem not_best {to : Int} {S : WayD → Prop} {w : WayD} (h : ∀ d, ¬ S d) : ¬ BestOf to S (some w) := fun ⟨_, ⟨u, hu, _⟩, _⟩ => h u hu

/-- those that are told of the nodes below t -/
def ToldBelow (xs : List RecD) (al : List Int) (src area : Int) (t : Int) (ds : List RecD) : Prop := Asc ds ∧ ∀ r, r ∈ ds ↔ ∃ to c, r = tellR area src to c ∧ to < t ∧ toldTo xs al src area to c

theorem ToldBelow.skip {xs : List RecD} {al : List Int} {src area t : Int} {ds : List RecD} (h : ToldBelow xs al src area t ds) (hn : ∀ c, ¬ toldTo xs al src area t c) : ToldBelow xs al src area (t + 1) ds := by
  refine ⟨h.1, fun r => ?_⟩
  rw [h.2]
  constructor
  · rintro ⟨to, c, h1, h2, h3⟩
    exact ⟨to, c, h1, by omega, h3⟩
  · rintro ⟨to, c, h1, h2, h3⟩
    refine ⟨to, c, h1, ?_, h3⟩
    by_cases e : to = t
    · subst e; exact absurd h3 (hn c)
    · omega

theorem ToldBelow.push {xs : List RecD} {al : List Int} {src area t c : Int} {ds : List RecD} (h : ToldBelow xs al src area t ds) (ht : toldTo xs al src area t c) : ToldBelow xs al src area (t + 1) (ds ++ [tellR area src t c]) := by
  refine ⟨?_, fun r => ?_⟩
  · unfold Asc
    rw [List.pairwise_append]
    refine ⟨h.1, by simp, fun a ha b hb => ?_⟩
    have : b = tellR area src t c := by simpa using hb
    subst this
    obtain ⟨to, c', rfl, h2, _⟩ := (h.2 a).1 ha
    rw [tellR_before]
    simpa using h2
  · rw [List.mem_append, h.2]
    constructor
    · rintro (⟨to, c', h1, h2, h3⟩ | h1)
      · exact ⟨to, c', h1, by omega, h3⟩
      · exact ⟨t, c, by simpa using h1, by omega, ht⟩
    · rintro ⟨to, c', h1, h2, h3⟩
      by_cases e : to = t
      · subst e
        rw [toldTo_cost h3 ht] at h1
        exact .inr (by simpa using h1)
      · exact .inl ⟨to, c', h1, by omega, h3⟩

theorem ToldBelow.all {xs : List RecD} {al : List Int} {src area : Int} {ds : List RecD} (h : ToldBelow xs al src area 7 ds) : IsTold xs al src area ds := by
  refine ⟨h.1, fun r => ?_⟩
  rw [h.2]
  constructor
  · rintro ⟨to, c, h1, _, h3⟩
    exact ⟨to, c, h1, h3⟩
  · rintro ⟨to, c, h1, h3⟩
    exact ⟨to, c, h1, by have := toldTo_node h3; omega, h3⟩

theorem ToldBelow.none {xs : List RecD} {al : List Int} {src area : Int} : ToldBelow xs al src area 1 [] := by
  refine ⟨List.Pairwise.nil, fun r => ?_⟩
  constructor
  · intro h; cases h
  · rintro ⟨to, c, _, h2, h3⟩
    have := toldTo_node h3
    omega

theorem ToldBelow.len {xs : List RecD} {al : List Int} {src area t : Int} {ds : List RecD} (h : ToldBelow xs al src area t ds) : ds.length ≤ 6 ∧ ∀ r ∈ ds, r.near = [] := by
  constructor
  · have h1 : (ds.map (·.key)).Pairwise (· < ·) := by
      rw [List.pairwise_map]
      refine List.Pairwise.imp_of_mem ?_ h.1
      intro a b ha hb hab
      obtain ⟨to, c, rfl, _⟩ := (h.2 a).1 ha
      obtain ⟨to', c', rfl, _⟩ := (h.2 b).1 hb
      rw [tellR_before] at hab
      exact of_decide_eq_true hab
    have h2 := asc6_len h1 (fun z hz => by
      obtain ⟨r, hr, rfl⟩ := List.mem_map.1 hz
      obtain ⟨to, c, rfl, _, ht⟩ := (h.2 r).1 hr
      exact toldTo_node ht)
    simpa using h2
  · intro r hr
    obtain ⟨to, c, rfl, _⟩ := (h.2 r).1 hr
    rfl

theorem told_store {xs : List RecD} {al : List Int} {src area to c : Int} (h : toldTo xs al src area to c) : storeB xs = true := by
  obtain ⟨_, _, ⟨w, ⟨_, ⟨u, hu, _⟩, _⟩, _⟩ | ⟨_, w, ⟨_, ⟨u, hu, _⟩, _⟩, _⟩⟩ := h
  · obtain ⟨_, a, _, h3⟩ := hu
    exact (waysD_area h3).1
  · obtain ⟨_, a, _, _, h3⟩ := hu
    exact (outS_area h3).1
end Go.Proofs.Ytbknmgobmnjphaa
