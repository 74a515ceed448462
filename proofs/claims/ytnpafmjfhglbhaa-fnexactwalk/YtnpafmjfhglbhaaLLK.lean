/-
  Tables of all nodes (lists of lists of lines): laws.szLineSS, toLineSS, eqLineSS, markLineSS.
-/
import Derived.Test.YtnpafmjfhglbhaaLnLawK
namespace Go.Proofs.Ytnpafmjfhglbhaa
open Go.RowKit

/-- a list of lines as a row has it, and the lines -/
abbrev LLP := Value × List JP

def encLL (p : LLP) : List Value := [p.1]

def zLL : LLP := (.slice none 0 0, [])

theorem encLL_len (p : LLP) : (encLL p).length = 1 := rfl

/-- what a list of lists tells -/
def datLL (ls : List LLP) : List (List LnD) := ls.map (fun p => fstsJ p.2)

def LLAt (W : World) (v : Value) (ls : List LLP) (B : Nat) : Prop := StructsAt encLL 1 W v ls B ∧ ∀ p ∈ ls, LnsAt W p.1 p.2 B

theorem LLAt.shape {W : World} {v : Value} {ls : List LLP} {B : Nat} (h : LLAt W v ls B) : ∃ a cap, v = .slice a ls.length cap := by
  obtain ⟨⟨a, cap, h, _⟩, _⟩ := h
  exact ⟨a, cap, h⟩

theorem LLAt.later {W W' : World} {v : Value} {ls : List LLP} {B C : Nat} (h : LLAt W v ls B) (hb : Below C W W') (hBC : B ≤ C) : LLAt W' v ls B :=
  ⟨RowAt.later h.1 hb hBC, fun p hp => (h.2 p hp).later hb hBC⟩

theorem LLAt.more {W : World} {v : Value} {ls : List LLP} {B C : Nat} (h : LLAt W v ls B) (hBC : B ≤ C) : LLAt W v ls C :=
  ⟨RowAt.more h.1 hBC, fun p hp => (h.2 p hp).more hBC⟩

theorem LLAt.then {W W' : World} {v : Value} {ls : List LLP} (h : LLAt W v ls W.heap.size) (hb : Below W.heap.size W W') : LLAt W' v ls W'.heap.size := (h.later hb (Nat.le_refl _)).more hb.size

theorem LLAt.cell {W : World} {v : Value} {ls : List LLP} {B : Nat} (h : LLAt W v ls B) (i : Nat) (p : LLP) (hp : ls[i]? = some p) :
    ∃ b off cap, v = .slice (some ⟨b, off, none⟩) ls.length cap ∧ b < B ∧ W.cell? ⟨b, off + i, none⟩ = some p.1 ∧ LnsAt W p.1 p.2 B := by
  obtain ⟨b, off, cap, hv, hb, hc⟩ := StructsAt.cell h.1 encLL_len i p hp
  exact ⟨b, off, cap, hv, hb, by have := hc 0 _ rfl; simpa using this, h.2 p (List.mem_of_getElem? hp)⟩

def totLL (ls : List LLP) : Nat := (ls.map (fun p => 1 + totJ p.2)).sum

theorem totLL_append (a b : List LLP) : totLL (a ++ b) = totLL a + totLL b := by simp [totLL]

theorem totLL_take {ls : List LLP} {k : Nat} {p : LLP} (h : ls[k]? = some p) : totLL (ls.take (k + 1)) = totLL (ls.take k) + (1 + totJ p.2) := by
  obtain ⟨hk, e⟩ := List.getElem?_eq_some_iff.1 h
  rw [List.take_succ_eq_append_getElem hk, totLL_append, e]
  simp [totLL]

theorem totLL_len (ls : List LLP) : ls.length ≤ totLL ls := by
  induction ls with
  | nil => simp [totLL]
  | cons p ls ih => have : totLL (p :: ls) = 1 + totJ p.2 + totLL ls := by simp [totLL]
                    rw [this, List.length_cons]; omega

theorem totLL_mem {ls : List LLP} {p : LLP} (h : p ∈ ls) : totJ p.2 ≤ totLL ls := by
  induction ls with
  | nil => simp at h
  | cons q ls ih =>
    have e : totLL (q :: ls) = 1 + totJ q.2 + totLL ls := by simp [totLL]
    rw [e]
    rcases List.mem_cons.1 h with rfl | h1
    · omega
    · have := ih h1; omega

theorem totLL_takeLe (ls : List LLP) (k : Nat) : totLL (ls.take k) ≤ totLL ls := by
  have h := totLL_append (ls.take k) (ls.drop k)
  rw [List.take_append_drop] at h
  omega

theorem totLL_D (ls : List LLP) : totLL ls = ((datLL ls).map (fun x => 1 + totJD x)).sum := by
  simp only [totLL, datLL, List.map_map, Function.comp_def, totJ_D]

theorem totLL_eq {ls qs : List LLP} (h : datLL ls = datLL qs) : totLL ls = totLL qs := by rw [totLL_D, totLL_D, h]

theorem datLL_len (ls : List LLP) : (datLL ls).length = ls.length := by simp [datLL]

theorem datLL_at {ls : List LLP} {k : Nat} {p : LLP} (h : ls[k]? = some p) : (datLL ls)[k]? = some (fstsJ p.2) := by simp [datLL, h]

set_option maxRecDepth 100000 in
set_option maxHeartbeats 1000000 in
theorem szLineSS_any (v : Value) (ls : List LLP) (q : Int) (w : World) (hn : ls.length ≤ maxLen) (hns : ∀ p ∈ ls, p.2.length ≤ maxLen ∧ ∀ x ∈ p.2, x.1.hops.length ≤ maxLen) (hq0 : 0 ≤ q) (hq : q ≤ 1048576) (hv : LLAt w v ls w.heap.size) :
    Calls Try.prog 14 #[v, .int .i64 q] w fun e w' => ∃ r : Int, e = .returned (.int .i64 r) ∧ (r < 0 ∨ (0 ≤ r ∧ r = q - (totLL ls : Int))) ∧ Below w.heap.size w w' := by
  obtain ⟨a, cap, rfl⟩ := hv.shape
  have hm : maxLen = 9223372036854775807 := rfl
  have HV := hide hv
  clear hv
  have HNS := hide hns
  clear hns
  rw [hm] at hn
  clear hm
  by_cases hneg : q - (ls.length : Int) < 0
  · go_enter Try.func14, Try.ntmps14
    go_wp2
    go_ret
    exact ⟨_, rfl, .inl (by omega), Below.refl _ _⟩
  go_enter Try.func14, Try.ntmps14
  go_wp2
  go_loopw [5, 1] (fun i r wr => ∃ (k : Nat) (c : Int), k ≤ ls.length ∧ i = .int .i64 k ∧ r = .int .i64 c ∧ 0 ≤ c ∧ c = q - (ls.length : Int) - ((totLL (ls.take k) : Int) - (k : Int)) ∧ Below w.heap.size w wr) (fun i _ _ => ls.length - (intOf i).toNat)
  case atStart => exact ⟨0, q - (ls.length : Int), by omega, rfl, rfl, by omega, by simp [totLL], Below.refl _ _⟩
  case round =>
    obtain ⟨k, c, hk, rfl, rfl, hc0, hc, hnx⟩ := hrel
    by_cases hlt : k < ls.length
    · obtain ⟨p, hp⟩ : ∃ p, ls[k]? = some p := ⟨ls[k], List.getElem?_eq_getElem hlt⟩
      have htk := totLL_take hp
      have htl := totLL_len (ls.take k)
      rw [List.length_take, Nat.min_eq_left (by omega)] at htl
      obtain ⟨b, off, cap', hve, hbb, c0, hnr⟩ := HV.out.cell k p hp
      cases hve
      rw [← hnx.cell (p := ⟨b, off + k, none⟩) hbb] at c0
      have hki : (0 : Int) ≤ (k : Int) := by omega
      have hkj : (k : Int) < (ls.length : Int) := by omega
      have hcq : c ≤ 1048576 := by omega
      have hpm := HNS.out p (List.mem_of_getElem? hp)
      have HS := hide (szLineS_any p.1 p.2 c wr hpm.1 hpm.2 hc0 hcq ((hnr.later hnx (Nat.le_refl _)).more hnx.size))
      obtain ⟨na, nc, hne⟩ := hnr.shape
      rw [hne] at c0 HS
      have HT := hide htk
      have HTL := hide htl
      have HC := hide hc
      clear hp htk htl hnr hne hc hpm
      go_wp2_with fail
      refine HS.out.mono ?_
      rintro e w1 ⟨z, rfl, hzz, b1⟩
      rcases hzz with hzn | ⟨hz0, hze⟩
      · go_wp2
        go_ret
        exact ⟨_, rfl, .inl (by omega), hnx.trans (b1.mono hnx.size)⟩
      · have HZ := hide hze
        clear hze
        go_wp2
        go_roundw
        case rel => exact ⟨k + 1, z, by omega, by go_num, rfl, hz0, by have := HZ.out; have := HC.out; have := HT.out; omega, hnx.trans (b1.mono hnx.size)⟩
        case measure => simp [intOf]; omega
    · have hkn : k = ls.length := by omega
      have KN := hide hkn
      have HC := hide hc
      clear hkn hc
      go_wp2
      go_ret
      refine ⟨c, rfl, .inr ⟨hc0, ?_⟩, hnx⟩
      have h1 := HC.out
      rw [KN.out, List.take_length] at h1
      omega

/-- tables of the caller's own: the outer row below f 0, the k-th list in blocks of f k .. f (k + 1) -/
structure LLOwn (W : World) (lo hi : Nat) (v : Value) (ls : List LLP) (f : Nat → Nat) : Prop where
  row : W.ownsRow lo 24 1 v ls.length (flat encLL ls)
  top : ∀ k, v.ownBlock = some k → k < f 0
  mono : ∀ i, f i ≤ f (i + 1)
  low : lo ≤ f 0
  high : f ls.length ≤ hi
  lists : ∀ i p, ls[i]? = some p → LnsOwn W (f i) (f (i + 1)) p.1 p.2

theorem mono_le {f : Nat → Nat} (h : ∀ i, f i ≤ f (i + 1)) {i j : Nat} (hij : i ≤ j) : f i ≤ f j := by
  induction j with
  | zero => have : i = 0 := by omega
            subst this; exact Nat.le_refl _
  | succ j ih =>
    rcases Nat.lt_or_ge i (j + 1) with hl | hl
    · exact Nat.le_trans (ih (by omega)) (h j)
    · have : i = j + 1 := by omega
      subst this; exact Nat.le_refl _

theorem LLOwn.lt {W : World} {lo hi : Nat} {v : Value} {ls : List LLP} {f : Nat → Nat} (h : LLOwn W lo hi v ls f) {i : Nat} {p : LLP} (hp : ls[i]? = some p) : lo ≤ f i ∧ f (i + 1) ≤ hi := by
  obtain ⟨hk, _⟩ := List.getElem?_eq_some_iff.1 hp
  exact ⟨Nat.le_trans h.low (mono_le h.mono (Nat.zero_le _)), Nat.le_trans (mono_le h.mono hk) h.high⟩

theorem LLOwn.keep {W W' : World} {lo hi : Nat} {v : Value} {ls : List LLP} {f : Nat → Nat} (h : LLOwn W lo hi v ls f) (hk : ∀ k, lo ≤ k → k < hi → k < W.heap.size → W'.heap[k]? = W.heap[k]?) : LLOwn W' lo hi v ls f where
  row := owns_keepB h.row (fun k e => hk k (h.row.lt k e).1 (Nat.lt_of_lt_of_le (h.top k e) (Nat.le_trans (mono_le h.mono (Nat.zero_le _)) h.high)) (h.row.lt k e).2)
  top := h.top
  mono := h.mono
  low := h.low
  high := h.high
  lists := fun i p hp => (h.lists i p hp).keep (fun k h1 h2 h3 => hk k (Nat.le_trans (h.lt hp).1 h1) (Nat.lt_of_lt_of_le h2 (h.lt hp).2) h3)

theorem LLOwn.below {W W' : World} {lo hi B : Nat} {v : Value} {ls : List LLP} {f : Nat → Nat} (h : LLOwn W lo hi v ls f) (hb : Below B W W') (hB : hi ≤ B) : LLOwn W' lo hi v ls f := h.keep (fun k _ h2 _ => hb.block k (by omega))

theorem LLOwn.at {W : World} {lo hi : Nat} {v : Value} {ls : List LLP} {f : Nat → Nat} (h : LLOwn W lo hi v ls f) : LLAt W v ls hi := by
  refine ⟨?_, fun p hp => ?_⟩
  · obtain ⟨a, cap, hv, h2⟩ := owns_rowAt h.row
    refine ⟨a, cap, hv, ?_⟩
    rcases h2 with h0 | ⟨b, off, ha, hb1, hx⟩
    · exact .inl h0
    · exact .inr ⟨b, off, ha, Nat.lt_of_lt_of_le (h.top b (by rw [hv, ha]; rfl)) (Nat.le_trans (mono_le h.mono (Nat.zero_le _)) h.high), hx⟩
  · obtain ⟨i, hi, e⟩ := List.getElem_of_mem hp
    have hp2 : ls[i]? = some p := by rw [← e]; exact List.getElem?_eq_getElem hi
    exact (h.lists i p hp2).at.more (h.lt hp2).2

theorem Try.infoLines : (Try.prog.info? 24).map (fun i => (i.zero, i.size, i.bytes)) = some (some (.slice none 0 0), 1, 24) := by kernel_rfl

theorem datLL_take {ls : List LLP} {k : Nat} {p : LLP} (h : ls[k]? = some p) : datLL (ls.take (k + 1)) = datLL (ls.take k) ++ [fstsJ p.2] := by
  obtain ⟨hk, e⟩ := List.getElem?_eq_some_iff.1 h
  unfold datLL
  rw [List.take_succ_eq_append_getElem hk, List.map_append, e]
  rfl

set_option maxRecDepth 100000 in
set_option maxHeartbeats 2000000 in
theorem toLineSS_any (v : Value) (ls : List LLP) (w : World) (hn : totLL ls ≤ 1048576) (hv : LLAt w v ls w.heap.size) :
    Calls Try.prog 16 #[v] w fun e w' => ∃ x qs f, e = .returned x ∧ datLL qs = datLL ls ∧ LLOwn w' w.heap.size w'.heap.size x qs f ∧ Below w.heap.size w w' := by
  obtain ⟨a, cap, rfl⟩ := hv.shape
  have HV := hide hv
  have hnl := totLL_len ls
  clear hv
  obtain ⟨i0, hi, hz0, hz1, hz2⟩ := info_parts Try.infoLines
  have HI := hide hi
  have HZ := hide hz0
  clear hi hz0
  go_enter Try.func16, Try.ntmps16
  go_wp2_with (first
    | (refine wpList_make_structs encLL_len (by omega) _ rfl _ _ 38 rfl w.heap.size 24 i0 (.slice none 0 0) zLL rfl Try.underlying38 HI.out HZ.out hz1 ls.length rfl rfl (by rw [hz2]; omega) (by unfold maxLen; omega) (Nat.le_refl _) ?_))
  intro w1 hown hg
  have b1 : Below w.heap.size w w1 := (Below.refl _ _).grown hg (Nat.le_refl _) (fun k hk => by simp at hk)
  have hg1 : w.heap.size < w1.heap.size := by
    rcases hown.2 with ⟨h0, _⟩ | ⟨g, cp, cur, hv, _, hh, _⟩
    · cases h0
    · cases hv; exact lt_of_heap hh
  have OW := hide hown
  clear hown hg
  go_wp2
  go_loopw [4] (fun i wr => ∃ (k : Nat) (qs : List LLP) (f : Nat → Nat), k ≤ ls.length ∧ i = .int .i64 k ∧ datLL qs = datLL (ls.take k) ∧ wr.ownsRow w.heap.size 24 1 (.slice (some ⟨w.heap.size, 0, none⟩) ls.length ls.length) ls.length (flat encLL (qs ++ List.replicate (ls.length - k) zLL)) ∧ f 0 = w.heap.size + 1 ∧ (∀ i, f i ≤ f (i + 1)) ∧ f k ≤ wr.heap.size ∧ (∀ i p, qs[i]? = some p → LnsOwn wr (f i) (f (i + 1)) p.1 p.2) ∧ Below w.heap.size w wr) (fun i _ => ls.length - (intOf i).toNat)
  case atStart => exact ⟨0, [], fun _ => w.heap.size + 1, by omega, rfl, by simp [datLL], (by simpa using OW.out), rfl, fun _ => Nat.le_refl _, hg1, by simp, b1⟩
  case round =>
    obtain ⟨k, qs, f, hk, rfl, hmap, hown, hf0, hfm, hfk, hls, hnx⟩ := hrel
    have hql : qs.length = k := by have := congrArg List.length hmap; simpa [datLL_len, List.length_take, Nat.min_eq_left hk] using this
    by_cases hlt : k < ls.length
    · obtain ⟨p, hp⟩ : ∃ p, ls[k]? = some p := ⟨ls[k], List.getElem?_eq_getElem hlt⟩
      obtain ⟨b, off, cap', hve, hbb, c0, hnr⟩ := HV.out.cell k p hp
      cases hve
      rw [← hnx.cell (p := ⟨b, off + k, none⟩) hbb] at c0
      have hpt := totLL_mem (List.mem_of_getElem? hp)
      have HTO := hide (toLineS_own p.1 p.2 wr wr ((hnr.later hnx (Nat.le_refl _)).more hnx.size) (Below.refl _ _) (by omega))
      obtain ⟨na, nc, hne⟩ := hnr.shape
      rw [hne] at c0 HTO
      have HP := hide hp
      have OW2 := hide hown
      have HM := hide hmap
      have HL := hide hls
      have HQ := hide hql
      have HF := hide (And.intro hf0 (And.intro hfm hfk))
      clear hp hown hmap hls hql hf0 hfm hfk hnr hne hpt
      have hki : (0 : Int) ≤ (k : Int) := by omega
      have hkj : (k : Int) < (ls.length : Int) := by omega
      go_wp2_with fail
      refine HTO.out.mono ?_
      rintro e w2 ⟨x2, q2, rfl, hf2, ho2, b2⟩
      obtain ⟨n1a, n1c, rfl⟩ := owns_lenS ho2.row
      have hown2 := owns_below OW2.out b2 (Nat.le_refl _)
      have hln : (qs ++ List.replicate (ls.length - k) zLL).length = ls.length := by rw [List.length_append, HQ.out]; simp; omega
      obtain ⟨u0, d0⟩ := own_cell hown2 k (by omega)
      have f0 := hown2.frozenAt k
      have hst := (hown2.stored k (.slice n1a q2.length n1c)).1
      have hgr := grown_set w2 w.heap.size k (.slice n1a q2.length n1c)
      have hrz : w.heap.size < wr.heap.size := by
        obtain ⟨u, hu⟩ := own_cell OW2.out k (by omega)
        exact World.block_lt_of_cell? wr _ hu
      have hbw : Below w.heap.size w (w2.setCell ⟨w.heap.size, k, none⟩ (.slice n1a q2.length n1c)) := (hnx.trans (b2.mono hnx.size)).setCell (p := ⟨w.heap.size, k, none⟩) (Nat.le_refl _) _
      have hkeep : ∀ j, w.heap.size + 1 ≤ j → j < w2.heap.size → (w2.setCell ⟨w.heap.size, k, none⟩ (.slice n1a q2.length n1c)).heap[j]? = w2.heap[j]? := fun j h1 h2 => hgr.block j h2 (by simp; omega)
      have hf0 := HF.out.1
      have hfm := HF.out.2.1
      have hfk := HF.out.2.2
      have b2s := b2.size
      have hgs := hgr.size
      have h0le : ∀ j, w.heap.size + 1 ≤ f j := fun j => by rw [← hf0]; exact mono_le hfm (Nat.zero_le _)
      have hnew : LnsOwn (w2.setCell ⟨w.heap.size, k, none⟩ (.slice n1a q2.length n1c)) (f k) w2.heap.size (.slice n1a q2.length n1c) q2 :=
        (ho2.wide hfk (Nat.le_refl _)).keep (fun j h1 _ h3 => hkeep j (Nat.le_trans (h0le k) h1) h3)
      have hold : ∀ i q, qs[i]? = some q → LnsOwn (w2.setCell ⟨w.heap.size, k, none⟩ (.slice n1a q2.length n1c)) (f i) (f (i + 1)) q.1 q.2 := fun i q hq => by
        have hi : i < k := by have := (List.getElem?_eq_some_iff.1 hq).1; rw [HQ.out] at this; exact this
        have h1 := (HL.out i q hq).below b2 (Nat.le_trans (mono_le hfm hi) hfk)
        exact h1.keep (fun j h1 _ h3 => hkeep j (Nat.le_trans (h0le i) h1) h3)
      have ST := hide hst
      have HNEW := hide hnew
      have HOLD := hide hold
      have HBW := hide hbw
      have HFS := hide (And.intro hf0 (And.intro hfm (And.intro hfk (And.intro b2s hgs))))
      have HF2 := hide hf2
      clear hown2 hst hnew hold hbw hkeep hgr hgs ho2 hf0 hfm hfk b2s h0le hf2
      go_wp2
      refine ⟨⟨k + 1, qs ++ [(.slice n1a q2.length n1c, q2)], fun i => if i ≤ k then f i else w2.heap.size, by omega, by go_num, ?_, ?_, ?_, ?_, ?_, ?_, HBW.out⟩, by simp [intOf]; omega⟩
      · rw [datLL_take HP.out, ← HM.out, ← HF2.out]
        simp [datLL]
      · have h4 := ST.out
        have e4 : (flat encLL (qs ++ List.replicate (ls.length - k) zLL)).set k (.slice n1a q2.length n1c) = flat encLL ((qs ++ [(.slice n1a q2.length n1c, q2)]) ++ List.replicate (ls.length - (k + 1)) zLL) := by
          have e5 := flat_set encLL_len (qs ++ List.replicate (ls.length - k) zLL) k (.slice n1a q2.length n1c, q2) (by omega)
          rw [Nat.mul_one] at e5
          have e6 : (qs ++ List.replicate (ls.length - k) zLL).set k (.slice n1a q2.length n1c, q2) = (qs ++ [(.slice n1a q2.length n1c, q2)]) ++ List.replicate (ls.length - (k + 1)) zLL := by
            rw [List.set_append_right _ _ (by rw [HQ.out]; exact Nat.le_refl _), HQ.out, Nat.sub_self]
            have e2 : ls.length - k = (ls.length - (k + 1)) + 1 := by omega
            rw [e2, List.replicate_succ, List.set_cons_zero]
            simp
          rw [← e6, ← e5]
          rfl
        rw [e4] at h4
        exact h4
      · have := HFS.out.1
        simp only [Nat.zero_le, if_true]
        exact this
      · intro i
        have h1 := HFS.out.2.1
        have h2 := HFS.out.2.2.1
        have h3 := HFS.out.2.2.2.1
        show (if i ≤ k then f i else w2.heap.size) ≤ (if i + 1 ≤ k then f (i + 1) else w2.heap.size)
        by_cases hi : i + 1 ≤ k
        · rw [if_pos (by omega), if_pos hi]; exact h1 i
        · rw [if_neg hi]
          by_cases hi2 : i ≤ k
          · rw [if_pos hi2]
            have : i = k := by omega
            subst this
            omega
          · rw [if_neg hi2]; exact Nat.le_refl _
      · show (if k + 1 ≤ k then f (k + 1) else w2.heap.size) ≤ _
        rw [if_neg (by omega)]
        exact HFS.out.2.2.2.2
      · intro i q hq
        rcases Nat.lt_or_ge i k with hi | hi
        · rw [List.getElem?_append_left (by rw [HQ.out]; exact hi)] at hq
          show LnsOwn _ (if i ≤ k then f i else w2.heap.size) (if i + 1 ≤ k then f (i + 1) else w2.heap.size) q.1 q.2
          rw [if_pos (by omega), if_pos (by omega)]
          exact HOLD.out i q hq
        · have hik : i = k := by
            have := (List.getElem?_eq_some_iff.1 hq).1
            rw [List.length_append, HQ.out] at this
            simp at this
            omega
          subst hik
          rw [List.getElem?_append_right (by rw [HQ.out]; exact Nat.le_refl _), HQ.out, Nat.sub_self] at hq
          simp at hq
          subst hq
          show LnsOwn _ (if i ≤ i then f i else w2.heap.size) (if i + 1 ≤ i then f (i + 1) else w2.heap.size) _ _
          rw [if_pos (Nat.le_refl _), if_neg (by omega)]
          exact HNEW.out
    · have hkn : k = ls.length := by omega
      have KN := hide hkn
      have OW2 := hide hown
      have HM := hide hmap
      have HL := hide hls
      have HQ := hide hql
      have HF := hide (And.intro hf0 (And.intro hfm hfk))
      clear hkn hown hmap hls hql hf0 hfm hfk
      go_wp2
      go_ret
      have h1 := HM.out
      have h2 := OW2.out
      have h3 := HQ.out
      have hfk := HF.out.2.2
      rw [KN.out, List.take_length] at h1
      rw [KN.out, Nat.sub_self, List.replicate_zero, List.append_nil] at h2
      rw [KN.out] at h3 hfk
      refine ⟨_, qs, f, rfl, h1, ⟨?_, ?_, HF.out.2.1, ?_, ?_, HL.out⟩, hnx⟩
      · rw [h3]; exact h2
      · intro j hj
        cases hj
        rw [HF.out.1]
        exact Nat.lt_succ_self _
      · rw [HF.out.1]; omega
      · rw [h3]; exact hfk

set_option maxRecDepth 100000 in
set_option maxHeartbeats 2000000 in
theorem eqLineSS_same (v1 v2 : Value) (ls qs : List LLP) (w : World) (h1 : LLAt w v1 ls w.heap.size) (h2 : LLAt w v2 qs w.heap.size) (hn : totLL ls ≤ 1048576) (he : datLL ls = datLL qs) :
    Calls Try.prog 20 #[v1, v2] w fun e w' => e = .returned (.bool true) ∧ Below w.heap.size w w' := by
  obtain ⟨a1, c1, rfl⟩ := h1.shape
  obtain ⟨a2, c2, rfl⟩ := h2.shape
  have hl : ls.length = qs.length := by have := congrArg List.length he; simpa [datLL_len] using this
  have hnl := totLL_len ls
  have K1 := hide h1
  have K2 := hide h2
  have HLN := hide hl
  have HE := hide he
  rw [← hl]
  clear h1 h2 hl he
  go_enter Try.func20, Try.ntmps20
  go_wp2
  go_loopw [5] (fun i wr => ∃ k : Nat, k ≤ ls.length ∧ i = .int .i64 k ∧ Below w.heap.size w wr) (fun i _ => ls.length - (intOf i).toNat)
  case atStart => exact ⟨0, by omega, rfl, Below.refl _ _⟩
  case round =>
    obtain ⟨k, hk, rfl, hnx⟩ := hrel
    by_cases hlt : k < ls.length
    · obtain ⟨p, hp⟩ : ∃ l, ls[k]? = some l := ⟨ls[k], List.getElem?_eq_getElem hlt⟩
      obtain ⟨r, hr⟩ : ∃ l, qs[k]? = some l := ⟨qs[k], List.getElem?_eq_getElem (by have := HLN.out; omega)⟩
      obtain ⟨b1, o1, cp1, hv1, hb1, c0, n1⟩ := K1.out.cell k p hp
      obtain ⟨b2, o2, cp2, hv2, hb2, d0, n2⟩ := K2.out.cell k r hr
      cases hv1
      cases hv2
      rw [← hnx.cell (p := ⟨b1, o1 + k, none⟩) hb1] at c0
      rw [← hnx.cell (p := ⟨b2, o2 + k, none⟩) hb2] at d0
      have hpr : fstsJ p.2 = fstsJ r.2 := by
        have e1 := datLL_at hp
        have e2 := datLL_at hr
        rw [HE.out, e2] at e1
        simpa using e1.symm
      have hpt := totLL_mem (List.mem_of_getElem? hp)
      have hzr := hnx.size
      have hb1' : b1 < wr.heap.size := by omega
      have hb2' : b2 < wr.heap.size := by omega
      have hki : (0 : Int) ≤ (k : Int) := by omega
      have hkj : (k : Int) < (ls.length : Int) := by omega
      have hkd : Below w.heap.size w wr.drew := hnx.drew
      have m1 := (n1.later hkd (Nat.le_refl _)).more hkd.size
      have m2 := (n2.later hkd (Nat.le_refl _)).more hkd.size
      have hq := eqLineS_any p.1 r.1 p.2 r.2 wr.drew m1 m2 (by have := totJ_len p.2; omega) (fun x hx => by have := totJ_mem hx; omega)
      rw [decide_eq_true hpr] at hq
      obtain ⟨na, nc, hne⟩ := n1.shape
      obtain ⟨ma, mc, hme⟩ := n2.shape
      rw [hne] at c0 hq
      rw [hme] at d0 hq
      have HQ := hide hq
      clear hq hp hr n1 n2 m1 m2 hpr hpt hne hme
      go_wp2
      go_region_held3 (fun W => W.cell? ⟨b1, o1 + k, none⟩ = some (.slice na p.2.length nc) ∧ W.cell? ⟨b2, o2 + k, none⟩ = some (.slice ma r.2.length mc)) (first | go_keep | (refine ⟨?_, ?_⟩ <;> (rw [hbc.cell (by assumption)]; assumption))) (first | (go_at_call 9; refine HQ.out.mono ?_; rintro e w1 ⟨rfl, hbc⟩))
      go_wp2
      go_roundw
      case rel => exact ⟨k + 1, by omega, by go_num, hnx.trans ((Below.refl _ _).drew.trans (hbc.mono hzr))⟩
      case measure => simp [intOf]; omega
    · have hkn : k = ls.length := by omega
      have KN := hide hkn
      clear hkn
      go_wp2
      go_ret
      exact ⟨rfl, hnx⟩

set_option maxRecDepth 100000 in
set_option maxHeartbeats 2000000 in
theorem markLineSS_any (v : Value) (lo hi : Nat) (ls : List LLP) (f : Nat → Nat) (c : Int) (w : World) (h : LLOwn w lo hi v ls f) (hn : totLL ls ≤ 1048576) (hc : 0 ≤ c) (hc2 : c ≤ 100) :
    Calls Try.prog 21 #[v, .int .i64 c] w fun e w' => ∃ r : Int, e = .returned (.int .i64 r) ∧ 0 ≤ r ∧ r ≤ 10000000 ∧ Frame lo hi w w' := by
  have hnl := totLL_len ls
  have hsh := h.at.shape
  obtain ⟨a, cap, rfl⟩ := hsh
  have H1 := hide h
  clear h
  go_enter Try.func21, Try.ntmps21
  go_wp2
  go_loopw [5, 1] (fun i r wr => ∃ (k : Nat) (z : Int), k ≤ ls.length ∧ i = .int .i64 k ∧ r = .int .i64 z ∧ 0 ≤ z ∧ z ≤ c + 2 * (totLL (ls.take k) : Int) ∧ (∀ j p, k ≤ j → ls[j]? = some p → LnsOwn wr (f j) (f (j + 1)) p.1 p.2) ∧ Frame (f 0) hi w wr) (fun i _ _ => ls.length - (intOf i).toNat)
  case atStart => exact ⟨0, c, by omega, rfl, rfl, hc, by omega, fun j p _ hp => H1.out.lists j p hp, Frame.refl _ _ _⟩
  case round =>
    obtain ⟨k, z, hk, rfl, rfl, hz0, hz2, hls, hnx⟩ := hrel
    by_cases hlt : k < ls.length
    · obtain ⟨p, hp⟩ : ∃ p, ls[k]? = some p := ⟨ls[k], List.getElem?_eq_getElem hlt⟩
      have hki : (0 : Int) ≤ (k : Int) := by omega
      have hkj : (k : Int) < (ls.length : Int) := by omega
      have ht1 := totLL_takeLe ls (k + 1)
      rw [totLL_take hp] at ht1
      have htk := totLL_take hp
      obtain ⟨b, off, cap', hve, hbb, c0, hnr⟩ := H1.out.at.cell k p hp
      cases hve
      have hbf : b < f 0 := H1.out.top b rfl
      have hbw : b < w.heap.size := World.block_lt_of_cell? w _ c0
      have hcell : wr.cell? ⟨b, off + k, none⟩ = w.cell? ⟨b, off + k, none⟩ := by
        have := hnx.block b hbw (.inl hbf)
        unfold World.cell?
        simp only [this]
      rw [← hcell] at c0
      have hpo := hls k p (Nat.le_refl _) hp
      have hmt := mkJE_tot z p.2
      have hpt : totJ p.2 ≤ 1048576 := by omega
      have hzz : z ≤ 10000000 := by omega
      have HMK := hide (markLineS_any p.1 (f k) (f (k + 1)) p.2 z wr hpo hpt hz0 hzz)
      obtain ⟨na, nc, hne⟩ := hnr.shape
      rw [hne] at c0 HMK
      have HLS := hide hls
      have HP := hide hp
      have HTK := hide htk
      have HMT := hide hmt
      have HZ2 := hide hz2
      clear hls hp htk hmt hz2 hnr hne hpo hcell
      go_wp2_with fail
      refine HMK.out.mono ?_
      rintro e w2 ⟨rfl, ho2, fr2⟩
      have hlt2 := H1.out.lt HP.out
      have h0k : f 0 ≤ f k := mono_le H1.out.mono (Nat.zero_le _)
      have frw : Frame (f 0) hi wr w2 := ⟨fr2.os, fr2.tape, fr2.output, fr2.size, fun j h1 h2 => fr2.block j h1 (by omega)⟩
      have FRW := hide (hnx.trans frw)
      have hrest : ∀ j q, k + 1 ≤ j → ls[j]? = some q → LnsOwn w2 (f j) (f (j + 1)) q.1 q.2 := fun j q hj hq => (HLS.out j q (by omega) hq).frame fr2 (.inr (mono_le H1.out.mono hj))
      have HREST := hide hrest
      obtain ⟨y, hy⟩ : ∃ y, y = mkJE z p.2 := ⟨_, rfl⟩
      rw [← hy]
      have HMT2 := HMT.out
      rw [← hy] at HMT2
      have HY := hide HMT2
      clear hy HMT2 hrest frw hlt2 h0k fr2 ho2
      go_wp2
      go_roundw
      case rel => exact ⟨k + 1, y, by omega, by go_num, rfl, by have := HY.out; omega, by have := HY.out; have := HTK.out; have := HZ2.out; omega, HREST.out, FRW.out⟩
      case measure => simp [intOf]; omega
    · have hkn : k = ls.length := by omega
      have KN := hide hkn
      have HZ2 := hide hz2
      have hlo := H1.out.low
      clear hkn hls hz2
      go_wp2
      go_ret
      refine ⟨z, rfl, hz0, ?_, ⟨hnx.os, hnx.tape, hnx.output, hnx.size, fun j h1 h2 => hnx.block j h1 (by omega)⟩⟩
      have h1 := HZ2.out
      rw [KN.out, List.take_length] at h1
      omega
end Go.Proofs.Ytnpafmjfhglbhaa
