/-
  A line of a script, as the specification has it: the same.
  (*impl.script).takeAll: its contract.
-/
import Derived.Test.YtpiookjdeopmgaaDoorRd33
import Derived.Test.YtpiookjdeopmgaaDoorRd18
namespace Go.Proofs.YtpiookjdeopmgaaDoor
open Go.RowKit

set_option linter.unusedSimpArgs false
set_option linter.unusedVariables false

/-- what a line that is no remark does, in the specification's words -/
noncomputable def sStep (s : SD) (p : List UInt8) (ps : List (List UInt8)) : Option SD :=
  if s.n = 0 then (if p = wNet ∧ numsN 1 ps = true ∧ inB (numI (ps.getD 0 [])) 1 6 = true then some { s with n := numI (ps.getD 0 []) } else none)
  else if p = wLink ∨ p = wThing ∨ p = wFar then
    (if s.es.length = 0 then (partF s.n s.ls s.ts p ps).map (fun r => { s with ls := r.1, ts := r.2 }) else none)
  else (evF (p :: ps)).bind (fun e => if eventOkB s.n e = true ∧ s.es.length ≠ 60 then some { s with es := s.es ++ [e] } else none)

theorem len3 {α : Type} {p q : α → Bool} (h : ∀ x, p x = true → q x = true → False) : ∀ ls : List α, ls.length = (ls.filter p).length + (ls.filter q).length + (ls.filter (fun x => !p x && !q x)).length
  | [] => by simp
  | y :: ys => by
    have ih := len3 h ys
    have hy := h y
    simp only [List.filter_cons, List.length_cons]
    cases hp : p y <;> cases hq : q y <;> simp_all <;> omega

theorem one_eq {α : Type} {o : α → α → Int} {e : α → Bool} {ls : List α} (hp : ls.Pairwise (fun x y => o x y < 0)) (he : ∀ x y, e x = true → e y = true → ¬ o x y < 0) (hx : ∃ x ∈ ls, e x = true) : (ls.filter e).length = 1 := by
  have h1 : (ls.filter e).Pairwise (fun x y => o x y < 0) := hp.filter _
  have h2 : ∀ x ∈ ls.filter e, e x = true := fun x hx => (List.mem_filter.1 hx).2
  obtain ⟨x, hx1, hx2⟩ := hx
  have h3 : x ∈ ls.filter e := List.mem_filter.2 ⟨hx1, hx2⟩
  match hm : ls.filter e with
  | [] => rw [hm] at h3; cases h3
  | [a] => rfl
  | a :: b :: r =>
    exfalso
    rw [hm] at h1 h2
    have := List.rel_of_pairwise_cons h1 (List.mem_cons_self (a := b))
    exact he a b (h2 a (by simp)) (h2 b (by simp)) this

/-- one put into a list that ascends: it is there already, or it is as the specification puts it -/
theorem put_same {α : Type} {o : α → α → Int} {ls : List α} (l : α) (tr : ∀ x y z, o x y < 0 → o y z < 0 → o x z < 0) (anti : ∀ x y, o x y < 0 → ¬ o y x < 0) (eqk : ∀ x y, ¬ o x l < 0 → ¬ o l x < 0 → ¬ o y l < 0 → ¬ o l y < 0 → ¬ o x y < 0) (hp : ls.Pairwise (fun x y => o x y < 0)) :
    ((ls.filter (fun x => decide (o x l < 0)) ++ [l] ++ ls.filter (fun x => decide (o l x < 0))).length = ls.length ∧ ¬ (insB (fun x => decide (o x l < 0)) ls l).Pairwise (fun x y => o x y < 0)) ∨
    ((ls.filter (fun x => decide (o x l < 0)) ++ [l] ++ ls.filter (fun x => decide (o l x < 0))).length ≠ ls.length ∧ insB (fun x => decide (o x l < 0)) ls l = ls.filter (fun x => decide (o x l < 0)) ++ [l] ++ ls.filter (fun x => decide (o l x < 0))) := by
  have hlen := len3 (p := fun x => decide (o x l < 0)) (q := fun x => decide (o l x < 0)) (fun x h1 h2 => anti _ _ (by simpa using h1) (by simpa using h2)) ls
  by_cases hx : ∃ x ∈ ls, (!decide (o x l < 0) && !decide (o l x < 0)) = true
  · left
    have h1 := one_eq (e := fun x => !decide (o x l < 0) && !decide (o l x < 0)) hp (fun x y h1 h2 => by
      simp only [Bool.and_eq_true, Bool.not_eq_true', decide_eq_false_iff_not] at h1 h2
      exact eqk x y h1.1 h1.2 h2.1 h2.2) hx
    refine ⟨by simp only [List.length_append, List.length_cons, List.length_nil]; omega, fun hP => ?_⟩
    obtain ⟨x, hx1, hx2⟩ := hx
    simp only [Bool.and_eq_true, Bool.not_eq_true', decide_eq_false_iff_not] at hx2
    have h3 : x ∈ ls.filter (fun x => !decide (o x l < 0)) := List.mem_filter.2 ⟨hx1, by simpa using hx2.1⟩
    unfold insB at hP
    have h4 := (List.pairwise_append.1 hP).2.2 l (by simp) x h3
    exact hx2.2 h4
  · right
    have h0 : (ls.filter (fun x => !decide (o x l < 0) && !decide (o l x < 0))).length = 0 := by
      rw [List.length_eq_zero_iff, List.filter_eq_nil_iff]
      exact fun x h1 h2 => hx ⟨x, h1, h2⟩
    refine ⟨by simp only [List.length_append, List.length_cons, List.length_nil]; omega, ?_⟩
    unfold insB
    congr 1
    refine List.filter_congr (fun x h1 => ?_)
    have h2 : ¬ (!decide (o x l < 0) && !decide (o l x < 0)) = true := fun h => hx ⟨x, h1, h⟩
    by_cases h3 : o x l < 0
    · have := anti _ _ h3
      simp [h3, this]
    · simp [h3] at h2
      simp [h3, h2]

theorem putLk_o (ls : List Lk) (l : Lk) : putLk ls l = ls.filter (fun x => decide (ordL x l < 0)) ++ [l] ++ ls.filter (fun x => decide (ordL l x < 0)) := by
  unfold putLk
  simp only [aheadB_eq]

theorem putT_o (ls : List Th) (l : Th) : putT ls l = ls.filter (fun x => decide (ordT x l < 0)) ++ [l] ++ ls.filter (fun x => decide (ordT l x < 0)) := by
  unfold putT
  simp only [thingB_eq]

theorem link_same (s : SD) (l : Lk) (hp : s.ls.Pairwise (fun x y => ordL x y < 0)) : putLF s l =
    (if s.es.length = 0 then (if (putLk s.ls l).length = s.ls.length then none else if netOkI ⟨s.n, putLk s.ls l, s.ts⟩ = true then some { s with ls := putLk s.ls l } else none) else none) := by
  have h := put_same (o := ordL) l (fun x y z h1 h2 => by rw [ordL_lt] at *; omega) (fun x y h1 h2 => by rw [ordL_lt] at *; omega) (fun x y h1 h2 h3 h4 h5 => by rw [ordL_lt] at *; omega) hp
  rw [← putLk_o] at h
  unfold putLF
  by_cases he : s.es.length = 0
  · rw [if_pos he]
    rcases h with ⟨h1, h2⟩ | ⟨h1, h2⟩
    · rw [if_pos h1, if_neg]
      rintro ⟨_, h3⟩
      exact h2 (links_pair (netI_parts h3).2.1)
    · rw [if_neg h1, h2]
      by_cases h3 : netOkI ⟨s.n, putLk s.ls l, s.ts⟩ = true
      · rw [if_pos ⟨he, h3⟩, if_pos h3]
      · rw [if_neg (fun h => h3 h.2), if_neg h3]
  · rw [if_neg (fun h => he h.1), if_neg he]

theorem thing_same (s : SD) (l : Th) (hp : s.ts.Pairwise (fun x y => ordT x y < 0)) : putTF s l =
    (if s.es.length = 0 then (if (putT s.ts l).length = s.ts.length then none else if netOkI ⟨s.n, s.ls, putT s.ts l⟩ = true then some { s with ts := putT s.ts l } else none) else none) := by
  have h := put_same (o := ordT) l (fun x y z h1 h2 => by rw [ordT_lt] at *; omega) (fun x y h1 h2 => by rw [ordT_lt] at *; omega) (fun x y h1 h2 h3 h4 h5 => by rw [ordT_lt] at *; omega) hp
  rw [← putT_o] at h
  unfold putTF
  by_cases he : s.es.length = 0
  · rw [if_pos he]
    rcases h with ⟨h1, h2⟩ | ⟨h1, h2⟩
    · rw [if_pos h1, if_neg]
      rintro ⟨_, h3⟩
      exact h2 (things_pair (netI_parts h3).2.2)
    · rw [if_neg h1, h2]
      by_cases h3 : netOkI ⟨s.n, s.ls, putT s.ts l⟩ = true
      · rw [if_pos ⟨he, h3⟩, if_pos h3]
      · rw [if_neg (fun h => h3 h.2), if_neg h3]
  · rw [if_neg (fun h => he h.1), if_neg he]
end Go.Proofs.YtpiookjdeopmgaaDoor
namespace Go.Proofs.YtpiookjdeopmgaaDoor
open Go.RowKit

set_option linter.unusedSimpArgs false
set_option linter.unusedVariables false

theorem linesF_at {s s' : SD} {k : Nat} {L : List (List UInt8)} {l : List UInt8} (hl : L[k]? = some l) (h : lineF s (bs l) = some s') : linesF s k (L.drop k) = linesF s' (k + 1) (L.drop (k + 1)) := by
  obtain ⟨hk, e⟩ := List.getElem?_eq_some_iff.1 hl
  rw [List.drop_eq_getElem_cons hk, e, linesF, h]

theorem linesF_no {s : SD} {k : Nat} {L : List (List UInt8)} {l : List UInt8} (hl : L[k]? = some l) (h : lineF s (bs l) = none) : linesF s k (L.drop k) = .inr ((k : Int) + 1) := by
  obtain ⟨hk, e⟩ := List.getElem?_eq_some_iff.1 hl
  rw [List.drop_eq_getElem_cons hk, e, linesF, h]

theorem ScIn.below {w w' : World} {lo sa m : Nat} {s : SD} (h : ScIn w lo sa m s) (hb : Below w.heap.size w w') : ScIn w' lo sa m s := by
  obtain ⟨a, b, c, h⟩ := h
  exact ⟨a, b, c, h.below hb⟩

theorem FrS.wmap {lo : Nat} {w w' : World} {sa m : Nat} {has : Nat → Prop} (h : WMap w sa m has) (f : FrS lo w w') : WMap w' sa m has :=
  h.then f.kp (fun o ho => f.other m o ho (fun cs t fr e => by
    obtain ⟨es, c, h1, _⟩ := h
    rw [h1] at ho
    cases ho
    cases e))

/-- a row of lines stays -/
theorem FrS.rows {lo base n : Nat} {w w' : World} {v : Value} {xs : List Value} (f : FrS lo w w') (h : w.ownsRow base 9 1 v n xs) : w'.ownsRow base 9 1 v n xs := by
  rcases h with ⟨hl, h2⟩
  refine ⟨hl, ?_⟩
  rcases h2 with h3 | ⟨g, cap, cur, rfl, hb, hg, h4⟩
  · exact .inl h3
  · exact .inr ⟨g, cap, cur, rfl, hb, f.other g _ hg (fun cs t fr e => by cases e; decide), h4⟩

set_option maxRecDepth 100000 in
set_option maxHeartbeats 4000000 in
theorem takeAll_any (lo sa m : Nat) (t : ByteArray) (w : World) (h : ScIn w lo sa m sd0) (hlo : lo ≤ w.heap.size) (hm : WMap w sa m (fun _ => True)) (ht : t.size ≤ 1048576) (htab : ∀ W, Below lo w W → Lib.TabIs Tryd.prog W "strings.asciiSpace" .u8 Lib.asciiSpaceTab) :
    Calls Tryd.prog 27 #[.pointer (some ⟨sa, 0, none⟩), .string t] w fun e w' => e = .returned (.int .i64 (retZ (scrF t))) ∧ FrS lo w w' ∧ ∀ s, scrF t = .inl s → ScIn w' lo sa m s ∧ SInv s := by
  obtain ⟨G, hG⟩ : ∃ G, G = scrF t := ⟨_, rfl⟩
  rw [← hG]
  have G0 := hide hG
  clear hG
  have HL := hide (ilines_any t w ht)
  have HS := hide h
  have HM := hide hm
  have HT := hide htab
  clear h hm htab
  obtain ⟨L, hL⟩ : ∃ L, L = lnsOf t.data.toList := ⟨_, rfl⟩
  rw [← hL] at HL
  have hLs : ∀ l ∈ L, l.length ≤ 1048576 := by
    rw [hL]
    intro l hl
    have := lnsOf_size _ l hl
    have e : t.data.toList.length = t.size := by simp
    omega
  have GL := hide (show G = if 4000 < t.size ∨ 100 < L.length then .inr (-1) else endF (linesF sd0 0 L) by rw [G0.out, scrF, hL])
  have HLS := hide hLs
  clear hL G0 hLs
  by_cases h4 : 4000 < t.size
  · have g := hide (show G = .inr (-1) by rw [GL.out, if_pos (.inl h4)])
    have h4i : (4000 : Int) < (t.size : Int) := by omega
    go_enter Tryd.func27, Tryd.ntmps27
    go_wp2
    go_ret
    exact ⟨by rw [g.out]; rfl, FrS.of (Below.refl _ _) hlo, fun s e => by rw [g.out] at e; cases e⟩
  have h4i : ¬ (4000 : Int) < (t.size : Int) := by omega
  go_enter Tryd.func27, Tryd.ntmps27
  go_wp2_with fail
  refine HL.out.mono ?_
  rintro e w2 ⟨v, rfl, hou, b2⟩
  obtain ⟨va, vc, rfl⟩ := owns_len hou
  have F2 := hide (FrS.of b2 hlo)
  have ST2 := hide (HS.out.below b2)
  have M2 := hide (FrS.wmap HM.out F2.out)
  have hs2 := b2.size
  clear b2
  by_cases h1 : 100 < L.length
  · have g := hide (show G = .inr (-1) by rw [GL.out, if_pos (.inr h1)])
    have h1i : (100 : Int) < (L.length : Int) := by omega
    clear hou
    go_wp2
    go_ret
    exact ⟨by rw [g.out]; rfl, F2.out, fun s e => by rw [g.out] at e; cases e⟩
  have h1i : ¬ (100 : Int) < (L.length : Int) := by omega
  have HSA := hide hou
  have GM := hide (show G = endF (linesF sd0 0 L) by rw [GL.out, if_neg (fun h => by rcases h with h | h <;> omega)])
  have hlw : lo ≤ w2.heap.size := by omega
  clear hou GL
  go_wp2
  go_loopw [18] (fun i wr => ∃ (k : Nat) (s : SD), k ≤ L.length ∧ i = .int .i64 k ∧ Hid (linesF sd0 0 L = linesF s k (L.drop k)) ∧ Hid (ScIn wr lo sa m s) ∧ Hid (SInv s) ∧ Hid (FrS lo w2 wr)) (fun i _ => L.length - (intOf i).toNat)
  case atStart => exact ⟨0, sd0, by omega, rfl, hide rfl, ST2, hide sd0_inv, hide (FrS.of (Below.refl _ _) hlw)⟩
  case round =>
    obtain ⟨k, s, hk, rfl, HE, HST, HIV, HF⟩ := hrel
    have hlr : lo ≤ wr.heap.size := by have := HF.out.below.size; omega
    by_cases hlt : k < L.length
    · obtain ⟨l, hl⟩ : ∃ l, L[k]? = some l := ⟨_, List.getElem?_eq_getElem hlt⟩
      obtain ⟨b, off, cap', hvv, hb, hc⟩ := StrsAt.cell (strsAt_of (HF.out.rows HSA.out)) k l hl
      obtain ⟨rfl, rfl⟩ : va = some ⟨b, off, none⟩ ∧ vc = cap' := by cases hvv; exact ⟨rfl, rfl⟩
      have hls : (bs l).size ≤ 1048576 := HLS.out l (List.mem_of_getElem? hl)
      obtain ⟨u1, u2, u3, hst⟩ := HST.out
      have HTK := hide (take_any lo sa m s (bs l) u1 u2 u3 wr hst hlr HIV.out.ok (FrS.wmap M2.out HF.out) hls (HT.out _ (F2.out.below.trans HF.out.below)))
      obtain ⟨T, hT⟩ : ∃ T, T = bs l := ⟨_, rfl⟩
      obtain ⟨R, hR⟩ : ∃ R, R = lineF s (bs l) := ⟨_, rfl⟩
      rw [← hR, ← hT] at HTK
      rw [← hT] at hc
      have HLK := hide hl
      have HRR := hide hR
      have hki : (0 : Int) ≤ (k : Int) := by omega
      have hkj : (k : Int) < (L.length : Int) := by omega
      clear hl hT hR hst hvv hls
      go_wp2_with fail
      refine HTK.out.mono ?_
      rintro e w5 ⟨rfl, F5, R5⟩
      have HF5 := hide (HF.out.trans F5)
      have HR5 := hide R5
      clear F5 R5
      rcases R with _ | s'
      · have g := hide (show G = .inr ((k : Int) + 1) by
          rw [GM.out, HE.out, linesF_no HLK.out HRR.out.symm]
          rfl)
        have hw1 : IntKind.i64.wrap ((k : Int) + 1) = (k : Int) + 1 := by rw [IntKind.wrap_i64]; omega
        go_wp2
        go_ret
        exact ⟨by rw [g.out]; rfl, F2.out.trans HF5.out, fun s e => by rw [g.out] at e; cases e⟩
      · have HE2 := hide (HE.out.trans (linesF_at HLK.out HRR.out.symm))
        have HI2 := hide (lineF_inv HIV.out HRR.out.symm)
        have HS2 := hide (HR5.out s' rfl)
        go_wp2
        go_roundw
        case rel => exact ⟨k + 1, s', by omega, by go_num, HE2, HS2, HI2, HF5⟩
        case measure => simp [intOf]; omega
    · have hke : k = L.length := by omega
      have GE := hide (show G = endF (.inl s) by
        rw [GM.out, HE.out, hke, List.drop_length]
        rfl)
      obtain ⟨u1, u2, u3, hst⟩ := HST.out
      have c0 := cells_at hst.box 0
      simp at c0
      have hkj : ¬ (k : Int) < (L.length : Int) := by omega
      clear hke hst
      by_cases h0 : s.n = 0
      · have g := hide (show G = .inr 1 by rw [GE.out, endF, if_pos h0])
        rw [h0] at c0
        go_wp2
        go_ret
        exact ⟨by rw [g.out]; rfl, F2.out.trans HF.out, fun s e => by rw [g.out] at e; cases e⟩
      · have g := hide (show G = .inl s by rw [GE.out, endF, if_neg h0])
        have h0b : (s.n == 0) = false := by simpa using h0
        go_wp2
        go_ret
        exact ⟨by rw [g.out]; rfl, F2.out.trans HF.out, fun s2 e => by rw [g.out] at e; cases e; exact ⟨HST.out, HIV.out⟩⟩
end Go.Proofs.YtpiookjdeopmgaaDoor
