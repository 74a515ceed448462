/-
  A line of a script does the same by the program and by the specification.
  impl.ReadScript: its contract.
-/
import Derived.Test.YtpiookjdeopmgaaDoorRd35
import Derived.Test.YtpiookjdeopmgaaDoorRd34
namespace Go.Proofs.YtpiookjdeopmgaaDoor
open Go.RowKit

set_option linter.unusedSimpArgs false
set_option linter.unusedVariables false
set_option maxRecDepth 100000

theorem putE_s (s : SD) (e : EvD) : putEF s e = if eventOkB s.n e = true ∧ s.es.length ≠ 60 then some { s with es := s.es ++ [e] } else none := by
  unfold putEF
  by_cases h1 : s.es.length = 60
  · rw [if_pos h1, if_neg (fun h => h.2 h1)]
  · rw [if_neg h1]
    by_cases h2 : eventOkB s.n e = true
    · rw [if_pos h2, if_pos ⟨h2, h1⟩]
    · rw [if_neg h2, if_neg (fun h => h2 h.1)]

theorem evOk_pos {n : Int} {e : EvD} (h : eventOkB n e = true) : 1 ≤ n := by
  simp [eventOkB, inB] at h
  omega

theorem net0 (k : Int) : netOkI ⟨k, [], []⟩ = inB k 1 6 := by simp [netOkI, linksB, thingsB, allOk, ascB]

theorem ev_bytes (ps : List (List UInt8)) : evF (wBytes :: ps) = if ps.length = 2 ∧ okN (ps.getD 0 []) = true ∧ unB (bs (ps.getD 1 [])) = true then some ⟨9, numI (ps.getD 0 []), 0, unX (bs (ps.getD 1 []))⟩ else none := by
  unfold evF
  by_cases h : ps.length = 2
  · rw [if_pos ⟨rfl, by simp [h]⟩]
    simp only [List.getD_cons_succ, Bool.and_eq_true, h, true_and]
  · have hc : ¬ ((wBytes :: ps).getD 0 [] = wBytes ∧ (wBytes :: ps).length = 3) := fun h2 => h (by have := h2.2; simp at this; omega)
    have hd : ¬ (wds.findIdx (· == (wBytes :: ps).getD 0 []) < 8 ∧ numsN 1 ((wBytes :: ps).drop 1) = true) := fun h2 => absurd h2.1 (by rw [List.getD_cons_zero]; decide)
    have he : ¬ (ps.length = 2 ∧ okN (ps.getD 0 []) = true ∧ unB (bs (ps.getD 1 [])) = true) := fun h2 => h h2.1
    rw [if_neg hc, if_neg hd, if_neg he]

theorem ev_none {p : List UInt8} {ps : List (List UInt8)} (h1 : p ≠ wBytes) (h2 : ¬ wds.findIdx (· == p) < 8) : evF (p :: ps) = none := by
  unfold evF
  rw [if_neg (fun h => h1 h.1), if_neg (fun h => h2 h.1)]

theorem ev_word {p : List UInt8} {ps : List (List UInt8)} {k : Nat} (h1 : p ≠ wBytes) (h2 : wds.findIdx (· == p) = k) (hk : k < 8) : evF (p :: ps) = if numsN 1 ps = true then some (evW k (numI (ps.getD 0 []))) else none := by
  unfold evF
  rw [if_neg (fun h => h1 h.1)]
  simp only [List.getD_cons_zero, h2, hk, true_and, List.drop_succ_cons, List.drop_zero]

theorem nod_s (s : SD) (k : Int) (ps : List (List UInt8)) : nodW s k ps = (if numsN 1 ps = true then some (⟨k, numI (ps.getD 0 []), 0, ⟨#[]⟩⟩ : EvD) else none).bind (fun e => if eventOkB s.n e = true ∧ s.es.length ≠ 60 then some { s with es := s.es ++ [e] } else none) := by
  unfold nodW
  split <;> simp [putE_s]

theorem plc_s (s : SD) (k : Int) (ps : List (List UInt8)) : plcW s k ps = (if numsN 1 ps = true then some (⟨k, 1, numI (ps.getD 0 []), ⟨#[]⟩⟩ : EvD) else none).bind (fun e => if eventOkB s.n e = true ∧ s.es.length ≠ 60 then some { s with es := s.es ++ [e] } else none) := by
  unfold plcW
  split <;> simp [putE_s]

theorem byt_s (s : SD) (ps : List (List UInt8)) : bytW s ps = (evF (wBytes :: ps)).bind (fun e => if eventOkB s.n e = true ∧ s.es.length ≠ 60 then some { s with es := s.es ++ [e] } else none) := by
  rw [ev_bytes]
  unfold bytW
  by_cases h : ps.length = 2 ∧ okN (ps.getD 0 []) = true ∧ unB (bs (ps.getD 1 [])) = true
  · rw [if_pos h, if_pos h]
    have e : rdN (ps.getD 0 []) = numI (ps.getD 0 []) := by unfold rdN; rw [if_pos h.2.1]
    rw [e, putE_s]
    rfl
  · rw [if_neg h, if_neg h]
    rfl

theorem ev_tick (ps : List (List UInt8)) : evF ([116, 105, 99, 107] :: ps) = if numsN 1 ps = true then some (evW 0 (numI (ps.getD 0 []))) else none := ev_word (by decide) (by decide) (by decide)
theorem ev_deliver (ps : List (List UInt8)) : evF ([100, 101, 108, 105, 118, 101, 114] :: ps) = if numsN 1 ps = true then some (evW 1 (numI (ps.getD 0 []))) else none := ev_word (by decide) (by decide) (by decide)
theorem ev_drop (ps : List (List UInt8)) : evF ([100, 114, 111, 112] :: ps) = if numsN 1 ps = true then some (evW 2 (numI (ps.getD 0 []))) else none := ev_word (by decide) (by decide) (by decide)
theorem ev_copy (ps : List (List UInt8)) : evF ([99, 111, 112, 121] :: ps) = if numsN 1 ps = true then some (evW 3 (numI (ps.getD 0 []))) else none := ev_word (by decide) (by decide) (by decide)
theorem ev_cut (ps : List (List UInt8)) : evF ([99, 117, 116] :: ps) = if numsN 1 ps = true then some (evW 4 (numI (ps.getD 0 []))) else none := ev_word (by decide) (by decide) (by decide)
theorem ev_raise (ps : List (List UInt8)) : evF ([114, 97, 105, 115, 101] :: ps) = if numsN 1 ps = true then some (evW 5 (numI (ps.getD 0 []))) else none := ev_word (by decide) (by decide) (by decide)
theorem ev_down (ps : List (List UInt8)) : evF ([100, 111, 119, 110] :: ps) = if numsN 1 ps = true then some (evW 6 (numI (ps.getD 0 []))) else none := ev_word (by decide) (by decide) (by decide)
theorem ev_up (ps : List (List UInt8)) : evF ([117, 112] :: ps) = if numsN 1 ps = true then some (evW 7 (numI (ps.getD 0 []))) else none := ev_word (by decide) (by decide) (by decide)

theorem bind_n0 {s : SD} (h : s.n = 0) (o : Option EvD) : o.bind (fun e => if eventOkB s.n e = true ∧ s.es.length ≠ 60 then some { s with es := s.es ++ [e] } else none) = none := by
  cases o with
  | none => rfl
  | some e =>
    simp only [Option.bind_some]
    rw [if_neg]
    rintro ⟨h1, _⟩
    have := evOk_pos h1
    omega

theorem sStep_n {s : SD} (h : s.n = 0) (ps : List (List UInt8)) : sStep s wNet ps = if numsN 1 ps = true ∧ inB (numI (ps.getD 0 [])) 1 6 = true then some { s with n := numI (ps.getD 0 []) } else none := by
  unfold sStep
  rw [if_pos h]
  simp only [true_and]
theorem sStep_0 {s : SD} (h : s.n = 0) {p : List UInt8} (hp : p ≠ wNet) (ps : List (List UInt8)) : sStep s p ps = none := by
  unfold sStep
  rw [if_pos h, if_neg (fun h => hp h.1)]
theorem sStep_p {s : SD} (h : 1 ≤ s.n) {p : List UInt8} (hp : p = wLink ∨ p = wThing ∨ p = wFar) (ps : List (List UInt8)) : sStep s p ps = if s.es.length = 0 then (partF s.n s.ls s.ts p ps).map (fun r => { s with ls := r.1, ts := r.2 }) else none := by
  unfold sStep
  have h0 : ¬ s.n = 0 := by omega
  rw [if_neg h0, if_pos hp]
theorem sStep_e {s : SD} (h : 1 ≤ s.n) {p : List UInt8} (hp : ¬ (p = wLink ∨ p = wThing ∨ p = wFar)) (ps : List (List UInt8)) : sStep s p ps = (evF (p :: ps)).bind (fun e => if eventOkB s.n e = true ∧ s.es.length ≠ 60 then some { s with es := s.es ++ [e] } else none) := by
  unfold sStep
  have h0 : ¬ s.n = 0 := by omega
  rw [if_neg h0, if_neg hp]

theorem lnk0 {s : SD} (h : s.n = 0) (l : Lk) : putLF s l = none := by
  unfold putLF
  exact if_neg (fun h2 => by have := (netI_parts h2.2).1.1; omega)
theorem thg0 {s : SD} (h : s.n = 0) (l : Th) : putTF s l = none := by
  unfold putTF
  exact if_neg (fun h2 => by have := (netI_parts h2.2).1.1; omega)

theorem step_eq (s : SD) (h : SInv s) (p : List UInt8) (ps : List (List UInt8)) : (findW p).bind (fun k => stepW k s ps) = sStep s p ps := by
  have hpair : s.ls.Pairwise (fun x y => ordL x y < 0) ∧ s.ts.Pairwise (fun x y => ordT x y < 0) := by
    rcases h with ⟨_, h1, h2, _⟩ | ⟨h1, _⟩
    · rw [h1, h2]; exact ⟨List.Pairwise.nil, List.Pairwise.nil⟩
    · exact ⟨links_pair (netI_parts h1).2.1, things_pair (netI_parts h1).2.2⟩
  have hn : s.n = 0 ∧ s.ls = [] ∧ s.ts = [] ∧ s.es = [] ∨ 1 ≤ s.n := by
    rcases h with h | ⟨h1, _⟩
    · exact .inl h
    · exact .inr (netI_parts h1).1.1
  by_cases p0 : p = wNet
  · subst p0
    rw [show findW wNet = some .net from findW_at 0 (by omega)]
    show netW s ps = _
    unfold netW netF
    rcases hn with ⟨h0, h1, h2, h3⟩ | h1
    · rw [sStep_n h0]
      have h0' : ¬ 0 < s.n := by omega
      by_cases hq : numsN 1 ps = true
      · rw [if_pos hq, if_neg h0', h1, h2, net0]
        by_cases hr : inB (numI (ps.getD 0 [])) 1 6 = true
        · rw [if_pos hr, if_pos ⟨hq, hr⟩]
        · have hc : ¬ (numsN 1 ps = true ∧ inB (numI (ps.getD 0 [])) 1 6 = true) := fun h => hr h.2
          rw [if_neg hr, if_neg hc]
      · have hc : ¬ (numsN 1 ps = true ∧ inB (numI (ps.getD 0 [])) 1 6 = true) := fun h => hq h.1
        rw [if_neg hq, if_neg hc]
    · rw [sStep_e h1 (by decide), ev_none (by decide) (by decide)]
      have h0' : 0 < s.n := by omega
      rw [if_pos h0']
      split <;> rfl
  by_cases p1 : p = wLink
  · subst p1
    rw [show findW wLink = some .lnk from findW_at 1 (by omega)]
    show lnkW s ps = _
    unfold lnkW
    rcases hn with ⟨h0, h1, h2, h3⟩ | h1
    · rw [sStep_0 h0 p0, lnk0 h0]
      split <;> rfl
    · rw [sStep_p h1 (.inl rfl), link_same s _ hpair.1]
      unfold partF
      by_cases hq : numsN 4 ps = true
      · have hc1 : wLink = wLink ∧ numsN 4 ps = true := ⟨rfl, hq⟩
        rw [if_pos hq, if_pos hc1]
        split
        · split
          · rfl
          · split <;> rfl
        · rfl
      · have hc : ¬ ((wLink = wThing ∨ wLink = wFar) ∧ numsN 3 ps = true) := fun h => by rcases h.1 with h | h <;> revert h <;> decide
        have hc2 : ¬ (wLink = wLink ∧ numsN 4 ps = true) := fun h => hq h.2
        rw [if_neg hq, if_neg hc2, if_neg hc]
        split <;> rfl
  have thing : ∀ (w : List UInt8) (far : Bool), p = w → (w = wThing ∨ w = wFar) → (w == wFar) = far → findW w = some (.thg far) → w ≠ wLink → w ≠ wNet → (findW p).bind (fun k => stepW k s ps) = sStep s p ps := by
    intro w far hpw hw hf hk hl hnn
    subst hpw
    rw [hk]
    show thgW s far ps = _
    unfold thgW
    rcases hn with ⟨h0, h1, h2, h3⟩ | h1
    · rw [sStep_0 h0 p0, thg0 h0]
      split <;> rfl
    · rw [sStep_p h1 (.inr hw), thing_same s _ hpair.2]
      unfold partF
      have hc2 : ¬ (p = wLink ∧ numsN 4 ps = true) := fun h => hl h.1
      rw [if_neg hc2, hf]
      by_cases hq : numsN 3 ps = true
      · have hc1 : (p = wThing ∨ p = wFar) ∧ numsN 3 ps = true := ⟨hw, hq⟩
        rw [if_pos hq, if_pos hc1]
        split
        · split
          · rfl
          · split <;> rfl
        · rfl
      · have hc : ¬ ((p = wThing ∨ p = wFar) ∧ numsN 3 ps = true) := fun h => hq h.2
        rw [if_neg hq, if_neg hc]
        split <;> rfl
  by_cases p2 : p = wThing
  · exact thing wThing false p2 (.inl rfl) rfl (findW_at 2 (by omega)) (by decide) (by decide)
  by_cases p3 : p = wFar
  · exact thing wFar true p3 (.inr rfl) rfl (findW_at 3 (by omega)) (by decide) (by decide)
  clear thing
  have hnp : ¬ (p = wLink ∨ p = wThing ∨ p = wFar) := fun h => by
    rcases h with h | h | h
    · exact p1 h
    · exact p2 h
    · exact p3 h
  have key : ∀ o : Option SD, (s.n = 0 → o = none) → (1 ≤ s.n → o = (evF (p :: ps)).bind (fun e => if eventOkB s.n e = true ∧ s.es.length ≠ 60 then some { s with es := s.es ++ [e] } else none)) → o = sStep s p ps := by
    intro o h1 h2
    rcases hn with ⟨h0, _⟩ | h0
    · rw [sStep_0 h0 p0]; exact h1 h0
    · rw [sStep_e h0 hnp]; exact h2 h0
  by_cases q0 : p = [116, 105, 99, 107]
  · subst q0
    rw [show findW [116, 105, 99, 107] = some (.nod 1) from findW_at 4 (by omega)]
    show nodW s 1 ps = _
    rw [nod_s]
    exact key _ (fun h0 => bind_n0 h0 _) (fun _ => by rw [ev_tick]; rfl)
  by_cases q1 : p = [100, 101, 108, 105, 118, 101, 114]
  · subst q1
    rw [show findW [100, 101, 108, 105, 118, 101, 114] = some (.plc 2) from findW_at 5 (by omega)]
    show plcW s 2 ps = _
    rw [plc_s]
    exact key _ (fun h0 => bind_n0 h0 _) (fun _ => by rw [ev_deliver]; rfl)
  by_cases q2 : p = [100, 114, 111, 112]
  · subst q2
    rw [show findW [100, 114, 111, 112] = some (.plc 3) from findW_at 6 (by omega)]
    show plcW s 3 ps = _
    rw [plc_s]
    exact key _ (fun h0 => bind_n0 h0 _) (fun _ => by rw [ev_drop]; rfl)
  by_cases q3 : p = [99, 111, 112, 121]
  · subst q3
    rw [show findW [99, 111, 112, 121] = some (.plc 4) from findW_at 7 (by omega)]
    show plcW s 4 ps = _
    rw [plc_s]
    exact key _ (fun h0 => bind_n0 h0 _) (fun _ => by rw [ev_copy]; rfl)
  by_cases q4 : p = [99, 117, 116]
  · subst q4
    rw [show findW [99, 117, 116] = some (.plc 5) from findW_at 8 (by omega)]
    show plcW s 5 ps = _
    rw [plc_s]
    exact key _ (fun h0 => bind_n0 h0 _) (fun _ => by rw [ev_cut]; rfl)
  by_cases q5 : p = [114, 97, 105, 115, 101]
  · subst q5
    rw [show findW [114, 97, 105, 115, 101] = some (.plc 6) from findW_at 9 (by omega)]
    show plcW s 6 ps = _
    rw [plc_s]
    exact key _ (fun h0 => bind_n0 h0 _) (fun _ => by rw [ev_raise]; rfl)
  by_cases q6 : p = [100, 111, 119, 110]
  · subst q6
    rw [show findW [100, 111, 119, 110] = some (.nod 7) from findW_at 10 (by omega)]
    show nodW s 7 ps = _
    rw [nod_s]
    exact key _ (fun h0 => bind_n0 h0 _) (fun _ => by rw [ev_down]; rfl)
  by_cases q7 : p = [117, 112]
  · subst q7
    rw [show findW [117, 112] = some (.nod 8) from findW_at 11 (by omega)]
    show nodW s 8 ps = _
    rw [nod_s]
    exact key _ (fun h0 => bind_n0 h0 _) (fun _ => by rw [ev_up]; rfl)
  by_cases q8 : p = wBytes
  · subst q8
    rw [show findW wBytes = some .byt from findW_at 12 (by omega)]
    show bytW s ps = _
    rw [byt_s]
    exact key _ (fun h0 => bind_n0 h0 _) (fun _ => rfl)
  have hf : findW p = none := findW_none (fun j hj e => by
    have : j = 0 ∨ j = 1 ∨ j = 2 ∨ j = 3 ∨ j = 4 ∨ j = 5 ∨ j = 6 ∨ j = 7 ∨ j = 8 ∨ j = 9 ∨ j = 10 ∨ j = 11 ∨ j = 12 := by omega
    rcases this with rfl | rfl | rfl | rfl | rfl | rfl | rfl | rfl | rfl | rfl | rfl | rfl | rfl
    · exact p0 e.symm
    · exact p1 e.symm
    · exact p2 e.symm
    · exact p3 e.symm
    · exact q0 e.symm
    · exact q1 e.symm
    · exact q2 e.symm
    · exact q3 e.symm
    · exact q4 e.symm
    · exact q5 e.symm
    · exact q6 e.symm
    · exact q7 e.symm
    · exact q8 e.symm)
  rw [hf]
  refine key _ (fun _ => rfl) (fun _ => ?_)
  rw [ev_none q8]
  · rfl
  · intro hlt
    have h1 : wds.findIdx (· == p) < wds.length := hlt
    have h2 := List.findIdx_getElem (w := h1)
    have h3 : wds[wds.findIdx (· == p)] ∈ wds := List.getElem_mem h1
    have h4 : wds[wds.findIdx (· == p)] = p := by simpa using h2
    rw [h4] at h3
    simp only [wds, List.mem_cons, List.not_mem_nil, or_false] at h3
    rcases h3 with h | h | h | h | h | h | h | h
    · exact q0 h
    · exact q1 h
    · exact q2 h
    · exact q3 h
    · exact q4 h
    · exact q5 h
    · exact q6 h
    · exact q7 h
end Go.Proofs.YtpiookjdeopmgaaDoor
namespace Go.Proofs.YtpiookjdeopmgaaDoor
open Go.RowKit

set_option linter.unusedSimpArgs false
set_option linter.unusedVariables false

theorem results_cell_two {fn : Func} {p u u2 : Tmp} {ty : TypeId} (h : fn.results = #[.cell p ty, .tmp u, .tmp u2]) (tmps : Array Value) (P : Program) (w : World) :
    (results fn tmps).run P w =
      ((asAddr (tmps.getD p undef)).run P w).andThen fun a w₁ => ((loadVar ty a).run P w₁).andThen fun v w₂ => .ok (.tuple #[v, tmps.getD u undef, tmps.getD u2 undef]) w₂ := by
  simp only [results, h]
  simp [Sem.run_bind, Result.andThen]

theorem results_cell_row_two {P : Program} {fn : Func} {p u u2 : Tmp} {ty : TypeId} (h : fn.results = #[.cell p ty, .tmp u, .tmp u2]) (tmps : Array Value) (w : World) (g : Nat) (t : TypeId) (cs : Array Value) (fr : Nat × Nat) (d : TypeDesc)
    (hp : tmps.getD p undef = .pointer (some ⟨g, 0, none⟩)) (hg : w.heap[g]? = some (.cells cs t fr))
    (hu : P.underlying ty = some d) (hd : (match d with | .struct _ | .array _ _ => true | _ => false) = true) (hi : (P.info? ty).map (·.size) = some cs.size) :
    (results fn tmps).run P w = .ok (.tuple #[.agg cs, tmps.getD u undef, tmps.getD u2 undef]) w := by
  have hp' : tmps[p]?.getD undef = .pointer (some ⟨g, 0, none⟩) := by simpa using hp
  rw [results_cell_two h]
  simp [hp', asAddr, run_loadVar_row w g t ty cs fr d hg hu hd hi]

theorem set3_other (w : World) (p k : Nat) (a b c : Value) (h : k ≠ p) : (((w.setCell ⟨p, 0, none⟩ a).setCell ⟨p, 1, none⟩ b).setCell ⟨p, 2, none⟩ c).heap[k]? = w.heap[k]? := by
  rw [heap_setCell_other _ ⟨p, 2, none⟩ _ _ h, heap_setCell_other _ ⟨p, 1, none⟩ _ _ h, heap_setCell_other _ ⟨p, 0, none⟩ _ _ h]

theorem set3_same {w : World} {p : Nat} {u0 u1 u2 : Value} {T : TypeId} (a b c : Value) (h : w.heap[p]? = some (.cells #[u0, u1, u2] T)) : (((w.setCell ⟨p, 0, none⟩ a).setCell ⟨p, 1, none⟩ b).setCell ⟨p, 2, none⟩ c).heap[p]? = some (.cells #[a, b, c] T) :=
  heap_setCell_same _ _ 2 _ _ c (heap_setCell_same _ _ 1 _ _ b (heap_setCell_same _ _ 0 _ _ a h))

theorem lines_nz : ∀ (L : List (List UInt8)) (s : SD) (k : Nat) (z : Int), linesF s k L = .inr z → z ≠ 0
  | [], s, k, z, h => by cases h
  | l :: L, s, k, z, h => by
    unfold linesF at h
    split at h
    · exact lines_nz L _ _ z h
    · cases h
      omega

theorem scr_nz (t : ByteArray) (k : Int) (h : scrF t = .inr k) : k ≠ 0 := by
  unfold scrF at h
  split at h
  · cases h; omega
  · cases hl : linesF sd0 0 (lnsOf t.data.toList) with
    | inl s =>
      rw [hl] at h
      unfold endF at h
      simp only [] at h
      split at h
      · cases h; omega
      · cases h
    | inr z =>
      rw [hl] at h
      unfold endF at h
      simp only [] at h
      cases h
      exact lines_nz _ _ _ _ hl

/-- what ReadScript tells of a text: net and events in rows of its own -/
structure RsOwn (w : World) (lo : Nat) (v1 v2 v3 : Value) (s : SD) : Prop where
  r1 : w.ownsRow lo 77 4 v1 s.ls.length (flat lkE s.ls)
  r2 : w.ownsRow lo 81 4 v2 s.ts.length (flat thE s.ts)
  r3 : w.ownsRow lo 53 4 v3 s.es.length (flat evE s.es)

set_option maxRecDepth 100000 in
set_option maxHeartbeats 4000000 in
theorem iread_any (t : ByteArray) (w : World) (ht : t.size ≤ 1048576) (htab : Lib.TabIs Tryd.prog w "strings.asciiSpace" .u8 Lib.asciiSpaceTab) :
    Calls Tryd.prog 6 #[.string t] w fun e w' => ∃ v1 v2 v3, e = .returned (.tuple #[.agg #[.int .i64 (resD (scrF t)).n, v1, v2], v3, .int .i64 (retZ (scrF t))]) ∧ RsOwn w' w.heap.size v1 v2 v3 (resD (scrF t)) ∧ Below w.heap.size w w' := by
  obtain ⟨G, hG⟩ : ∃ G, G = scrF t := ⟨_, rfl⟩
  rw [← hG]
  have G0 := hide hG
  clear hG
  have HTB := hide htab
  clear htab
  obtain ⟨w1, hw1⟩ : ∃ w1, w1 = w.alloc (.cells #[.int .i64 0, .slice none 0 0, .slice none 0 0] 25) := ⟨_, rfl⟩
  have b1 : Below w.heap.size w w1 := by rw [hw1]; exact (Below.refl _ _).alloc (Nat.le_refl _) _
  have c1 : w1.heap[w.heap.size]? = some (.cells #[.int .i64 0, .slice none 0 0, .slice none 0 0] 25) := by rw [hw1]; exact heap_alloc_new w _
  have HN := hide (newScript_any w1)
  have HC1 := hide c1
  have hs1 : w.heap.size < w1.heap.size := lt_of_heap c1
  clear c1
  go_enter Tryd.func6, Tryd.ntmps6
  go_wp2_with fail
  rw [← hw1]
  clear hw1
  refine HN.out.mono ?_
  rintro e w2 ⟨sa, m, rfl, hsm, hwm, hst, b2⟩
  have hs2 := b2.size
  have hT : ∀ W, Below w1.heap.size w2 W → Lib.TabIs Tryd.prog W "strings.asciiSpace" .u8 Lib.asciiSpaceTab := fun W hb => tab_thenB HTB.out (b1.trans ((b2.mono (by omega)).trans (hb.mono (by omega))))
  have HA := hide (takeAll_any w1.heap.size sa m t w2 ⟨_, _, _, hst⟩ hs2 hwm ht hT)
  have B2 := hide (b1.trans (b2.mono (by omega)))
  have HC2 := hide ((b2.block _ hs1).trans HC1.out)
  rw [← G0.out] at HA
  clear hst hwm hT b1 b2
  go_wp2_with fail
  refine HA.out.mono ?_
  rintro e w3 ⟨rfl, F3, R3⟩
  have B3 := hide (B2.out.trans (F3.below.mono (by omega)))
  have HC3 := hide (F3.other _ _ HC2.out (fun cs t fr e => by cases e; decide))
  have HF3 := hide F3
  have HR3 := hide R3
  have hs3 := F3.below.size
  clear F3 R3
  have fz := frozen_at HC3.out
  have t0 := cells_at HC3.out 0
  have t1 := cells_at HC3.out 1
  have t2 := cells_at HC3.out 2
  simp at t0 t1 t2
  rcases G with s | k
  · obtain ⟨⟨v1, v2, v3, hst⟩, hiv⟩ := HR3.out s rfl
    have hbx := hst.box
    obtain ⟨a1, n1, rfl⟩ := owns_lenS hst.r1
    obtain ⟨a2, n2, rfl⟩ := owns_lenS hst.r2
    obtain ⟨a3, n3, rfl⟩ := owns_lenS hst.r3
    have HST := hide hst
    have hlow := hst.low
    have hne : sa ≠ w.heap.size := by omega
    obtain ⟨Wd, hWd⟩ : ∃ Wd, Wd = w3.drew := ⟨_, rfl⟩
    have HBX := hide (show Wd.heap[sa]? = some (.cells #[.int .i64 s.n, .slice a1 s.ls.length n1, .slice a2 s.ts.length n2, .slice a3 s.es.length n3, .map (some m)] 62) from by rw [hWd]; exact hbx)
    have HC3d := hide (show Wd.heap[w.heap.size]? = some (.cells #[.int .i64 0, .slice none 0 0, .slice none 0 0] 25) from by rw [hWd]; exact HC3.out)
    have B3d := hide (show Below w.heap.size w Wd by rw [hWd]; exact B3.out.drew)
    have hR1 : Wd.ownsRow w1.heap.size 77 4 (.slice a1 s.ls.length n1) s.ls.length (flat lkE s.ls) := by rw [hWd]; exact HST.out.r1.drew
    have hR2 : Wd.ownsRow w1.heap.size 81 4 (.slice a2 s.ts.length n2) s.ts.length (flat thE s.ts) := by rw [hWd]; exact HST.out.r2.drew
    have hR3 : Wd.ownsRow w1.heap.size 53 4 (.slice a3 s.es.length n3) s.es.length (flat evE s.es) := by rw [hWd]; exact HST.out.r3.drew
    have HRR := hide (And.intro hR1 (And.intro hR2 hR3))
    simp only [retZ]
    clear hst hbx hiv t0 t1 t2 fz hR1 hR2 hR3
    go_wp2
    refine wp_region_start (S := fun W => W.heap[sa]? = some (.cells #[.int .i64 s.n, .slice a1 s.ls.length n1, .slice a2 s.ts.length n2, .slice a3 s.es.length n3, .map (some m)] 62)) (by kernel_rfl) 11 rfl (by rw [← hWd]; exact HBX.out) (fun ops hops hHeld => ?_)
    rw [← hWd] at hHeld ⊢
    clear hWd
    refine take_do 0 (oi := ?_) (v := ?_) ?_ (by rw [hops.out]; kernel_rfl) ?_ ?_ ?_ hHeld ?_
    rotate_left 2
    · rw [hops.out]; simp only [List.getElem?_toArray, List.getElem?_cons_succ, List.getElem?_cons_zero]; rfl
    · rw [hops.out]; kernel_rfl
    · intro W hW; have g0 := cells_at hW 0; have g1 := cells_at hW 1; have g2 := cells_at hW 2; have g3 := cells_at hW 3; simp only [List.getElem?_toArray, List.getElem?_cons_succ, List.getElem?_cons_zero] at g0 g1 g2 g3; go_simp <;> with_reducible rfl
    · exact fun _ _ _ h => h
    try simp only [Act.put, List.setIfInBounds_toArray, List.set_cons_zero, List.set_cons_succ]
    refine take_do 1 (oi := ?_) (v := ?_) ?_ (by rw [hops.out]; kernel_rfl) ?_ ?_ ?_ hHeld ?_
    rotate_left 2
    · rw [hops.out]; simp only [List.getElem?_toArray, List.getElem?_cons_succ, List.getElem?_cons_zero]; rfl
    · rw [hops.out]; kernel_rfl
    · intro W hW; have g0 := cells_at hW 0; have g1 := cells_at hW 1; have g2 := cells_at hW 2; have g3 := cells_at hW 3; simp only [List.getElem?_toArray, List.getElem?_cons_succ, List.getElem?_cons_zero] at g0 g1 g2 g3; go_simp <;> with_reducible rfl
    · exact fun _ _ _ h => h
    try simp only [Act.put, List.setIfInBounds_toArray, List.set_cons_zero, List.set_cons_succ]
    refine take_do 2 (oi := ?_) (v := ?_) ?_ (by rw [hops.out]; kernel_rfl) ?_ ?_ ?_ hHeld ?_
    rotate_left 2
    · rw [hops.out]; simp only [List.getElem?_toArray, List.getElem?_cons_succ, List.getElem?_cons_zero]; rfl
    · rw [hops.out]; kernel_rfl
    · intro W hW; have g0 := cells_at hW 0; have g1 := cells_at hW 1; have g2 := cells_at hW 2; have g3 := cells_at hW 3; simp only [List.getElem?_toArray, List.getElem?_cons_succ, List.getElem?_cons_zero] at g0 g1 g2 g3; go_simp <;> with_reducible rfl
    · exact fun _ _ _ h => h
    try simp only [Act.put, List.setIfInBounds_toArray, List.set_cons_zero, List.set_cons_succ]
    refine take_do 3 (oi := ?_) (v := ?_) ?_ (by rw [hops.out]; kernel_rfl) ?_ ?_ ?_ hHeld ?_
    rotate_left 2
    · rw [hops.out]; simp only [List.getElem?_toArray, List.getElem?_cons_succ, List.getElem?_cons_zero]; rfl
    · rw [hops.out]; kernel_rfl
    · intro W hW; have g0 := cells_at hW 0; have g1 := cells_at hW 1; have g2 := cells_at hW 2; have g3 := cells_at hW 3; simp only [List.getElem?_toArray, List.getElem?_cons_succ, List.getElem?_cons_zero] at g0 g1 g2 g3; go_simp <;> with_reducible rfl
    · exact fun _ _ _ h => h
    try simp only [Act.put, List.setIfInBounds_toArray, List.set_cons_zero, List.set_cons_succ]
    refine take_do 4 (oi := ?_) (v := ?_) ?_ (by rw [hops.out]; kernel_rfl) ?_ ?_ ?_ hHeld ?_
    rotate_left 2
    · rw [hops.out]; simp only [List.getElem?_toArray, List.getElem?_cons_succ, List.getElem?_cons_zero]; rfl
    · rw [hops.out]; kernel_rfl
    · intro W hW; have g0 := cells_at hW 0; have g1 := cells_at hW 1; have g2 := cells_at hW 2; have g3 := cells_at hW 3; simp only [List.getElem?_toArray, List.getElem?_cons_succ, List.getElem?_cons_zero] at g0 g1 g2 g3; go_simp <;> with_reducible rfl
    · exact fun _ _ _ h => h
    try simp only [Act.put, List.setIfInBounds_toArray, List.set_cons_zero, List.set_cons_succ]
    refine take_do 5 (oi := ?_) (v := ?_) ?_ (by rw [hops.out]; kernel_rfl) ?_ ?_ ?_ hHeld ?_
    rotate_left 2
    · rw [hops.out]; simp only [List.getElem?_toArray, List.getElem?_cons_succ, List.getElem?_cons_zero]; rfl
    · rw [hops.out]; kernel_rfl
    · intro W hW; have g0 := cells_at hW 0; have g1 := cells_at hW 1; have g2 := cells_at hW 2; have g3 := cells_at hW 3; simp only [List.getElem?_toArray, List.getElem?_cons_succ, List.getElem?_cons_zero] at g0 g1 g2 g3; go_simp <;> with_reducible rfl
    · exact fun _ _ _ h => h
    try simp only [Act.put, List.setIfInBounds_toArray, List.set_cons_zero, List.set_cons_succ]
    refine take_do 6 (oi := ?_) (v := ?_) ?_ (by rw [hops.out]; kernel_rfl) ?_ ?_ ?_ hHeld ?_
    rotate_left 2
    · rw [hops.out]; simp only [List.getElem?_toArray, List.getElem?_cons_succ, List.getElem?_cons_zero]; rfl
    · rw [hops.out]; kernel_rfl
    · intro W hW; have g0 := cells_at hW 0; have g1 := cells_at hW 1; have g2 := cells_at hW 2; have g3 := cells_at hW 3; simp only [List.getElem?_toArray, List.getElem?_cons_succ, List.getElem?_cons_zero] at g0 g1 g2 g3; go_simp <;> with_reducible rfl
    · exact fun _ _ _ h => h
    try simp only [Act.put, List.setIfInBounds_toArray, List.set_cons_zero, List.set_cons_succ]
    refine take_do 7 (oi := ?_) (v := ?_) ?_ (by rw [hops.out]; kernel_rfl) ?_ ?_ ?_ hHeld ?_
    rotate_left 2
    · rw [hops.out]; simp only [List.getElem?_toArray, List.getElem?_cons_succ, List.getElem?_cons_zero]; rfl
    · rw [hops.out]; kernel_rfl
    · intro W hW; have g0 := cells_at hW 0; have g1 := cells_at hW 1; have g2 := cells_at hW 2; have g3 := cells_at hW 3; simp only [List.getElem?_toArray, List.getElem?_cons_succ, List.getElem?_cons_zero] at g0 g1 g2 g3; go_simp <;> with_reducible rfl
    · exact fun _ _ _ h => h
    try simp only [Act.put, List.setIfInBounds_toArray, List.set_cons_zero, List.set_cons_succ]
    refine take_call 8 (oi := ?_) ?_ (by rw [hops.out]; kernel_rfl) ?_ ?_
    rotate_left 1
    · rw [hops.out]; simp only [List.getElem?_toArray, List.getElem?_cons_succ, List.getElem?_cons_zero]; rfl
    · rw [hops.out]; kernel_rfl
    intro K hK
    have HC4 := HC3d.out
    have fz := frozen_at HC4
    have t0 := cells_at HC4 0
    have t1 := cells_at HC4 1
    have t2 := cells_at HC4 2
    simp only [List.getElem?_toArray, List.getElem?_cons_succ, List.getElem?_cons_zero] at t0 t1 t2
    go_simp
    refine hK.out _ _ ?_ (fun hHeld => ?_)
    · exact (set3_other _ _ _ _ _ _ (by omega)).trans HBX.out
    clear hK K HC4 fz t0 t1 t2
    try simp only [Act.put, List.setIfInBounds_toArray, List.set_cons_zero, List.set_cons_succ]
    refine take_do 9 (oi := ?_) (v := ?_) ?_ (by rw [hops.out]; kernel_rfl) ?_ ?_ ?_ hHeld ?_
    rotate_left 2
    · rw [hops.out]; simp only [List.getElem?_toArray, List.getElem?_cons_succ, List.getElem?_cons_zero]; rfl
    · rw [hops.out]; kernel_rfl
    · intro W hW; have g0 := cells_at hW 0; have g1 := cells_at hW 1; have g2 := cells_at hW 2; have g3 := cells_at hW 3; simp only [List.getElem?_toArray, List.getElem?_cons_succ, List.getElem?_cons_zero] at g0 g1 g2 g3; go_simp <;> with_reducible rfl
    · exact fun _ _ _ h => h
    try simp only [Act.put, List.setIfInBounds_toArray, List.set_cons_zero, List.set_cons_succ]
    refine take_do 10 (oi := ?_) (v := ?_) ?_ (by rw [hops.out]; kernel_rfl) ?_ ?_ ?_ hHeld ?_
    rotate_left 2
    · rw [hops.out]; simp only [List.getElem?_toArray, List.getElem?_cons_succ, List.getElem?_cons_zero]; rfl
    · rw [hops.out]; kernel_rfl
    · intro W hW; have g0 := cells_at hW 0; have g1 := cells_at hW 1; have g2 := cells_at hW 2; have g3 := cells_at hW 3; simp only [List.getElem?_toArray, List.getElem?_cons_succ, List.getElem?_cons_zero] at g0 g1 g2 g3; go_simp <;> with_reducible rfl
    · exact fun _ _ _ h => h
    try simp only [Act.put, List.setIfInBounds_toArray, List.set_cons_zero, List.set_cons_succ]
    refine wpAnyH_done (by rw [hops.out]; kernel_rfl) ?_ _
    clear hops ops
    have y := set3_same (.int .i64 s.n) (.slice a1 s.ls.length n1) (.slice a2 s.ts.length n2) HC3d.out
    have B4 := ((B3d.out.setCell (p := ⟨w.heap.size, 0, none⟩) (Nat.le_refl _) (.int .i64 s.n)).setCell (p := ⟨w.heap.size, 1, none⟩) (Nat.le_refl _) (.slice a1 s.ls.length n1)).setCell (p := ⟨w.heap.size, 2, none⟩) (Nat.le_refl _) (.slice a2 s.ts.length n2)
    have key : ∀ {e : TypeId} {n : Nat} {v : Value} {xs : List Value}, Wd.ownsRow w1.heap.size e 4 v n xs → 25 ≠ e → ((((Wd.setCell ⟨w.heap.size, 0, none⟩ (.int .i64 s.n)).setCell ⟨w.heap.size, 1, none⟩ (.slice a1 s.ls.length n1)).setCell ⟨w.heap.size, 2, none⟩ (.slice a2 s.ts.length n2))).ownsRow w.heap.size e 4 v n xs := fun h _ =>
      owns_baseS (owns_set (owns_set (owns_set h hs1) hs1) hs1) (by omega)
    have rs : RsOwn (((Wd.setCell ⟨w.heap.size, 0, none⟩ (.int .i64 s.n)).setCell ⟨w.heap.size, 1, none⟩ (.slice a1 s.ls.length n1)).setCell ⟨w.heap.size, 2, none⟩ (.slice a2 s.ts.length n2)) w.heap.size (.slice a1 s.ls.length n1) (.slice a2 s.ts.length n2) (.slice a3 s.es.length n3) s :=
      ⟨key HRR.out.1 (by decide), key HRR.out.2.1 (by decide), key HRR.out.2.2 (by decide)⟩
    have RS := hide (And.intro rs B4)
    clear key rs B4 hHeld
    go_wp2
    try simp only [Exit.inBlock, Exit.then]
    refine bodyPost_ret (results_cell_row_two rfl _ _ w.heap.size 25 #[.int .i64 s.n, .slice a1 s.ls.length n1, .slice a2 s.ts.length n2] (0, 0) _ rfl y Tryd.underlying25 rfl (by kernel_rfl)) rfl ?_
    exact ⟨_, _, _, rfl, RS.out.1, RS.out.2⟩
  · by_cases hk : k = 0
    · exact absurd hk (by
        have h := scr_nz t k (by rw [← G0.out])
        exact h)
    · have hk2 : (k == 0) = false := by simpa using hk
      have hk3 : (k != 0) = true := by simpa using hk
      have hnil1 : ∀ W : World, W.ownsRow w.heap.size 77 4 (.slice none 0 0) 0 [] := fun W => World.ownsRow_nil _ _ _ _
      have hnil2 : ∀ W : World, W.ownsRow w.heap.size 81 4 (.slice none 0 0) 0 [] := fun W => World.ownsRow_nil _ _ _ _
      have hlz : w.heap.size < w3.heap.size := by omega
      have hne3 : w.heap.size ≠ w3.heap.size := by omega
      simp only [retZ, resD, sd0]
      go_wp2
      have y := set3_same (.int .i64 0) (.slice none 0 0) (.slice none 0 0) HC3.out
      have B4 := ((B3.out.setCell (p := ⟨w.heap.size, 0, none⟩) (Nat.le_refl _) (.int .i64 0)).setCell (p := ⟨w.heap.size, 1, none⟩) (Nat.le_refl _) (.slice none 0 0)).setCell (p := ⟨w.heap.size, 2, none⟩) (Nat.le_refl _) (.slice none 0 0)
      have hsz : (((w3.setCell ⟨w.heap.size, 0, none⟩ (.int .i64 0)).setCell ⟨w.heap.size, 1, none⟩ (.slice none 0 0)).setCell ⟨w.heap.size, 2, none⟩ (.slice none 0 0)).heap.size = w3.heap.size := by simp only [World.size_setCell]
      obtain ⟨W4, hW4⟩ : ∃ W4, W4 = ((w3.setCell ⟨w.heap.size, 0, none⟩ (.int .i64 0)).setCell ⟨w.heap.size, 1, none⟩ (.slice none 0 0)).setCell ⟨w.heap.size, 2, none⟩ (.slice none 0 0) := ⟨_, rfl⟩
      rw [← hW4] at y B4 hsz ⊢
      clear hW4
      have hev := heap_alloc_new W4 (.cells #[] 53)
      rw [hsz] at hev
      have y2 : (W4.alloc (.cells #[] 53)).heap[w.heap.size]? = some (.cells #[.int .i64 0, .slice none 0 0, .slice none 0 0] 25) := by
        rw [Below.heap_alloc _ _ _ (by omega)]
        exact y
      have r3 : (W4.alloc (.cells #[] 53)).ownsRow w.heap.size 53 4 (.slice (some ⟨w3.heap.size, 0, none⟩) 0 0) 0 (flat evE []) := ⟨rfl, .inr ⟨w3.heap.size, 0, #[], rfl, by omega, hev, by simp, by simp, by simp, by simp [flat]⟩⟩
      try simp only [Exit.inBlock, Exit.then]
      refine bodyPost_ret (results_cell_row_two rfl _ _ w.heap.size 25 #[.int .i64 0, .slice none 0 0, .slice none 0 0] (0, 0) _ rfl y2 Tryd.underlying25 rfl (by kernel_rfl)) rfl ?_
      exact ⟨_, _, _, rfl, ⟨World.ownsRow_nil _ _ _ _, World.ownsRow_nil _ _ _ _, r3⟩, B4.alloc (by omega) _⟩
end Go.Proofs.YtpiookjdeopmgaaDoor
