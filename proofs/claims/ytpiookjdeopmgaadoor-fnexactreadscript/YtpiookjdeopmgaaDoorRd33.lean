/-
  What stays of a script from line to line: the mathematics.
  (*impl.script).take: its contract.
-/
import Derived.Test.YtpiookjdeopmgaaDoorRd32
namespace Go.Proofs.YtpiookjdeopmgaaDoor
open Go.RowKit

set_option linter.unusedSimpArgs false
set_option linter.unusedVariables false

theorem pair_of_asc {α : Type} {ord : α → α → Int} (tr : ∀ x y z, ord x y < 0 → ord y z < 0 → ord x z < 0) {ls : List α} (h : ascB ord ls = true) : ls.Pairwise (fun x y => ord x y < 0) := by
  have step : ∀ k (hk : k + 1 < ls.length), ord (ls[k]'(by omega)) ls[k + 1] < 0 := fun k hk => by
    have h1 : ascAt ord ls (k + 1) = true := List.all_eq_true.1 h (k + 1) (List.mem_range.2 hk)
    rw [ascAt_eq (List.getElem?_eq_getElem (by omega)) (List.getElem?_eq_getElem hk)] at h1
    exact of_decide_eq_true h1
  have all : ∀ (d i : Nat) (hd : i + d + 1 < ls.length), ord (ls[i]'(by omega)) ls[i + d + 1] < 0 := by
    intro d
    induction d with
    | zero => intro i hd; exact step i hd
    | succ d ih =>
      intro i hd
      exact tr _ _ _ (ih i (by omega)) (step (i + d + 1) (by omega))
  rw [List.pairwise_iff_getElem]
  intro i j hi hj hij
  have := all (j - i - 1) i (by omega)
  have e : i + (j - i - 1) + 1 = j := by omega
  simpa [e] using this

theorem ordL_lt (l m : Lk) : ordL l m < 0 ↔ l.a < m.a ∨ l.a = m.a ∧ (l.b < m.b ∨ l.b = m.b ∧ l.r < m.r) := by
  unfold ordL orN orN orN orN cmpN
  split <;> (try split) <;> (try split) <;> (try split) <;> (try split) <;> (try split) <;> (try split) <;> omega

theorem ordT_lt (l m : Th) : ordT l m < 0 ↔ l.k < m.k ∨ l.k = m.k ∧ l.o < m.o := by
  unfold ordT orN orN orN cmpN
  split <;> (try split) <;> (try split) <;> (try split) <;> (try split) <;> (try split) <;> omega

theorem links_pair {n : Int} {ls : List Lk} (h : linksB n ls = true) : ls.Pairwise (fun x y => ordL x y < 0) := by
  unfold linksB at h
  simp only [Bool.and_eq_true] at h
  exact pair_of_asc (fun x y z h1 h2 => by rw [ordL_lt] at *; omega) h.2

theorem things_pair {n : Int} {ts : List Th} (h : thingsB n ts = true) : ts.Pairwise (fun x y => ordT x y < 0) := by
  unfold thingsB at h
  simp only [Bool.and_eq_true] at h
  exact pair_of_asc (fun x y z h1 h2 => by rw [ordT_lt] at *; omega) h.2

theorem mono_of {α : Type} {ord : α → α → Int} (tr : ∀ x y z, ord x y < 0 → ord y z < 0 → ord x z < 0) {ls : List α} (h : ls.Pairwise (fun x y => ord x y < 0)) (l : α) : ∀ a t, a ≤ t → t < ls.length → (∃ x, ls[t]? = some x ∧ ord x l < 0) → ∃ x, ls[a]? = some x ∧ ord x l < 0 := by
  intro a t hat ht ⟨x, hx, hl⟩
  rcases Nat.lt_or_ge a t with h1 | h1
  · refine ⟨ls[a]'(by omega), List.getElem?_eq_getElem (by omega), tr _ x _ ?_ hl⟩
    have := List.pairwise_iff_getElem.1 h a t (by omega) ht h1
    rw [List.getElem?_eq_getElem ht] at hx
    cases hx
    exact this
  · obtain rfl : a = t := by omega
    exact ⟨x, hx, hl⟩

def SInv (s : SD) : Prop := (s.n = 0 ∧ s.ls = [] ∧ s.ts = [] ∧ s.es = []) ∨ (netOkI ⟨s.n, s.ls, s.ts⟩ = true ∧ s.es.length ≤ 60)

theorem netI_parts {n : Int} {ls : List Lk} {ts : List Th} (h : netOkI ⟨n, ls, ts⟩ = true) : (1 ≤ n ∧ n ≤ 6) ∧ linksB n ls = true ∧ thingsB n ts = true := by
  unfold netOkI at h
  simp only [Bool.and_eq_true] at h
  refine ⟨?_, h.1.2, h.2⟩
  have := h.1.1
  unfold inB at this
  simpa using this

theorem SInv.ok {s : SD} (h : SInv s) : SOk s := by
  rcases h with ⟨h0, h1, h2, h3⟩ | ⟨h1, h2⟩
  · refine ⟨by rw [h1]; simp, by rw [h2]; simp, by rw [h3]; simp, fun l a t _ ht => ?_, fun l a t _ ht => ?_⟩
    · rw [h1] at ht; simp at ht
    · rw [h2] at ht; simp at ht
  · obtain ⟨_, hl, ht⟩ := netI_parts h1
    have el : s.ls.length ≤ 12 := by unfold linksB at hl; simp only [Bool.and_eq_true, decide_eq_true_eq] at hl; exact hl.1.1
    have et : s.ts.length ≤ 4 := by unfold thingsB at ht; simp only [Bool.and_eq_true, decide_eq_true_eq] at ht; exact ht.1.1
    exact ⟨by omega, by omega, h2, fun l a t hat h4 => mono_of (fun x y z h1 h2 => by rw [ordL_lt] at *; omega) (links_pair hl) l a t hat h4, fun l a t hat h4 => mono_of (fun x y z h1 h2 => by rw [ordT_lt] at *; omega) (things_pair ht) l a t hat h4⟩

theorem SInv.few {s : SD} (h : SInv s) : s.ls.length ≤ 12 ∧ s.ts.length ≤ 4 ∧ s.es.length ≤ 60 := by
  rcases h with ⟨h0, h1, h2, h3⟩ | ⟨h1, h2⟩
  · rw [h1, h2, h3]; simp
  · obtain ⟨_, hl, ht⟩ := netI_parts h1
    have el : s.ls.length ≤ 12 := by unfold linksB at hl; simp only [Bool.and_eq_true, decide_eq_true_eq] at hl; exact hl.1.1
    have et : s.ts.length ≤ 4 := by unfold thingsB at ht; simp only [Bool.and_eq_true, decide_eq_true_eq] at ht; exact ht.1.1
    exact ⟨el, et, h2⟩

theorem netF_inv {s s' : SD} {k : Int} (h : SInv s) (e : netF s k = some s') : SInv s' := by
  unfold netF at e
  split at e
  · cases e
  · split at e
    · rename_i h2
      cases e
      exact .inr ⟨h2, h.few.2.2⟩
    · cases e

theorem putLF_inv {s s' : SD} {l : Lk} (h : SInv s) (e : putLF s l = some s') : SInv s' := by
  unfold putLF at e
  split at e
  · rename_i h2
    cases e
    exact .inr ⟨h2.2, h.few.2.2⟩
  · cases e

theorem putTF_inv {s s' : SD} {l : Th} (h : SInv s) (e : putTF s l = some s') : SInv s' := by
  unfold putTF at e
  split at e
  · rename_i h2
    cases e
    exact .inr ⟨h2.2, h.few.2.2⟩
  · cases e

theorem putEF_inv {s s' : SD} {x : EvD} (h : SInv s) (e : putEF s x = some s') : SInv s' := by
  unfold putEF at e
  split at e
  · cases e
  · rename_i h1
    split at e
    · rename_i h2
      cases e
      rcases h with ⟨h0, _⟩ | ⟨h3, h4⟩
      · exfalso
        simp [eventOkB, inB, h0] at h2
        omega
      · exact .inr ⟨h3, by simp; omega⟩
    · cases e

theorem stepW_inv {s s' : SD} {k : WK} {ps : List (List UInt8)} (h : SInv s) (e : stepW k s ps = some s') : SInv s' := by
  cases k with
  | net => simp only [stepW, netW] at e; split at e; exact netF_inv h e; cases e
  | lnk => simp only [stepW, lnkW] at e; split at e; exact putLF_inv h e; cases e
  | thg far => simp only [stepW, thgW] at e; split at e; exact putTF_inv h e; cases e
  | nod kd => simp only [stepW, nodW] at e; split at e; exact putEF_inv h e; cases e
  | plc kd => simp only [stepW, plcW] at e; split at e; exact putEF_inv h e; cases e
  | byt => simp only [stepW, bytW] at e; split at e; exact putEF_inv h e; cases e

theorem lineF_inv {s s' : SD} {t : ByteArray} (h : SInv s) (e : lineF s t = some s') : SInv s' := by
  unfold lineF at e
  split at e
  · rcases hp : prL t with _ | ⟨p, ps⟩
    · rw [hp] at e; simp only [lineP] at e; cases e; exact h
    · rw [hp] at e
      simp only [lineP] at e
      split at e
      · cases e; exact h
      · cases hf : findW p with
        | none => rw [hf] at e; cases e
        | some k => rw [hf] at e; exact stepW_inv h e
  · cases e

/-- the lines from the k-th on: what is told then, or the first that is refused -/
noncomputable def linesF : SD → Nat → List (List UInt8) → SD ⊕ Int
  | s, _, [] => .inl s
  | s, k, l :: ls => match lineF s (bs l) with
    | some s' => linesF s' (k + 1) ls
    | none => .inr ((k : Int) + 1)

def sd0 : SD := ⟨0, [], [], []⟩
theorem sd0_inv : SInv sd0 := .inl ⟨rfl, rfl, rfl, rfl⟩

/-- without a net line there is a fault -/
def endF : SD ⊕ Int → SD ⊕ Int
  | .inl s => if s.n = 0 then .inr 1 else .inl s
  | .inr k => .inr k

/-- what a script tells: its net and its events, or the number of a fault -/
noncomputable def scrF (t : ByteArray) : SD ⊕ Int :=
  if 4000 < t.size ∨ 100 < (lnsOf t.data.toList).length then .inr (-1)
  else endF (linesF sd0 0 (lnsOf t.data.toList))

def retZ : SD ⊕ Int → Int
  | .inl _ => 0
  | .inr k => k
def resD : SD ⊕ Int → SD
  | .inl s => s
  | .inr _ => sd0
end Go.Proofs.YtpiookjdeopmgaaDoor
namespace Go.Proofs.YtpiookjdeopmgaaDoor
open Go.RowKit

set_option linter.unusedSimpArgs false
set_option linter.unusedVariables false

set_option maxRecDepth 100000 in
set_option maxHeartbeats 4000000 in
theorem take_any (lo sa m : Nat) (s : SD) (t : ByteArray) (v1 v2 v3 : Value) (w : World) (h : ScAt w lo sa m s v1 v2 v3) (hlo : lo ≤ w.heap.size) (ho : SOk s) (hm : WMap w sa m (fun _ => True)) (ht : t.size ≤ 1048576) (htab : Lib.TabIs Tryd.prog w "strings.asciiSpace" .u8 Lib.asciiSpaceTab) :
    Calls Tryd.prog 59 #[.pointer (some ⟨sa, 0, none⟩), .string t] w fun e w' => e = .returned (.bool (lineF s t).isSome) ∧ FrS lo w w' ∧ ∀ s', lineF s t = some s' → ScIn w' lo sa m s' := by
  obtain ⟨G, hG⟩ : ∃ G, G = lineF s t := ⟨_, rfl⟩
  rw [← hG]
  have G0 := hide hG
  clear hG
  have HP := hide (ipt_any t w ht htab)
  have HS := hide h
  have HO := hide ho
  have HM := hide hm
  clear h ho hm htab
  obtain ⟨q, hq⟩ : ∃ q, q = goodS t := ⟨_, rfl⟩
  obtain ⟨P, hP⟩ : ∃ P, P = prL t := ⟨_, rfl⟩
  have hPl : P.length ≤ 10 := by rw [hP]; exact prL_len t
  have hPw : ∀ l ∈ P, l.length ≤ 1048576 := by rw [hP]; exact prL_word t ht
  rw [← hq, ← hP] at HP
  have GL := hide (show G = if q = true then lineP s P else none by rw [G0.out, lineF, ← hq, ← hP])
  clear hq hP G0
  go_enter Tryd.func59, Tryd.ntmps59
  go_wp2_with fail
  refine HP.out.mono ?_
  rintro e w2 ⟨v, rfl, hou, b2⟩
  obtain ⟨va, vc, rfl⟩ := owns_len hou
  have ST2 := hide (HS.out.below b2)
  have F2 := hide (FrS.of b2 hlo)
  have M2 := hide (HM.out.then (Kp.of b2) (fun o ho => (b2.block _ (lt_of_heap ho)).trans ho))
  have hs2 := b2.size
  clear b2
  cases q
  · have g := hide (show G = none by rw [GL.out]; rfl)
    go_wp2
    go_ret
    exact ⟨by rw [g.out]; rfl, F2.out, fun s' e => by rw [g.out] at e; cases e⟩
  rcases P with _ | ⟨p, ps⟩
  · have g := hide (show G = some s by rw [GL.out]; rfl)
    go_wp2
    go_ret
    exact ⟨by rw [g.out]; rfl, F2.out, fun s' e => by rw [g.out] at e; cases e; exact ⟨_, _, _, ST2.out⟩⟩
  · obtain ⟨b, cap, hsl, hgb, hgl⟩ := owns_shape hou (by simp)
    obtain ⟨rfl, rfl⟩ : va = some ⟨b, 0, none⟩ ∧ vc = cap := by cases hsl; exact ⟨rfl, rfl⟩
    have hc0 : w2.cell? ⟨b, 0, none⟩ = some (.string (bs p)) := by
      have := hou.cellAt 0 (by simp)
      simpa [strs] using this
    have hpw := hPw p (by simp)
    have hps : ∀ l ∈ ps, l.length ≤ 1048576 := fun l hl => hPw l (by simp [hl])
    obtain ⟨n, hn⟩ : ∃ n, n = ps.length := ⟨_, rfl⟩
    have hn1 : (p :: ps).length = n + 1 := by simp [hn]
    have hpn : ps.length ≤ 1048576 := by simp at hPl; omega
    have hn10 : n ≤ 10 := by simp at hPl; omega
    have HTW := hide (show ∀ (W : World) c2, Below w2.heap.size w2 W → StrsAt W (.slice (some ⟨b, 1, none⟩) n c2) ps W.heap.size from fun W c2 hb => by
      have h1 : StrsAt w2 (.slice (some ⟨b, 0, none⟩) (p :: ps).length vc) (p :: ps) w2.heap.size := strsAt_of hou
      have h2 := StrsAt.then (StrsAt.tail h1 (by simp) c2) hb
      simpa [hn] using h2)
    have HT0W := hide (show ∀ (W : World) (a : Option Addr) (c2 : Nat), n = 0 → StrsAt W (.slice a n c2) ps W.heap.size from fun W a c2 h0 => by
      have : ps = [] := List.length_eq_zero_iff.1 (by omega)
      subst this
      exact ⟨a, c2, by simp [h0], .inl rfl⟩)
    have hcap : n + 1 ≤ vc := by
      rcases hou.2 with ⟨h0, _⟩ | ⟨g, cap, cur, he, _, _, hnc, _⟩
      · cases h0
      · cases he; simpa [hn] using hnc
    have hcap2 : ((n + 1 : Nat) : Int) ≤ (vc : Int) := by omega
    obtain ⟨T0, hT0⟩ : ∃ T0, T0 = bs p := ⟨_, rfl⟩
    rw [← hT0] at hc0
    obtain ⟨q2, hq2⟩ : ∃ q2, q2 = Lib.hasPrefix p [35] := ⟨_, rfl⟩
    have HH := hide (show ∀ W, Calls Tryd.prog 83 #[.string T0, .string ⟨#[35]⟩] W fun e w' => e = .returned (.bool q2) ∧ w' = W from fun W => by
      have h := Tryd.strings_HasPrefix T0 ⟨#[35]⟩ W
      rw [hT0] at h
      simp only [bs, List.toList_toArray] at h
      rw [← hq2] at h
      rw [hT0]
      exact h)
    have GG := hide (show G = if q2 = true then some s else (findW p).bind (fun k => stepW k s ps) by rw [GL.out, if_pos rfl, lineP, hq2])
    have hbl : b < w2.heap.size := hgl
    rw [hn1]
    have TT0 := hide hT0
    have HN := hide hn
    clear hn1 hq2 hou hPl hPw GL hsl hT0 hn
    cases q2
    · go_wp2_with (first | (go_at_call 83; go_loud (refine (HH.out _).mono ?_; rintro e w9 ⟨rfl, hw9⟩; replace hw9 := hw9.symm; subst hw9)))
      obtain ⟨Wd, hWd⟩ : ∃ Wd, Wd = w2.drew := ⟨_, rfl⟩
      have bd : Below w2.heap.size w2 Wd := by rw [hWd]; exact (Below.refl _ _).drew
      have ST3 := hide (ST2.out.below bd)
      have M3 := M2.out.then (Kp.of bd) (fun o ho => (bd.block _ (lt_of_heap ho)).trans ho)
      have hlo3 : lo ≤ Wd.heap.size := by have := F2.out.below.size; have := bd.size; omega
      have HT := fun c2 => HTW.out Wd c2 bd
      have HT0 := fun a c2 => HT0W.out Wd a c2
      have cw0 : Wd.cell? ⟨b, 0, none⟩ = some (.string T0) := by rw [bd.cell (p := ⟨b, 0, none⟩) hbl]; exact hc0
      have cw4 := cells_at ST3.out.box 4
      simp only [List.getElem?_toArray, List.getElem?_cons_succ, List.getElem?_cons_zero] at cw4
      have F3d : FrS lo w Wd := by rw [hWd]; exact F2.out.drew
      rcases M3.look p with ⟨h1, hlk⟩ | ⟨k, v, h1, hwo, hlk⟩
      · rw [← TT0.out] at hlk
        have g := hide (show G = none by rw [GG.out, h1]; rfl)
        refine wp_region_start (S := fun W => W = Wd) (by kernel_rfl) 13 rfl hWd.symm (fun ops hops hHeld => ?_)
        rw [← hWd]
        clear hWd hHeld
        refine take_do 0 (oi := ?_) (v := ?_) ?_ (by rw [hops.out]; kernel_rfl) ?_ ?_ ?_ rfl ?_
        rotate_left 2
        · rw [hops.out]; simp only [List.getElem?_toArray, List.getElem?_cons_succ, List.getElem?_cons_zero]; rfl
        · rw [hops.out]; kernel_rfl
        · intro W hW; (try dsimp only at hW); rw [hW]; go_simp <;> with_reducible rfl
        · exact fun _ _ _ h => h
        try simp only [Act.put, List.setIfInBounds_toArray, List.set_cons_zero, List.set_cons_succ]
        refine take_do 1 (oi := ?_) (v := ?_) ?_ (by rw [hops.out]; kernel_rfl) ?_ ?_ ?_ rfl ?_
        rotate_left 2
        · rw [hops.out]; simp only [List.getElem?_toArray, List.getElem?_cons_succ, List.getElem?_cons_zero]; rfl
        · rw [hops.out]; kernel_rfl
        · intro W hW; (try dsimp only at hW); rw [hW]; go_simp <;> with_reducible rfl
        · exact fun _ _ _ h => h
        try simp only [Act.put, List.setIfInBounds_toArray, List.set_cons_zero, List.set_cons_succ]
        refine take_do 2 (oi := ?_) (v := ?_) ?_ (by rw [hops.out]; kernel_rfl) ?_ ?_ ?_ rfl ?_
        rotate_left 2
        · rw [hops.out]; simp only [List.getElem?_toArray, List.getElem?_cons_succ, List.getElem?_cons_zero]; rfl
        · rw [hops.out]; kernel_rfl
        · intro W hW; (try dsimp only at hW); rw [hW]; go_simp <;> with_reducible rfl
        · exact fun _ _ _ h => h
        try simp only [Act.put, List.setIfInBounds_toArray, List.set_cons_zero, List.set_cons_succ]
        refine take_do 3 (oi := ?_) (v := ?_) ?_ (by rw [hops.out]; kernel_rfl) ?_ ?_ ?_ rfl ?_
        rotate_left 2
        · rw [hops.out]; simp only [List.getElem?_toArray, List.getElem?_cons_succ, List.getElem?_cons_zero]; rfl
        · rw [hops.out]; kernel_rfl
        · intro W hW; (try dsimp only at hW); rw [hW]; go_simp <;> with_reducible rfl
        · exact fun _ _ _ h => h
        try simp only [Act.put, List.setIfInBounds_toArray, List.set_cons_zero, List.set_cons_succ]
        refine take_do 4 (oi := ?_) (v := ?_) ?_ (by rw [hops.out]; kernel_rfl) ?_ ?_ ?_ rfl ?_
        rotate_left 2
        · rw [hops.out]; simp only [List.getElem?_toArray, List.getElem?_cons_succ, List.getElem?_cons_zero]; rfl
        · rw [hops.out]; kernel_rfl
        · intro W hW; (try dsimp only at hW); rw [hW]; go_simp <;> with_reducible rfl
        · exact fun _ _ _ h => h
        try simp only [Act.put, List.setIfInBounds_toArray, List.set_cons_zero, List.set_cons_succ]
        refine take_do 5 (oi := ?_) (v := ?_) ?_ (by rw [hops.out]; kernel_rfl) ?_ ?_ ?_ rfl ?_
        rotate_left 2
        · rw [hops.out]; simp only [List.getElem?_toArray, List.getElem?_cons_succ, List.getElem?_cons_zero]; rfl
        · rw [hops.out]; kernel_rfl
        · intro W hW; (try dsimp only at hW); rw [hW]; go_simp <;> with_reducible rfl
        · exact fun _ _ _ h => h
        try simp only [Act.put, List.setIfInBounds_toArray, List.set_cons_zero, List.set_cons_succ]
        refine take_do 6 (oi := ?_) (v := ?_) ?_ (by rw [hops.out]; kernel_rfl) ?_ ?_ ?_ rfl ?_
        rotate_left 2
        · rw [hops.out]; simp only [List.getElem?_toArray, List.getElem?_cons_succ, List.getElem?_cons_zero]; rfl
        · rw [hops.out]; kernel_rfl
        · intro W hW; (try dsimp only at hW); rw [hW]; go_simp <;> with_reducible rfl
        · exact fun _ _ _ h => h
        try simp only [Act.put, List.setIfInBounds_toArray, List.set_cons_zero, List.set_cons_succ]
        refine take_do 7 (oi := ?_) (v := ?_) ?_ (by rw [hops.out]; kernel_rfl) ?_ ?_ ?_ rfl ?_
        rotate_left 2
        · rw [hops.out]; simp only [List.getElem?_toArray, List.getElem?_cons_succ, List.getElem?_cons_zero]; rfl
        · rw [hops.out]; kernel_rfl
        · intro W hW; (try dsimp only at hW); rw [hW]; go_simp <;> with_reducible rfl
        · exact fun _ _ _ h => h
        try simp only [Act.put, List.setIfInBounds_toArray, List.set_cons_zero, List.set_cons_succ]
        refine take_do 8 (oi := ?_) (v := ?_) ?_ (by rw [hops.out]; kernel_rfl) ?_ ?_ ?_ rfl ?_
        rotate_left 2
        · rw [hops.out]; simp only [List.getElem?_toArray, List.getElem?_cons_succ, List.getElem?_cons_zero]; rfl
        · rw [hops.out]; kernel_rfl
        · intro W hW; (try dsimp only at hW); rw [hW]; go_simp <;> with_reducible rfl
        · exact fun _ _ _ h => h
        try simp only [Act.put, List.setIfInBounds_toArray, List.set_cons_zero, List.set_cons_succ]
        refine take_do 9 (oi := ?_) (v := ?_) ?_ (by rw [hops.out]; kernel_rfl) ?_ ?_ ?_ rfl ?_
        rotate_left 2
        · rw [hops.out]; simp only [List.getElem?_toArray, List.getElem?_cons_succ, List.getElem?_cons_zero]; rfl
        · rw [hops.out]; kernel_rfl
        · intro W hW; (try dsimp only at hW); rw [hW]; go_simp <;> with_reducible rfl
        · exact fun _ _ _ h => h
        try simp only [Act.put, List.setIfInBounds_toArray, List.set_cons_zero, List.set_cons_succ]
        refine take_do 10 (oi := ?_) (v := ?_) ?_ (by rw [hops.out]; kernel_rfl) ?_ ?_ ?_ rfl ?_
        rotate_left 2
        · rw [hops.out]; simp only [List.getElem?_toArray, List.getElem?_cons_succ, List.getElem?_cons_zero]; rfl
        · rw [hops.out]; kernel_rfl
        · intro W hW; (try dsimp only at hW); rw [hW]; go_simp <;> with_reducible rfl
        · exact fun _ _ _ h => h
        try simp only [Act.put, List.setIfInBounds_toArray, List.set_cons_zero, List.set_cons_succ]
        refine take_do 11 (oi := ?_) (v := ?_) ?_ (by rw [hops.out]; kernel_rfl) ?_ ?_ ?_ rfl ?_
        rotate_left 2
        · rw [hops.out]; simp only [List.getElem?_toArray, List.getElem?_cons_succ, List.getElem?_cons_zero]; rfl
        · rw [hops.out]; kernel_rfl
        · intro W hW; (try dsimp only at hW); rw [hW]; go_simp <;> with_reducible rfl
        · exact fun _ _ _ h => h
        try simp only [Act.put, List.setIfInBounds_toArray, List.set_cons_zero, List.set_cons_succ]
        refine take_do 12 (oi := ?_) (v := ?_) ?_ (by rw [hops.out]; kernel_rfl) ?_ ?_ ?_ rfl ?_
        rotate_left 2
        · rw [hops.out]; simp only [List.getElem?_toArray, List.getElem?_cons_succ, List.getElem?_cons_zero]; rfl
        · rw [hops.out]; kernel_rfl
        · intro W hW; (try dsimp only at hW); rw [hW]; go_simp <;> with_reducible rfl
        · exact fun _ _ _ h => h
        try simp only [Act.put, List.setIfInBounds_toArray, List.set_cons_zero, List.set_cons_succ]
        refine wpAnyH_done (by rw [hops.out]; kernel_rfl) ?_ _
        clear hops ops
        go_wp2
        go_ret
        exact ⟨by rw [g.out]; rfl, F3d, fun s' e => by rw [g.out] at e; cases e⟩
      rw [← TT0.out] at hlk
      have hwo := hide hwo
      have gg := hide (show G = stepW k s ps by rw [GG.out, h1]; rfl)
      refine wp_region_start (S := fun W => W = Wd) (by kernel_rfl) 13 rfl hWd.symm (fun ops hops hHeld => ?_)
      rw [← hWd]
      clear hWd hHeld
      refine take_do 0 (oi := ?_) (v := ?_) ?_ (by rw [hops.out]; kernel_rfl) ?_ ?_ ?_ rfl ?_
      rotate_left 2
      · rw [hops.out]; simp only [List.getElem?_toArray, List.getElem?_cons_succ, List.getElem?_cons_zero]; rfl
      · rw [hops.out]; kernel_rfl
      · intro W hW; (try dsimp only at hW); rw [hW]; go_simp <;> with_reducible rfl
      · exact fun _ _ _ h => h
      try simp only [Act.put, List.setIfInBounds_toArray, List.set_cons_zero, List.set_cons_succ]
      refine take_do 1 (oi := ?_) (v := ?_) ?_ (by rw [hops.out]; kernel_rfl) ?_ ?_ ?_ rfl ?_
      rotate_left 2
      · rw [hops.out]; simp only [List.getElem?_toArray, List.getElem?_cons_succ, List.getElem?_cons_zero]; rfl
      · rw [hops.out]; kernel_rfl
      · intro W hW; (try dsimp only at hW); rw [hW]; go_simp <;> with_reducible rfl
      · exact fun _ _ _ h => h
      try simp only [Act.put, List.setIfInBounds_toArray, List.set_cons_zero, List.set_cons_succ]
      refine take_do 2 (oi := ?_) (v := ?_) ?_ (by rw [hops.out]; kernel_rfl) ?_ ?_ ?_ rfl ?_
      rotate_left 2
      · rw [hops.out]; simp only [List.getElem?_toArray, List.getElem?_cons_succ, List.getElem?_cons_zero]; rfl
      · rw [hops.out]; kernel_rfl
      · intro W hW; (try dsimp only at hW); rw [hW]; go_simp <;> with_reducible rfl
      · exact fun _ _ _ h => h
      try simp only [Act.put, List.setIfInBounds_toArray, List.set_cons_zero, List.set_cons_succ]
      refine take_do 3 (oi := ?_) (v := ?_) ?_ (by rw [hops.out]; kernel_rfl) ?_ ?_ ?_ rfl ?_
      rotate_left 2
      · rw [hops.out]; simp only [List.getElem?_toArray, List.getElem?_cons_succ, List.getElem?_cons_zero]; rfl
      · rw [hops.out]; kernel_rfl
      · intro W hW; (try dsimp only at hW); rw [hW]; go_simp <;> with_reducible rfl
      · exact fun _ _ _ h => h
      try simp only [Act.put, List.setIfInBounds_toArray, List.set_cons_zero, List.set_cons_succ]
      refine take_do 4 (oi := ?_) (v := ?_) ?_ (by rw [hops.out]; kernel_rfl) ?_ ?_ ?_ rfl ?_
      rotate_left 2
      · rw [hops.out]; simp only [List.getElem?_toArray, List.getElem?_cons_succ, List.getElem?_cons_zero]; rfl
      · rw [hops.out]; kernel_rfl
      · intro W hW; (try dsimp only at hW); rw [hW]; go_simp <;> with_reducible rfl
      · exact fun _ _ _ h => h
      try simp only [Act.put, List.setIfInBounds_toArray, List.set_cons_zero, List.set_cons_succ]
      refine take_do 5 (oi := ?_) (v := ?_) ?_ (by rw [hops.out]; kernel_rfl) ?_ ?_ ?_ rfl ?_
      rotate_left 2
      · rw [hops.out]; simp only [List.getElem?_toArray, List.getElem?_cons_succ, List.getElem?_cons_zero]; rfl
      · rw [hops.out]; kernel_rfl
      · intro W hW; (try dsimp only at hW); rw [hW]; go_simp <;> with_reducible rfl
      · exact fun _ _ _ h => h
      try simp only [Act.put, List.setIfInBounds_toArray, List.set_cons_zero, List.set_cons_succ]
      refine take_do 6 (oi := ?_) (v := ?_) ?_ (by rw [hops.out]; kernel_rfl) ?_ ?_ ?_ rfl ?_
      rotate_left 2
      · rw [hops.out]; simp only [List.getElem?_toArray, List.getElem?_cons_succ, List.getElem?_cons_zero]; rfl
      · rw [hops.out]; kernel_rfl
      · intro W hW; (try dsimp only at hW); rw [hW]; go_simp <;> with_reducible rfl
      · exact fun _ _ _ h => h
      try simp only [Act.put, List.setIfInBounds_toArray, List.set_cons_zero, List.set_cons_succ]
      refine take_do 7 (oi := ?_) (v := ?_) ?_ (by rw [hops.out]; kernel_rfl) ?_ ?_ ?_ rfl ?_
      rotate_left 2
      · rw [hops.out]; simp only [List.getElem?_toArray, List.getElem?_cons_succ, List.getElem?_cons_zero]; rfl
      · rw [hops.out]; kernel_rfl
      · intro W hW; (try dsimp only at hW); rw [hW]; go_simp <;> with_reducible rfl
      · exact fun _ _ _ h => h
      try simp only [Act.put, List.setIfInBounds_toArray, List.set_cons_zero, List.set_cons_succ]
      refine take_do 8 (oi := ?_) (v := ?_) ?_ (by rw [hops.out]; kernel_rfl) ?_ ?_ ?_ rfl ?_
      rotate_left 2
      · rw [hops.out]; simp only [List.getElem?_toArray, List.getElem?_cons_succ, List.getElem?_cons_zero]; rfl
      · rw [hops.out]; kernel_rfl
      · intro W hW; (try dsimp only at hW); rw [hW]; go_simp <;> with_reducible rfl
      · exact fun _ _ _ h => h
      try simp only [Act.put, List.setIfInBounds_toArray, List.set_cons_zero, List.set_cons_succ]
      refine take_do 9 (oi := ?_) (v := ?_) ?_ (by rw [hops.out]; kernel_rfl) ?_ ?_ ?_ rfl ?_
      rotate_left 2
      · rw [hops.out]; simp only [List.getElem?_toArray, List.getElem?_cons_succ, List.getElem?_cons_zero]; rfl
      · rw [hops.out]; kernel_rfl
      · intro W hW; (try dsimp only at hW); rw [hW]; go_simp <;> with_reducible rfl
      · exact fun _ _ _ h => h
      try simp only [Act.put, List.setIfInBounds_toArray, List.set_cons_zero, List.set_cons_succ]
      refine take_do 10 (oi := ?_) (v := ?_) ?_ (by rw [hops.out]; kernel_rfl) ?_ ?_ ?_ rfl ?_
      rotate_left 2
      · rw [hops.out]; simp only [List.getElem?_toArray, List.getElem?_cons_succ, List.getElem?_cons_zero]; rfl
      · rw [hops.out]; kernel_rfl
      · intro W hW; (try dsimp only at hW); rw [hW]; go_simp <;> with_reducible rfl
      · exact fun _ _ _ h => h
      try simp only [Act.put, List.setIfInBounds_toArray, List.set_cons_zero, List.set_cons_succ]
      refine take_do 11 (oi := ?_) (v := ?_) ?_ (by rw [hops.out]; kernel_rfl) ?_ ?_ ?_ rfl ?_
      rotate_left 2
      · rw [hops.out]; simp only [List.getElem?_toArray, List.getElem?_cons_succ, List.getElem?_cons_zero]; rfl
      · rw [hops.out]; kernel_rfl
      · intro W hW; (try dsimp only at hW); rw [hW]; go_simp <;> with_reducible rfl
      · exact fun _ _ _ h => h
      try simp only [Act.put, List.setIfInBounds_toArray, List.set_cons_zero, List.set_cons_succ]
      refine take_do 12 (oi := ?_) (v := ?_) ?_ (by rw [hops.out]; kernel_rfl) ?_ ?_ ?_ rfl ?_
      rotate_left 2
      · rw [hops.out]; simp only [List.getElem?_toArray, List.getElem?_cons_succ, List.getElem?_cons_zero]; rfl
      · rw [hops.out]; kernel_rfl
      · intro W hW; (try dsimp only at hW); rw [hW]; go_simp <;> with_reducible rfl
      · exact fun _ _ _ h => h
      try simp only [Act.put, List.setIfInBounds_toArray, List.set_cons_zero, List.set_cons_succ]
      refine wpAnyH_done (by rw [hops.out]; kernel_rfl) ?_ _
      clear hops ops
      clear hlk M3
      cases k with
      | net =>
        obtain ⟨p1, rfl, hp1⟩ := hwo.out
        go_wp2_with (first
          | (go_at_call 49; go_loud (refine (netW_any lo sa m p1 0 s _ ps v1 v2 v3 _ ST3.out hlo3 HO.out.f1 HO.out.f2 hp1 (by first | exact HT _ | exact HT0 _ _ (by omega)) hpn hps).mono ?_); rintro e w9 ⟨rfl, F9, R9⟩
             have F3 := hide (F3d.trans F9)
             have R3 := hide R9
             clear F9 R9))
        all_goals
          go_ret
          exact ⟨by rw [gg.out]; rfl, F3.out, fun s' e => R3.out s' (by rw [gg.out] at e; exact e)⟩
      | lnk =>
        obtain ⟨p1, rfl, hp1⟩ := hwo.out
        go_wp2_with (first
          | (go_at_call 52; go_loud (refine (lnkW_any lo sa m p1 0 s _ ps v1 v2 v3 _ ST3.out hlo3 HO.out.f1 HO.out.f2 HO.out.m1 hp1 (by first | exact HT _ | exact HT0 _ _ (by omega)) hpn hps).mono ?_); rintro e w9 ⟨rfl, F9, R9⟩
             have F3 := hide (F3d.trans F9)
             have R3 := hide R9
             clear F9 R9))
        all_goals
          go_ret
          exact ⟨by rw [gg.out]; rfl, F3.out, fun s' e => R3.out s' (by rw [gg.out] at e; exact e)⟩
      | thg far =>
        obtain ⟨p1, p2, rfl, hp1, hp2⟩ := hwo.out
        go_wp2_with (first
          | (go_at_call 75; go_loud (refine (thgW_any lo sa m p1 p2 s far _ ps v1 v2 v3 _ ST3.out hlo3 HO.out.f1 HO.out.f2 HO.out.m2 hp1 hp2 (by first | exact HT _ | exact HT0 _ _ (by omega)) hpn hps).mono ?_); rintro e w9 ⟨rfl, F9, R9⟩
             have F3 := hide (F3d.trans F9)
             have R3 := hide R9
             clear F9 R9))
        all_goals
          go_ret
          exact ⟨by rw [gg.out]; rfl, F3.out, fun s' e => R3.out s' (by rw [gg.out] at e; exact e)⟩
      | nod kd =>
        obtain ⟨p1, p2, rfl, hp1, hp2⟩ := hwo.out
        go_wp2_with (first
          | (go_at_call 77; go_loud (refine (nodW_any lo sa m p1 p2 s kd _ ps v1 v2 v3 _ ST3.out hlo3 HO.out.f3 hp1 hp2 (by first | exact HT _ | exact HT0 _ _ (by omega)) hpn hps).mono ?_); rintro e w9 ⟨rfl, F9, R9⟩
             have F3 := hide (F3d.trans F9)
             have R3 := hide R9
             clear F9 R9))
        all_goals
          go_ret
          exact ⟨by rw [gg.out]; rfl, F3.out, fun s' e => R3.out s' (by rw [gg.out] at e; exact e)⟩
      | plc kd =>
        obtain ⟨p1, p2, rfl, hp1, hp2⟩ := hwo.out
        go_wp2_with (first
          | (go_at_call 79; go_loud (refine (plcW_any lo sa m p1 p2 s kd _ ps v1 v2 v3 _ ST3.out hlo3 HO.out.f3 hp1 hp2 (by first | exact HT _ | exact HT0 _ _ (by omega)) hpn hps).mono ?_); rintro e w9 ⟨rfl, F9, R9⟩
             have F3 := hide (F3d.trans F9)
             have R3 := hide R9
             clear F9 R9))
        all_goals
          go_ret
          exact ⟨by rw [gg.out]; rfl, F3.out, fun s' e => R3.out s' (by rw [gg.out] at e; exact e)⟩
      | byt =>
        obtain ⟨p1, rfl, hp1⟩ := hwo.out
        go_wp2_with (first
          | (go_at_call 80; go_loud (refine (bytW_any lo sa m p1 s _ ps v1 v2 v3 _ ST3.out hlo3 HO.out.f3 hp1 (by first | exact HT _ | exact HT0 _ _ (by omega)) hpn hps).mono ?_); rintro e w9 ⟨rfl, F9, R9⟩
             have F3 := hide (F3d.trans F9)
             have R3 := hide R9
             clear F9 R9))
        all_goals
          go_ret
          exact ⟨by rw [gg.out]; rfl, F3.out, fun s' e => R3.out s' (by rw [gg.out] at e; exact e)⟩
    · have g := hide (show G = some s by rw [GG.out]; rfl)
      go_wp2_with (first | (go_at_call 83; go_loud (refine (HH.out _).mono ?_; rintro e w9 ⟨rfl, hw9⟩; replace hw9 := hw9.symm; subst hw9)))
      go_ret
      exact ⟨by rw [g.out]; rfl, F2.out, fun s' e => by rw [g.out] at e; cases e; exact ⟨_, _, _, ST2.out⟩⟩
end Go.Proofs.YtpiookjdeopmgaaDoor
