/-
  What a line of a script does, as the program has it.
  spec.l14Part: its contract.
-/
import Derived.Test.YtpiookjdeopmgaaDoorRd27
import Derived.Test.YtpiookjdeopmgaaDoorRd28
import Derived.Test.YtpiookjdeopmgaaDoorRd29
import Derived.Test.YtpiookjdeopmgaaDoorRd24
import Derived.Test.YtpiookjdeopmgaaDoorRd30
import Derived.Test.YtpiookjdeopmgaaDoorRd26
import Derived.Test.YtpiookjdeopmgaaDoorRd25
namespace Go.Proofs.YtpiookjdeopmgaaDoor
open Go.RowKit

set_option linter.unusedSimpArgs false
set_option linter.unusedVariables false

noncomputable def stepW (k : WK) (s : SD) (ps : List (List UInt8)) : Option SD := match k with
  | .net => netW s ps
  | .lnk => lnkW s ps
  | .thg far => thgW s far ps
  | .nod kd => nodW s kd ps
  | .plc kd => plcW s kd ps
  | .byt => bytW s ps

noncomputable def findW (p : List UInt8) : Option WK := (wTab.find? (fun e => e.1 == p)).map (·.2)

noncomputable def lineP (s : SD) : List (List UInt8) → Option SD
  | [] => some s
  | p :: ps => if Lib.hasPrefix p [35] = true then some s else (findW p).bind (fun k => stepW k s ps)

noncomputable def lineF (s : SD) (t : ByteArray) : Option SD := if goodS t = true then lineP s (prL t) else none

structure SOk (s : SD) : Prop where
  f1 : s.ls.length ≤ 900
  f2 : s.ts.length ≤ 900
  f3 : s.es.length ≤ 60
  m1 : ∀ l, ∀ a t, a ≤ t → t < s.ls.length → ltL s.ls l t → ltL s.ls l a
  m2 : ∀ l, ∀ a t, a ≤ t → t < s.ts.length → ltT s.ts l t → ltT s.ts l a

theorem findW_none {p : List UInt8} (h : ∀ j, j < 13 → (nsT j).1 ≠ p) : findW p = none := by
  unfold findW
  rw [List.find?_eq_none.2 (fun e he => ?_)]
  · rfl
  · obtain ⟨j, hj, e2⟩ := List.mem_iff_getElem.1 he
    have h2 := h j (by simpa [wTab] using hj)
    have h3 : nsT j = e := by unfold nsT; rw [List.getD_eq_getElem?_getD, List.getElem?_eq_getElem hj, e2]; rfl
    rw [h3] at h2
    simpa using h2

theorem findW_at : ∀ j, j < 13 → findW (nsT j).1 = some (nsT j).2 := by
  intro j hj
  have : j = 0 ∨ j = 1 ∨ j = 2 ∨ j = 3 ∨ j = 4 ∨ j = 5 ∨ j = 6 ∨ j = 7 ∨ j = 8 ∨ j = 9 ∨ j = 10 ∨ j = 11 ∨ j = 12 := by omega
  rcases this with rfl | rfl | rfl | rfl | rfl | rfl | rfl | rfl | rfl | rfl | rfl | rfl | rfl <;> rfl

theorem prL_word (t : ByteArray) (ht : t.size ≤ 1048576) : ∀ l ∈ prL t, l.length ≤ 1048576 := by
  intro l hl
  unfold prL at hl
  split at hl
  · have := fields_size t.data.toList _ [] l hl (by simp)
    have e : t.data.toList.length = t.size := by simp
    omega
  · cases hl

theorem fieldsGo_ne : ∀ (l cur : List UInt8) (x : List UInt8), x ∈ Lib.fieldsGo cur l → x ≠ []
  | [], cur, x, h => by
    unfold Lib.fieldsGo at h
    split at h
    · cases h
    · rename_i hc
      simp at h
      subst h
      intro e
      simp_all
  | c :: l, cur, x, h => by
    unfold Lib.fieldsGo at h
    split at h
    · split at h
      · exact fieldsGo_ne l [] x h
      · rename_i hc
        rcases List.mem_cons.1 h with e | e
        · subst e
          intro e
          simp_all
        · exact fieldsGo_ne l [] x e
    · exact fieldsGo_ne l _ x h

theorem prL_ne (t : ByteArray) : ∀ l ∈ prL t, l ≠ [] := by
  intro l hl
  unfold prL at hl
  split at hl
  · exact fieldsGo_ne _ _ l hl
  · cases hl

set_option maxRecDepth 100000 in
/-- what the map says of a word -/
theorem WMap.look {w : World} {sa m : Nat} (h : WMap w sa m (fun _ => True)) (p : List UInt8) :
    (findW p = none ∧ (Instr.lookup 60 (.map (some m)) (.string (bs p)) true).run Tryd.prog w = .ok (.tuple #[.nilFunc, .bool false]) w) ∨
    ∃ k v, findW p = some k ∧ wordOk w sa k v ∧ (Instr.lookup 60 (.map (some m)) (.string (bs p)) true).run Tryd.prog w = .ok (.tuple #[v, .bool true]) w := by
  obtain ⟨es, c, h1, h2, h3⟩ := h
  rcases lookS w m es c (bs p) h1 (fun x hx => by obtain ⟨j, _, _, e, _⟩ := h2 x hx; exact ⟨_, e⟩) with ⟨g1, g2⟩ | ⟨e, he, g1, g2⟩
  · refine .inl ⟨findW_none (fun j hj e => ?_), g2⟩
    obtain ⟨x, hx, ex⟩ := h3 j hj trivial
    exact g1 x hx (by rw [ex, e])
  · obtain ⟨j, hj, _, ek, hv⟩ := h2 e he
    have : (nsT j).1 = p := bs_inj (by rw [g1] at ek; injection ek with ek; exact ek.symm)
    exact .inr ⟨_, _, by rw [← this]; exact findW_at j hj, hv, g2⟩
end Go.Proofs.YtpiookjdeopmgaaDoor
namespace Go.Proofs.YtpiookjdeopmgaaDoor
open Go.RowKit
set_option linter.unusedSimpArgs false
set_option linter.unusedVariables false

theorem spart_any (n : Int) (v1 v2 pv : Value) (ls : List Lk) (ts : List Th) (p0 : List UInt8) (ps : List (List UInt8)) (w : World) (h1 : LinksAt w v1 ls w.heap.size) (h2 : ThingsAt w v2 ts w.heap.size) (hls : ls.length ≤ 100) (hts : ts.length ≤ 100)
    (hp : StrsAt w pv (p0 :: ps) w.heap.size) (hn : ps.length ≤ 1000) (hl : ∀ l ∈ ps, l.length ≤ 1048576) (hcp : ∀ a n c, pv = .slice a n c → n ≤ c) :
    Calls Tryd.prog 23 #[.agg #[.int .i64 n, v1, v2], pv] w fun e w' => ∃ nx u1 u2, e = .returned (.tuple #[.agg #[.int .i64 nx, u1, u2], .bool (partF n ls ts p0 ps).isSome]) ∧ (∀ r, partF n ls ts p0 ps = some r → nx = n ∧ PartOwn w.heap.size v1 v2 ls ts w' u1 u2 r) ∧ Below w.heap.size w w' ∧ Sl u1 ∧ Sl u2 := by
  by_cases hA : p0 = wLink ∧ numsN 4 ps = true
  · exact spart_link n v1 v2 pv ls ts p0 ps w h1 h2 hls hts hp hn hl hcp hA
  by_cases hB : (p0 = wThing ∨ p0 = wFar) ∧ numsN 3 ps = true
  · rcases hB with ⟨hB | hB, h3⟩
    · exact spart_thing n v1 v2 pv ls ts p0 ps w h1 h2 hls hts hp hn hl hcp ⟨hB, h3⟩
    · exact spart_far n v1 v2 pv ls ts p0 ps w h1 h2 hls hts hp hn hl hcp ⟨hB, h3⟩
  · exact spart_no n v1 v2 pv ls ts p0 ps w h1 h2 hls hts hp hn hl hcp hA hB
end Go.Proofs.YtpiookjdeopmgaaDoor
