/-
  impl.newScript: what holds while its map is filled.
  (*impl.script).placeWord$1: its contract.
-/
import Derived.Test.YtpiookjdeopmgaaDoorRd23
import Derived.Test.YtpiookjdeopmgaaDoorRd21
namespace Go.Proofs.YtpiookjdeopmgaaDoor
open Go.RowKit
open Go.ChangeMaps (setBlock)

set_option linter.unusedSimpArgs false
set_option linter.unusedVariables false

def nsLd : List (Nat × Nat) := [(0, 5), (6, 9), (9, 11), (12, 13), (15, 15), (18, 17), (21, 19), (24, 21), (27, 23), (30, 25), (33, 27), (36, 29)]
def nsMk : List (Nat × Nat × Nat) := [(2, 7, 0), (4, 8, 1), (7, 10, 2), (10, 12, 3), (13, 14, 4), (16, 16, 5), (19, 18, 6), (22, 20, 7), (25, 22, 8), (28, 24, 9), (31, 26, 10), (34, 28, 11), (37, 30, 12)]
def nsIn : List (Nat × Nat) := [(3, 0), (5, 1), (8, 2), (11, 3), (14, 4), (17, 5), (20, 6), (23, 7), (26, 8), (29, 9), (32, 10), (35, 11), (38, 12)]
def nsDp : List Nat := [3, 5, 8, 11, 14, 17, 20, 23, 26, 29, 32, 35, 38, 39, 42]
def nsT (j : Nat) : List UInt8 × WK := wTab.getD j ([], .net)

def upd (x : Nat → Value) (d : Nat) (v : Value) : Nat → Value := fun n => if n = d then v else x n
def nsA (x : Nat → Value) : Act := { tmps := #[x 0, x 1, x 2, x 3, x 4, x 5, x 6, x 7, x 8, x 9, x 10, x 11, x 12, x 13, x 14, x 15, x 16, x 17, x 18, x 19, x 20, x 21, x 22, x 23, x 24, x 25, x 26, x 27, x 28, x 29, x 30, x 31, x 32, x 33, x 34], defers := [] }

/-- the words so far, in a map -/
def WMap (w : World) (sa m : Nat) (has : Nat → Prop) : Prop := ∃ (es : Array MapEntry) (clock : Nat), w.heap[m]? = some (.map es clock) ∧ (∀ e ∈ es.toList, ∃ j, j < 13 ∧ has j ∧ e.key = .string (bs (nsT j).1) ∧ wordOk w sa (nsT j).2 e.val) ∧ (∀ j, j < 13 → has j → ∃ e ∈ es.toList, e.key = .string (bs (nsT j).1))

theorem WMap.then {w w' : World} {sa m : Nat} {has : Nat → Prop} (h : WMap w sa m has) (g : Kp w w') (hm : ∀ o, w.heap[m]? = some o → w'.heap[m]? = some o) : WMap w' sa m has := by
  obtain ⟨es, c, h1, h2, h3⟩ := h
  exact ⟨es, c, hm _ h1, fun e he => by obtain ⟨j, a, b, d, f⟩ := h2 e he; exact ⟨j, a, b, d, f.kp g⟩, h3⟩

theorem WMap.mono {w : World} {sa m : Nat} {has has' : Nat → Prop} (h : WMap w sa m has) (e : ∀ j, j < 13 → (has j ↔ has' j)) : WMap w sa m has' := by
  obtain ⟨es, c, h1, h2, h3⟩ := h
  exact ⟨es, c, h1, fun x hx => by obtain ⟨j, a, b, d, f⟩ := h2 x hx; exact ⟨j, a, (e j a).1 b, d, f⟩, fun j hj hh => h3 j hj ((e j hj).2 hh)⟩

theorem ns_dif : ∀ a, a < 13 → ∀ b, b < 13 → (nsT a).1 = (nsT b).1 → a = b := by decide

theorem bs_inj {a b : List UInt8} (h : bs a = bs b) : a = b := by
  have := congrArg ByteArray.toList h
  rwa [bs_toL, bs_toL] at this

/-- one word more -/
theorem WMap.put {w : World} {sa m : Nat} {has : Nat → Prop} (h : WMap w sa m has) (j : Nat) (hj : j < 13) (hno : ¬ has j) (v : Value) (hv : wordOk w sa (nsT j).2 v) :
    ∃ o, (Instr.mapUpdate 60 (.map (some m)) (.string (bs (nsT j).1)) v).run Tryd.prog w = .ok () (setBlock w m o) ∧ (∃ es c, w.heap[m]? = some (.map es c)) ∧ Kp w (setBlock w m o) ∧ WMap (setBlock w m o) sa m (fun i => has i ∨ i = j) := by
  obtain ⟨es, c, h1, h2, h3⟩ := h
  have hn : ∀ x ∈ es.toList, x.key ≠ .string (bs (nsT j).1) := fun x hx e => by
    obtain ⟨i, a, b, d, _⟩ := h2 x hx
    rw [d] at e
    have := ns_dif i a j hj (bs_inj (by injection e))
    exact hno (this ▸ b)
  have hup := putS w m es c (bs (nsT j).1) v h1 (fun x hx => by obtain ⟨i, _, _, d, _⟩ := h2 x hx; exact ⟨_, d⟩) hn
  have kp : Kp w (setBlock w m (.map (es.push ⟨.string (bs (nsT j).1), v, c⟩) (c + 1))) := fun k cs t fr hk _ => by
    rw [Go.ChangeMaps.heap_setBlock_other h1 _ (fun e => by subst e; rw [h1] at hk; cases hk)]
    exact hk
  refine ⟨_, hup, ⟨_, _, h1⟩, kp, _, _, Go.ChangeMaps.heap_setBlock_same h1 _, fun e he => ?_, fun i hi hh => ?_⟩
  · simp only [Array.toList_push, List.mem_append, List.mem_singleton] at he
    rcases he with he | rfl
    · obtain ⟨i, a, b, d, f⟩ := h2 e he
      exact ⟨i, a, .inl b, d, f.kp kp⟩
    · exact ⟨j, hj, .inr rfl, rfl, hv.kp kp⟩
  · simp only [Array.toList_push, List.mem_append, List.mem_singleton]
    rcases hh with hh | rfl
    · obtain ⟨e, he, h4⟩ := h3 i hi hh
      exact ⟨e, .inl he, h4⟩
    · exact ⟨_, .inr rfl, rfl⟩

/-- the region under way -/
structure NsF (lo ev pz sa : Nat) (wE : World) (listed : Array Bool) (x : Nat → Value) (w : World) : Prop where
  sz : listed.size = 43
  x1 : x 1 = .pointer (some ⟨pz, 0, none⟩)
  zc : PtrAt w pz sa
  low : lo ≤ sa
  sc : listed.getD 42 false = false → w.heap[sa]? = some (.cells #[.int .i64 0, .slice none 0 0, .slice none 0 0, .slice (some ⟨ev, 0, none⟩) 0 0, .map none] 62)
  ld : ∀ p ∈ nsLd, listed.getD p.1 false = true → x p.2 = .pointer (some ⟨sa, 0, none⟩)
  mw : ∀ p ∈ nsMk, listed.getD p.1 false = true → wordOk w sa (nsT p.2.2).2 (x p.2.1)
  mp : listed.getD 1 false = true → ∃ m, x 6 = .map (some m) ∧ sa < m ∧ WMap w sa m (fun j => ∃ p ∈ nsIn, p.2 = j ∧ listed.getD p.1 false = true)
  dp : ∀ i ∈ nsDp, listed.getD i false = true → listed.getD 1 false = true
  mv : listed.getD 39 false = true → x 31 = x 6
  nc : listed.getD 40 false = true → x 32 = .pointer (some ⟨sa, 0, none⟩)
  fa : listed.getD 41 false = true → x 33 = .pointer (some ⟨sa, 4, none⟩)
  bel : Below lo wE w
  bsz : lo ≤ wE.heap.size
  evc : w.heap[ev]? = some (.cells #[] 53)
  fin : listed.getD 42 false = true → ∃ m, x 6 = .map (some m) ∧ w.heap[sa]? = some (.cells #[.int .i64 0, .slice none 0 0, .slice none 0 0, .slice (some ⟨ev, 0, none⟩) 0 0, .map (some m)] 62)

theorem set_get {listed : Array Bool} {i j : Nat} (h : (listed.setIfInBounds i true).getD j false = true) : j = i ∨ listed.getD j false = true := by
  by_cases e : i = j
  · exact .inl e.symm
  · rw [getD_set_ne false e] at h
    exact .inr h

theorem un_f {listed : Array Bool} {i : Nat} (h : listed.getD i true = false) : listed.getD i false = false := by
  rcases Nat.lt_or_ge i listed.size with h' | h'
  · simp [h'] at h ⊢; exact h
  · simp [Array.getElem?_eq_none h']

theorem set_self {listed : Array Bool} {i : Nat} (h : i < listed.size) : (listed.setIfInBounds i true).getD i false = true := by simp [h]

section
variable {lo ev pz sa : Nat} {wE : World} {listed : Array Bool} {x : Nat → Value} {w w' : World}

theorem NsF.sa_lt (h : NsF lo ev pz sa wE listed x w) : sa < w.heap.size := by
  cases hc : listed.getD 42 false with
  | false => exact lt_of_heap (h.sc hc)
  | true => obtain ⟨m, _, h2⟩ := h.fin hc; exact lt_of_heap h2

/-- one more temporary: i came up, its slot d holds v, the world went on -/
theorem NsF.step (h : NsF lo ev pz sa wE listed x w) (i d : Nat) (v : Value) (hd : (d != 1 && d != 6) = true) (hi : (i != 1 && i != 42 && i != 39) = true)
    (hb : Below w.heap.size w w')
    (hld : (nsLd.all fun p => (p.1 == i) == (p.2 == d)) = true) (hlv : (nsLd.any fun p => p.1 == i) = true → v = .pointer (some ⟨sa, 0, none⟩))
    (hmk : (nsMk.all fun p => (p.1 == i) == (p.2.1 == d)) = true) (hmv : ∀ p ∈ nsMk, p.1 = i → wordOk w' sa (nsT p.2.2).2 v)
    (hin : (nsIn.all fun p => p.1 != i) = true)
    (h31 : d ≠ 31) (h32 : (d == 32) = (i == 40)) (h32v : i = 40 → v = .pointer (some ⟨sa, 0, none⟩)) (h33 : (d == 33) = (i == 41)) (h33v : i = 41 → v = .pointer (some ⟨sa, 4, none⟩)) :
    NsF lo ev pz sa wE (listed.setIfInBounds i true) (upd x d v) w' := by
  simp only [Bool.and_eq_true, bne_iff_ne, ne_eq] at hd hi
  have kp := Kp.of hb
  have hlo : lo ≤ w.heap.size := Nat.le_trans h.bsz h.bel.size
  refine ⟨by simp [h.sz], ?_, ?_, h.low, ?_, ?_, ?_, ?_, ?_, ?_, ?_, ?_, h.bel.trans (hb.mono hlo), h.bsz, (hb.block _ (lt_of_heap h.evc)).trans h.evc, ?_⟩
  · unfold upd; rw [if_neg (fun e => hd.1 e.symm)]; exact h.x1
  · exact (hb.block _ (lt_of_heap h.zc)).trans h.zc
  · intro hs
    rw [getD_set_ne false hi.1.2] at hs
    have := h.sc hs
    exact (hb.block _ (lt_of_heap this)).trans this
  · intro p hp hl
    have e := List.all_eq_true.1 hld p hp
    unfold upd
    rcases set_get hl with e2 | e2
    · rw [if_pos (by simpa [e2] using e)]
      exact hlv (List.any_eq_true.2 ⟨p, hp, by simp [e2]⟩)
    · by_cases e3 : p.2 = d
      · rw [if_pos e3]
        have : p.1 = i := by simpa [e3] using e
        exact hlv (List.any_eq_true.2 ⟨p, hp, by simp [this]⟩)
      · rw [if_neg e3]
        exact h.ld p hp e2
  · intro p hp hl
    have e := List.all_eq_true.1 hmk p hp
    unfold upd
    rcases set_get hl with e2 | e2
    · rw [if_pos (by simpa [e2] using e)]
      exact hmv p hp e2
    · by_cases e3 : p.2.1 = d
      · rw [if_pos e3]
        exact hmv p hp (by simpa [e3] using e)
      · rw [if_neg e3]
        exact (h.mw p hp e2).kp kp
  · intro hl
    rw [getD_set_ne false hi.1.1] at hl
    obtain ⟨m, h1, h2, h3⟩ := h.mp hl
    refine ⟨m, ?_, h2, (h3.then kp (fun o ho => (hb.block _ (lt_of_heap ho)).trans ho)).mono (fun j _ => ⟨?_, ?_⟩)⟩
    · unfold upd; rw [if_neg (fun e => hd.2 e.symm)]; exact h1
    · rintro ⟨p, hp, e, hl2⟩
      exact ⟨p, hp, e, getD_set_true hl2⟩
    · rintro ⟨p, hp, e, hl2⟩
      rcases set_get hl2 with e2 | e2
      · have := List.all_eq_true.1 hin p hp
        simp [e2] at this
      · exact ⟨p, hp, e, e2⟩
  · intro k hk hl
    rw [getD_set_ne false hi.1.1]
    rcases set_get hl with e2 | e2
    · subst e2
      exfalso
      have h4 : k = 39 ∨ k = 42 ∨ ∃ p ∈ nsIn, p.1 = k := by
        revert hk; unfold nsDp nsIn; simp only [List.mem_cons, List.not_mem_nil, or_false]; intro hk; simp; omega
      rcases h4 with h4 | h4 | ⟨p, hp, h4⟩
      · exact hi.2 h4
      · exact hi.1.2 h4
      · have := List.all_eq_true.1 hin p hp
        simp [h4] at this
    · exact h.dp k hk e2
  · intro hl
    rw [getD_set_ne false hi.2] at hl
    unfold upd
    rw [if_neg (fun e => h31 e.symm), if_neg (fun e => hd.2 e.symm)]
    exact h.mv hl
  · intro hl
    unfold upd
    rcases set_get hl with e2 | e2
    · rw [if_pos (by
        have : d = 32 := by simpa [← e2] using h32
        exact this.symm)]
      exact h32v e2.symm
    · by_cases e3 : 32 = d
      · rw [if_pos e3]
        exact h32v (by have : d = 32 := e3.symm; simpa [this] using h32)
      · rw [if_neg e3]; exact h.nc e2
  · intro hl
    unfold upd
    rcases set_get hl with e2 | e2
    · rw [if_pos (by
        have : d = 33 := by simpa [← e2] using h33
        exact this.symm)]
      exact h33v e2.symm
    · by_cases e3 : 33 = d
      · rw [if_pos e3]
        exact h33v (by have : d = 33 := e3.symm; simpa [this] using h33)
      · rw [if_neg e3]; exact h.fa e2
  · intro hl
    rw [getD_set_ne false hi.1.2] at hl
    obtain ⟨m, h1, h2⟩ := h.fin hl
    refine ⟨m, ?_, (hb.block _ (lt_of_heap h2)).trans h2⟩
    unfold upd; rw [if_neg (fun e => hd.2 e.symm)]; exact h1

/-- the map is made -/
theorem NsF.made (h : NsF lo ev pz sa wE listed x w) (h1 : listed.getD 1 true = false) : NsF lo ev pz sa wE (listed.setIfInBounds 1 true) (upd x 6 (.map (some w.heap.size))) (w.alloc (.map #[] 0)) := by
  have hb : Below w.heap.size w (w.alloc (.map #[] 0)) := (Below.refl _ _).alloc (Nat.le_refl _) _
  have kp := Kp.of hb
  have hlo : lo ≤ w.heap.size := Nat.le_trans h.bsz h.bel.size
  have hno : ∀ k ∈ nsDp, listed.getD k false = false := fun k hk => by
    cases hc : listed.getD k false with
    | false => rfl
    | true =>
      have := h.dp k hk hc
      rw [un_f h1] at this
      cases this
  have hno39 := hno 39 (by decide)
  have hno42 := hno 42 (by decide)
  refine ⟨by simp [h.sz], ?_, ?_, h.low, ?_, ?_, ?_, ?_, ?_, ?_, ?_, ?_, h.bel.trans (hb.mono hlo), h.bsz, (hb.block _ (lt_of_heap h.evc)).trans h.evc, ?_⟩
  · exact h.x1
  · exact (hb.block _ (lt_of_heap h.zc)).trans h.zc
  · intro hs
    have := h.sc hno42
    exact (hb.block _ (lt_of_heap this)).trans this
  · intro p hp hl
    rcases set_get hl with e2 | e2
    · exact absurd hp (by have : ∀ q ∈ nsLd, q.1 ≠ 1 := by decide
                          exact fun hq => this p hq e2)
    · unfold upd
      rw [if_neg (by have : ∀ q ∈ nsLd, q.2 ≠ 6 := by decide
                     exact this p hp)]
      exact h.ld p hp e2
  · intro p hp hl
    rcases set_get hl with e2 | e2
    · exact absurd hp (by have : ∀ q ∈ nsMk, q.1 ≠ 1 := by decide
                          exact fun hq => this p hq e2)
    · unfold upd
      rw [if_neg (by have : ∀ q ∈ nsMk, q.2.1 ≠ 6 := by decide
                     exact this p hp)]
      exact (h.mw p hp e2).kp kp
  · intro _
    refine ⟨w.heap.size, rfl, h.sa_lt, #[], 0, heap_alloc_new w _, by simp, fun j _ hh => ?_⟩
    obtain ⟨p, hp, e, hl⟩ := hh
    rcases set_get hl with e2 | e2
    · exact absurd hp (by have : ∀ q ∈ nsIn, q.1 ≠ 1 := by decide
                          exact fun hq => this p hq e2)
    · have h5 : p.1 ∈ nsDp := by have : ∀ q ∈ nsIn, q.1 ∈ nsDp := by decide
                                 exact this p hp
      rw [hno _ h5] at e2
      cases e2
  · intro k _ _
    exact set_self (by rw [h.sz]; decide)
  · intro hl
    rw [getD_set_ne false (by decide), hno39] at hl
    cases hl
  · intro hl
    rw [getD_set_ne false (by decide)] at hl
    exact h.nc hl
  · intro hl
    rw [getD_set_ne false (by decide)] at hl
    exact h.fa hl
  · intro hl
    rw [getD_set_ne false (by decide), hno42] at hl
    cases hl

/-- a word is put in -/
theorem NsF.ins (h : NsF lo ev pz sa wE listed x w) (i j d : Nat) (hij : (i, j) ∈ nsIn) (hun : listed.getD i true = false) (h1 : listed.getD 1 false = true) (hk : ∃ q ∈ nsMk, q.2 = (d, j) ∧ listed.getD q.1 false = true) :
    ∃ m o, x 6 = .map (some m) ∧ (Instr.mapUpdate 60 (.map (some m)) (.string (bs (nsT j).1)) (x d)).run Tryd.prog w = .ok () (setBlock w m o) ∧ NsF lo ev pz sa wE (listed.setIfInBounds i true) x (setBlock w m o) := by
  obtain ⟨m, e6, hm, hW⟩ := h.mp h1
  have huf := un_f hun
  have hfac : ∀ q ∈ nsIn, q.2 < 13 ∧ q.1 ≠ 42 ∧ q.1 ≠ 1 ∧ q.1 ≠ 39 ∧ q.1 ≠ 40 ∧ q.1 ≠ 41 ∧ (∀ p ∈ nsLd, p.1 ≠ q.1) ∧ (∀ p ∈ nsMk, p.1 ≠ q.1) ∧ (∀ p ∈ nsIn, p.2 = q.2 → p.1 = q.1) := by decide
  obtain ⟨g1, g2, g3, g4, g5, g6, g7, g8, g9⟩ := hfac _ hij
  simp only [] at g1 g2 g3 g4 g5 g6 g7 g8 g9
  have hv : wordOk w sa (nsT j).2 (x d) := by
    obtain ⟨q, hq, e, hl⟩ := hk
    have := h.mw q hq hl
    rw [e] at this
    exact this
  obtain ⟨o, hup, ⟨es, c, hmm⟩, kp, hW2⟩ := hW.put j g1 (fun ⟨p, hp, e, hl⟩ => by
    have := g9 p hp e
    rw [this, huf] at hl
    cases hl) (x d) hv
  have hoth : ∀ k, k ≠ m → (setBlock w m o).heap[k]? = w.heap[k]? := fun k hkm => Go.ChangeMaps.heap_setBlock_other hmm o hkm
  have hsz : (setBlock w m o).heap.size = w.heap.size := by simp [setBlock]
  have hlo : lo ≤ w.heap.size := Nat.le_trans h.bsz h.bel.size
  refine ⟨m, o, e6, hup, by simp [h.sz], h.x1, kp _ _ _ _ h.zc (by decide), h.low, ?_, ?_, ?_, ?_, ?_, ?_, ?_, ?_, ?_, h.bsz, ?_, ?_⟩
  · intro hs
    rw [getD_set_ne false g2] at hs
    rw [hoth sa (by omega)]
    exact h.sc hs
  · intro p hp hl
    rcases set_get hl with e2 | e2
    · exact absurd e2 (g7 p hp)
    · exact h.ld p hp e2
  · intro p hp hl
    rcases set_get hl with e2 | e2
    · exact absurd e2 (g8 p hp)
    · exact (h.mw p hp e2).kp kp
  · intro _
    refine ⟨m, e6, hm, hW2.mono (fun k hk13 => ⟨?_, ?_⟩)⟩
    · rintro (⟨p, hp, e, hl⟩ | rfl)
      · exact ⟨p, hp, e, getD_set_true hl⟩
      · exact ⟨_, hij, rfl, set_self (by
          have := hfac _ hij
          rcases Nat.lt_or_ge i listed.size with h' | h'
          · exact h'
          · simp [Array.getElem?_eq_none h'] at hun)⟩
    · rintro ⟨p, hp, e, hl⟩
      rcases set_get hl with e2 | e2
      · right
        have h5 : ∀ a ∈ nsIn, ∀ b ∈ nsIn, a.1 = b.1 → a.2 = b.2 := by decide
        rw [← e]
        exact h5 p hp _ hij e2
      · exact .inl ⟨p, hp, e, e2⟩
  · intro k _ _
    exact getD_set_true h1
  · intro hl
    rw [getD_set_ne false g4] at hl
    exact h.mv hl
  · intro hl
    rw [getD_set_ne false g5] at hl
    exact h.nc hl
  · intro hl
    rw [getD_set_ne false g6] at hl
    exact h.fa hl
  · exact h.bel.trans ⟨rfl, rfl, rfl, Nat.le_of_eq hsz.symm, fun k hk => hoth k (by have := h.low; omega)⟩
  · rw [hoth ev (fun e => by have := h.evc; rw [e, hmm] at this; cases this)]
    exact h.evc
  · intro hl
    rw [getD_set_ne false g2] at hl
    obtain ⟨m', a1, a2⟩ := h.fin hl
    exact ⟨m', a1, by rw [hoth sa (by omega)]; exact a2⟩

/-- the map is taken up -/
theorem NsF.moved (h : NsF lo ev pz sa wE listed x w) (h1 : listed.getD 1 false = true) : NsF lo ev pz sa wE (listed.setIfInBounds 39 true) (upd x 31 (x 6)) w := by
  refine ⟨by simp [h.sz], h.x1, h.zc, h.low, ?_, ?_, ?_, ?_, ?_, fun _ => rfl, ?_, ?_, h.bel, h.bsz, h.evc, ?_⟩
  · intro hs
    rw [getD_set_ne false (by decide)] at hs
    exact h.sc hs
  · intro p hp hl
    rcases set_get hl with e2 | e2
    · exact absurd e2 (by have : ∀ q ∈ nsLd, q.1 ≠ 39 := by decide
                          exact this p hp)
    · unfold upd
      rw [if_neg (by have : ∀ q ∈ nsLd, q.2 ≠ 31 := by decide
                     exact this p hp)]
      exact h.ld p hp e2
  · intro p hp hl
    rcases set_get hl with e2 | e2
    · exact absurd e2 (by have : ∀ q ∈ nsMk, q.1 ≠ 39 := by decide
                          exact this p hp)
    · unfold upd
      rw [if_neg (by have : ∀ q ∈ nsMk, q.2.1 ≠ 31 := by decide
                     exact this p hp)]
      exact h.mw p hp e2
  · intro _
    obtain ⟨m, a1, a2, a3⟩ := h.mp h1
    refine ⟨m, a1, a2, a3.mono (fun j _ => ⟨?_, ?_⟩)⟩
    · rintro ⟨p, hp, e, hl⟩
      exact ⟨p, hp, e, getD_set_true hl⟩
    · rintro ⟨p, hp, e, hl⟩
      rcases set_get hl with e2 | e2
      · exact absurd e2 (by have : ∀ q ∈ nsIn, q.1 ≠ 39 := by decide
                            exact this p hp)
      · exact ⟨p, hp, e, e2⟩
  · intro k _ _
    exact getD_set_true h1
  · intro hl
    rw [getD_set_ne false (by decide)] at hl
    exact h.nc hl
  · intro hl
    rw [getD_set_ne false (by decide)] at hl
    exact h.fa hl
  · intro hl
    rw [getD_set_ne false (by decide)] at hl
    exact h.fin hl

/-- the map is stored -/
theorem NsF.stored (h : NsF lo ev pz sa wE listed x w) (hun : listed.getD 42 true = false) (h1 : listed.getD 1 false = true) :
    ∃ m, x 6 = .map (some m) ∧ NsF lo ev pz sa wE (listed.setIfInBounds 42 true) x (w.setCell ⟨sa, 4, none⟩ (.map (some m))) := by
  obtain ⟨m, e6, hm, hW⟩ := h.mp h1
  have hsc := h.sc (un_f hun)
  have hoth : ∀ k, k ≠ sa → (w.setCell ⟨sa, 4, none⟩ (.map (some m))).heap[k]? = w.heap[k]? := fun k hk => heap_setCell_other _ ⟨sa, 4, none⟩ _ _ hk
  have kp : Kp w (w.setCell ⟨sa, 4, none⟩ (.map (some m))) := fun k cs t fr hk ht => by
    rw [hoth k (fun e => by subst e; rw [hsc] at hk; cases hk; exact ht.2.2.2 rfl)]
    exact hk
  have y := heap_setCell_same _ _ 4 _ _ (Value.map (some m)) hsc
  simp only [List.setIfInBounds_toArray, List.set_cons_zero, List.set_cons_succ] at y
  refine ⟨m, e6, by simp [h.sz], h.x1, kp _ _ _ _ h.zc (by decide), h.low, ?_, ?_, ?_, ?_, ?_, ?_, ?_, ?_, h.bel.setCell (p := ⟨sa, 4, none⟩) h.low _, h.bsz, ?_, fun _ => ⟨m, e6, y⟩⟩
  · intro hs
    rw [set_self (by rw [h.sz]; decide)] at hs
    cases hs
  · intro p hp hl
    rcases set_get hl with e2 | e2
    · exact absurd e2 (by have : ∀ q ∈ nsLd, q.1 ≠ 42 := by decide
                          exact this p hp)
    · exact h.ld p hp e2
  · intro p hp hl
    rcases set_get hl with e2 | e2
    · exact absurd e2 (by have : ∀ q ∈ nsMk, q.1 ≠ 42 := by decide
                          exact this p hp)
    · exact (h.mw p hp e2).kp kp
  · intro _
    refine ⟨m, e6, hm, (hW.then kp (fun o ho => by rw [hoth m (by omega)]; exact ho)).mono (fun j _ => ⟨?_, ?_⟩)⟩
    · rintro ⟨p, hp, e, hl⟩
      exact ⟨p, hp, e, getD_set_true hl⟩
    · rintro ⟨p, hp, e, hl⟩
      rcases set_get hl with e2 | e2
      · exact absurd e2 (by have : ∀ q ∈ nsIn, q.1 ≠ 42 := by decide
                            exact this p hp)
      · exact ⟨p, hp, e, e2⟩
  · intro k _ _
    exact getD_set_true h1
  · intro hl
    rw [getD_set_ne false (by decide)] at hl
    exact h.mv hl
  · intro hl
    rw [getD_set_ne false (by decide)] at hl
    exact h.nc hl
  · intro hl
    rw [getD_set_ne false (by decide)] at hl
    exact h.fa hl
  · rw [hoth ev (fun e => by have := h.evc; rw [e, hsc] at this; cases this)]
    exact h.evc
end
end Go.Proofs.YtpiookjdeopmgaaDoor
namespace Go.Proofs.YtpiookjdeopmgaaDoor
open Go.RowKit

set_option linter.unusedSimpArgs false
set_option linter.unusedVariables false

def plcW (s : SD) (kd : Int) (ps : List (List UInt8)) : Option SD := if numsN 1 ps = true then putEF s ⟨kd, 1, numI (ps.getD 0 []), ⟨#[]⟩⟩ else none

set_option maxRecDepth 100000 in
set_option maxHeartbeats 4000000 in
theorem plcW_any (lo sa m p1 p2 : Nat) (s : SD) (kd : Int) (v : Value) (ps : List (List UInt8)) (v1 v2 v3 : Value) (w : World) (h : ScAt w lo sa m s v1 v2 v3) (hlo : lo ≤ w.heap.size) (hl : s.es.length ≤ 60)
    (hp1 : w.heap[p1]? = some (.cells #[.pointer (some ⟨sa, 0, none⟩)] 57)) (hp2 : w.heap[p2]? = some (.cells #[.int .i64 kd] 3)) (hv : StrsAt w v ps w.heap.size) (hn : ps.length ≤ 1048576) (hps : ∀ l ∈ ps, l.length ≤ 1048576) :
    Calls Tryd.prog 79 #[v, .pointer (some ⟨p1, 0, none⟩), .pointer (some ⟨p2, 0, none⟩)] w fun e w' => e = .returned (.bool (plcW s kd ps).isSome) ∧ FrS lo w w' ∧ ∀ s', plcW s kd ps = some s' → ScIn w' lo sa m s' := by
  obtain ⟨G, hG⟩ : ∃ G, G = plcW s kd ps := ⟨_, rfl⟩
  rw [← hG]
  have G0 := hide hG
  clear hG
  have HI := hide (inums_any v ps 1 w hv hn hps)
  have HS := hide h
  have HP1 := hide hp1
  have HP2 := hide hp2
  clear h hv hp1 hp2 hps
  obtain ⟨q, hq⟩ : ∃ q, q = numsN 1 ps := ⟨_, rfl⟩
  rw [← hq] at HI
  have HQ := hide hq
  clear hq
  go_enter Tryd.func79, Tryd.ntmps79
  go_wp2_with fail
  refine HI.out.mono ?_
  rintro e w2 ⟨u, rfl, hou, b2⟩
  have ST2 := hide (HS.out.below b2)
  have F2 := hide (FrS.of b2 hlo)
  have g1 := (b2.block _ (lt_of_heap HP1.out)).trans HP1.out
  have g2 := (b2.block _ (lt_of_heap HP2.out)).trans HP2.out
  clear b2
  cases q
  · have g := hide (show G = none by rw [G0.out, plcW, ← HQ.out]; rfl)
    clear hou
    go_wp2
    refine wp_region_start (S := fun _ => True) (by kernel_rfl) 11 rfl trivial (fun ops hops hHeld => ?_)
    refine take_do 0 (oi := ?_) (v := ?_) ?_ (by rw [hops.out]; kernel_rfl) ?_ ?_ ?_ (by assumption) ?_
    rotate_left 2
    · rw [hops.out]; simp only [List.getElem?_toArray, List.getElem?_cons_succ, List.getElem?_cons_zero]; rfl
    · rw [hops.out]; kernel_rfl
    · intro W hW; (try dsimp only at hW); go_simp <;> with_reducible rfl
    · exact fun _ _ _ h => h
    try simp only [Act.put, List.setIfInBounds_toArray, List.set_cons_zero, List.set_cons_succ]
    refine take_do 1 (oi := ?_) (v := ?_) ?_ (by rw [hops.out]; kernel_rfl) ?_ ?_ ?_ (by assumption) ?_
    rotate_left 2
    · rw [hops.out]; simp only [List.getElem?_toArray, List.getElem?_cons_succ, List.getElem?_cons_zero]; rfl
    · rw [hops.out]; kernel_rfl
    · intro W hW; (try dsimp only at hW); go_simp <;> with_reducible rfl
    · exact fun _ _ _ h => h
    try simp only [Act.put, List.setIfInBounds_toArray, List.set_cons_zero, List.set_cons_succ]
    refine take_skip 2 14 (by rw [hops.out]; kernel_rfl) (by rw [hops.out]; kernel_rfl) (by rw [hops.out]; kernel_rfl) (fun _ _ _ h => h) (by assumption) ?_
    try simp only [Act.put, List.setIfInBounds_toArray, List.set_cons_zero, List.set_cons_succ]
    refine take_skip 3 15 (by rw [hops.out]; kernel_rfl) (by rw [hops.out]; kernel_rfl) (by rw [hops.out]; kernel_rfl) (fun _ _ _ h => h) (by assumption) ?_
    try simp only [Act.put, List.setIfInBounds_toArray, List.set_cons_zero, List.set_cons_succ]
    refine take_skip 4 16 (by rw [hops.out]; kernel_rfl) (by rw [hops.out]; kernel_rfl) (by rw [hops.out]; kernel_rfl) (fun _ _ _ h => h) (by assumption) ?_
    try simp only [Act.put, List.setIfInBounds_toArray, List.set_cons_zero, List.set_cons_succ]
    refine take_skip 5 17 (by rw [hops.out]; kernel_rfl) (by rw [hops.out]; kernel_rfl) (by rw [hops.out]; kernel_rfl) (fun _ _ _ h => h) (by assumption) ?_
    try simp only [Act.put, List.setIfInBounds_toArray, List.set_cons_zero, List.set_cons_succ]
    refine take_skip 6 18 (by rw [hops.out]; kernel_rfl) (by rw [hops.out]; kernel_rfl) (by rw [hops.out]; kernel_rfl) (fun _ _ _ h => h) (by assumption) ?_
    try simp only [Act.put, List.setIfInBounds_toArray, List.set_cons_zero, List.set_cons_succ]
    refine take_skip 7 19 (by rw [hops.out]; kernel_rfl) (by rw [hops.out]; kernel_rfl) (by rw [hops.out]; kernel_rfl) (fun _ _ _ h => h) (by assumption) ?_
    try simp only [Act.put, List.setIfInBounds_toArray, List.set_cons_zero, List.set_cons_succ]
    refine take_skip 8 20 (by rw [hops.out]; kernel_rfl) (by rw [hops.out]; kernel_rfl) (by rw [hops.out]; kernel_rfl) (fun _ _ _ h => h) (by assumption) ?_
    try simp only [Act.put, List.setIfInBounds_toArray, List.set_cons_zero, List.set_cons_succ]
    refine take_do 9 (oi := ?_) (v := ?_) ?_ (by rw [hops.out]; kernel_rfl) ?_ ?_ ?_ (by assumption) ?_
    rotate_left 2
    · rw [hops.out]; simp only [List.getElem?_toArray, List.getElem?_cons_succ, List.getElem?_cons_zero]; rfl
    · rw [hops.out]; kernel_rfl
    · intro W hW; (try dsimp only at hW); go_simp <;> with_reducible rfl
    · exact fun _ _ _ h => h
    try simp only [Act.put, List.setIfInBounds_toArray, List.set_cons_zero, List.set_cons_succ]
    refine take_do 10 (oi := ?_) (v := ?_) ?_ (by rw [hops.out]; kernel_rfl) ?_ ?_ ?_ (by assumption) ?_
    rotate_left 2
    · rw [hops.out]; simp only [List.getElem?_toArray, List.getElem?_cons_succ, List.getElem?_cons_zero]; rfl
    · rw [hops.out]; kernel_rfl
    · intro W hW; (try dsimp only at hW); go_simp <;> with_reducible rfl
    · exact fun _ _ _ h => h
    try simp only [Act.put, List.setIfInBounds_toArray, List.set_cons_zero, List.set_cons_succ]
    refine wpAnyH_done (by rw [hops.out]; kernel_rfl) ?_ _
    clear hops ops
    go_wp2
    go_ret
    exact ⟨by rw [g.out]; rfl, F2.out.drew, fun s' e => by rw [g.out] at e; cases e⟩
  · have hnn := HQ.out
    simp only [numsN, eq_comm (a := true), Bool.and_eq_true, decide_eq_true_eq] at hnn
    have hlen : ps.length = 1 := by have := hnn.1; omega
    have how := hou rfl
    rw [hlen] at how
    obtain ⟨y0, rfl⟩ : ∃ y0, ps = [y0] := by
      obtain ⟨y0, e⟩ := List.length_eq_one_iff.1 hlen
      exact ⟨y0, e⟩
    obtain ⟨z0, hz0⟩ : ∃ z, z = numI y0 := ⟨_, rfl⟩
    have gg := hide (show G = putEF s ⟨kd, 1, z0, ⟨#[]⟩⟩ by
      rw [G0.out, plcW, if_pos HQ.out.symm]
      simp only [List.getD_cons_zero, List.getD_cons_succ, ← hz0])
    have GS := hide (congrArg Option.isSome gg.out)
    simp only [List.map_cons, List.map_nil, ← hz0] at how
    obtain ⟨g, gc, rfl, hg1, hgl⟩ := owns_shape how (by omega)
    have i0 := how.cellAt 0 (by omega)
    simp [intsOf] at i0
    have c1 := cells_at g1 0
    have c2 := cells_at g2 0
    simp at c1 c2
    have hc := hide ((And.intro c1 (And.intro c2 i0)))
    clear how hou hlen hnn hz0 i0 c1 c2
    have ST3 := hide (ST2.out.below (show Below w2.heap.size w2 w2.drew from (Below.refl _ _).drew))
    go_wp2
    refine wp_region_noPanic ?_
    refine wp_region_startL 8 (fun W => W.cell? ⟨p1, 0, none⟩ = some (.pointer (some ⟨sa, 0, none⟩)) ∧ W.cell? ⟨p2, 0, none⟩ = some (.int .i64 kd) ∧ W.cell? ⟨g, 0, none⟩ = some (.int .i64 z0)) (by kernel_rfl) 11 rfl (fun ops hops => ?_)
    refine takeL_do 0 (oi := ?_) (v := ?_) ?_ (by rw [hops.out]; kernel_rfl) ?_ ?_ ?_ rfl hc.out ?_
    rotate_left 2
    · rw [hops.out]; simp only [List.getElem?_toArray, List.getElem?_cons_succ, List.getElem?_cons_zero]; rfl
    · rw [hops.out]; kernel_rfl
    · intro W; go_simp <;> with_reducible rfl
    · exact fun _ _ _ h => h
    try simp only [Act.put, List.setIfInBounds_toArray, List.set_cons_zero, List.set_cons_succ]
    refine takeL_do 1 (oi := ?_) (v := ?_) ?_ (by rw [hops.out]; kernel_rfl) ?_ ?_ ?_ rfl hc.out ?_
    rotate_left 2
    · rw [hops.out]; simp only [List.getElem?_toArray, List.getElem?_cons_succ, List.getElem?_cons_zero]; rfl
    · rw [hops.out]; kernel_rfl
    · intro W; go_simp <;> with_reducible rfl
    · exact fun _ _ _ h => h
    try simp only [Act.put, List.setIfInBounds_toArray, List.set_cons_zero, List.set_cons_succ]
    refine takeL_held 2 [8] (oi := ?_) (v := ?_) ?_ (by rw [hops.out]; kernel_rfl) (by rw [hops.out]; kernel_rfl) ?_ ?_ ?_ hc.out ?_
    rotate_left 2
    · rw [hops.out]; simp only [List.getElem?_toArray, List.getElem?_cons_succ, List.getElem?_cons_zero]; rfl
    · rw [hops.out]; kernel_rfl
    · intro W hW; obtain ⟨j0, j1, j2⟩ := hW; go_simp <;> with_reducible rfl
    · exact fun _ _ _ h => h
    try simp only [Act.put, List.setIfInBounds_toArray, List.set_cons_zero, List.set_cons_succ]
    refine takeL_held 3 [7, 8] (oi := ?_) (v := ?_) ?_ (by rw [hops.out]; kernel_rfl) (by rw [hops.out]; kernel_rfl) ?_ ?_ ?_ hc.out ?_
    rotate_left 2
    · rw [hops.out]; simp only [List.getElem?_toArray, List.getElem?_cons_succ, List.getElem?_cons_zero]; rfl
    · rw [hops.out]; kernel_rfl
    · intro W hW; obtain ⟨j0, j1, j2⟩ := hW; go_simp <;> with_reducible rfl
    · exact fun _ _ _ h => h
    try simp only [Act.put, List.setIfInBounds_toArray, List.set_cons_zero, List.set_cons_succ]
    refine takeL_do 4 (oi := ?_) (v := ?_) ?_ (by rw [hops.out]; kernel_rfl) ?_ ?_ ?_ rfl hc.out ?_
    rotate_left 2
    · rw [hops.out]; simp only [List.getElem?_toArray, List.getElem?_cons_succ, List.getElem?_cons_zero]; rfl
    · rw [hops.out]; kernel_rfl
    · intro W; go_simp <;> with_reducible rfl
    · exact fun _ _ _ h => h
    try simp only [Act.put, List.setIfInBounds_toArray, List.set_cons_zero, List.set_cons_succ]
    refine takeL_do 5 (oi := ?_) (v := ?_) ?_ (by rw [hops.out]; kernel_rfl) ?_ ?_ ?_ rfl hc.out ?_
    rotate_left 2
    · rw [hops.out]; simp only [List.getElem?_toArray, List.getElem?_cons_succ, List.getElem?_cons_zero]; rfl
    · rw [hops.out]; kernel_rfl
    · intro W; go_simp <;> with_reducible rfl
    · exact fun _ _ _ h => h
    try simp only [Act.put, List.setIfInBounds_toArray, List.set_cons_zero, List.set_cons_succ]
    refine takeL_held 6 [7, 8] (oi := ?_) (v := ?_) ?_ (by rw [hops.out]; kernel_rfl) (by rw [hops.out]; kernel_rfl) ?_ ?_ ?_ hc.out ?_
    rotate_left 2
    · rw [hops.out]; simp only [List.getElem?_toArray, List.getElem?_cons_succ, List.getElem?_cons_zero]; rfl
    · rw [hops.out]; kernel_rfl
    · intro W hW; obtain ⟨j0, j1, j2⟩ := hW; go_simp <;> with_reducible rfl
    · exact fun _ _ _ h => h
    try simp only [Act.put, List.setIfInBounds_toArray, List.set_cons_zero, List.set_cons_succ]
    refine takeL_do 7 (oi := ?_) (v := ?_) ?_ (by rw [hops.out]; kernel_rfl) ?_ ?_ ?_ rfl hc.out ?_
    rotate_left 2
    · rw [hops.out]; simp only [List.getElem?_toArray, List.getElem?_cons_succ, List.getElem?_cons_zero]; rfl
    · rw [hops.out]; kernel_rfl
    · intro W; go_simp <;> with_reducible rfl
    · exact fun _ _ _ h => h
    try simp only [Act.put, List.setIfInBounds_toArray, List.set_cons_zero, List.set_cons_succ]
    refine takeL_call 8 (oi := ?_) ?_ (by rw [hops.out]; kernel_rfl) ?_ ?_
    rotate_left 1
    · rw [hops.out]; simp only [List.getElem?_toArray, List.getElem?_cons_succ, List.getElem?_cons_zero]; rfl
    · rw [hops.out]; kernel_rfl
    intro K hK
    go_simp
    refine (takeE_any lo sa m s ⟨kd, 1, z0, ⟨#[]⟩⟩ v1 v2 v3 _ ST3.out (by have := F2.out.below.size; simp; omega) (by omega)).mono ?_
    rintro e w9 ⟨rfl, F9, R9⟩
    rw [← GS.out]
    have F3 := hide (F2.out.drew.trans F9)
    have R3 := hide R9
    clear F9 R9
    refine hK.out _ _ (fun h => by simp at h) ?_
    clear hK K
    try simp only [Act.put, List.setIfInBounds_toArray, List.set_cons_zero, List.set_cons_succ]
    refine takeL_call 9 (oi := ?_) ?_ (by rw [hops.out]; kernel_rfl) ?_ ?_
    rotate_left 1
    · rw [hops.out]; simp only [List.getElem?_toArray, List.getElem?_cons_succ, List.getElem?_cons_zero]; rfl
    · rw [hops.out]; kernel_rfl
    intro K hK
    go_simp
    refine hK.out _ _ (fun h => by simp at h) ?_
    clear hK K
    try simp only [Act.put, List.setIfInBounds_toArray, List.set_cons_zero, List.set_cons_succ]
    refine takeL_call 10 (oi := ?_) ?_ (by rw [hops.out]; kernel_rfl) ?_ ?_
    rotate_left 1
    · rw [hops.out]; simp only [List.getElem?_toArray, List.getElem?_cons_succ, List.getElem?_cons_zero]; rfl
    · rw [hops.out]; kernel_rfl
    intro K hK
    go_simp
    refine hK.out _ _ (fun h => by simp at h) ?_
    clear hK K
    try simp only [Act.put, List.setIfInBounds_toArray, List.set_cons_zero, List.set_cons_succ]
    refine wpAnyL_done (by rw [hops.out]; kernel_rfl) (NoPanic.normal ?_) _
    clear hops ops
    go_wp2
    go_ret
    exact ⟨rfl, F3.out, fun s' e => R3.out s' (by rw [← gg.out]; exact e)⟩
end Go.Proofs.YtpiookjdeopmgaaDoor
