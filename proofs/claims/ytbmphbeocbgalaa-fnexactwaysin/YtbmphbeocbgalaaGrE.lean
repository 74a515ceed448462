/-
  The search for shortest ways, as values: what holds while nodes are gone on from one by one, the cheapest first; that its end tells costs and hops which are determined by the links alone.
  A heap in a row, as values: what sifting up and down makes of it.
-/
import Derived.Test.YtbmphbeocbgalaaGrA
namespace Go.Proofs.Ytbmphbeocbgalaa

/-- the nodes are 1 .. 6 -/
def IsNode (v : Nat) : Prop := 1 ≤ v ∧ v ≤ 6

/-- costs of links: not below 0, at most K, of nodes alone -/
structure Links (L : Nat → Nat → Int) (K : Int) : Prop where
  pos : ∀ u v, 0 ≤ L u v
  le : ∀ u v, L u v ≤ K
  node : ∀ u v, 0 < L u v → IsNode u ∧ IsNode v

/-- the hop by which a way goes on over the link from u to v -/
def OverHop (src : Nat) (h : Nat → List Int) (u v : Nat) (x : Int) : Prop := (u = src ∧ x = (v : Int)) ∨ (u ≠ src ∧ x ∈ h u)

/-- the state of a search from src: F are the nodes that are done, c the costs (below 0: none yet), h the hops -/
structure Inv (L : Nat → Nat → Int) (src : Nat) (F : Nat → Bool) (c : Nat → Int) (h : Nat → List Int) : Prop where
  fnode : ∀ v, F v = true → IsNode v ∧ 0 ≤ c v
  cnode : ∀ v, 0 ≤ c v → IsNode v
  start : c src = 0
  start0 : h src = []
  closed : ∀ u v, F u = true → 0 < L u v → 0 ≤ c v ∧ c v ≤ c u + L u v
  pred : ∀ v, v ≠ src → 0 ≤ c v → ∃ u, F u = true ∧ 0 < L u v ∧ c v = c u + L u v
  mono : ∀ u v, F u = true → F v = false → 0 ≤ c v → c u ≤ c v
  hop : ∀ v, v ≠ src → ∀ x, x ∈ h v ↔ 0 ≤ c v ∧ ∃ u, F u = true ∧ 0 < L u v ∧ c v = c u + L u v ∧ OverHop src h u v x
  asc : ∀ v, (h v).Pairwise (· < ·)
  rng : ∀ v x, x ∈ h v → 1 ≤ x ∧ x ≤ 6

/-- what going on from u makes of the cost of v -/
def relaxC (L : Nat → Nat → Int) (c : Nat → Int) (u v : Nat) : Int :=
  if 0 < L u v ∧ (c v < 0 ∨ c u + L u v < c v) then c u + L u v else c v

theorem relaxC_le {L : Nat → Nat → Int} {c : Nat → Int} {u v : Nat} (h : 0 ≤ c v) : relaxC L c u v ≤ c v := by
  unfold relaxC; split <;> omega

theorem relaxC_nn {L : Nat → Nat → Int} {c : Nat → Int} {u v : Nat} (hu : 0 ≤ c u) (h : 0 ≤ c v) : 0 ≤ relaxC L c u v := by
  unfold relaxC; split <;> omega

theorem relaxC_same {L : Nat → Nat → Int} {c : Nat → Int} {u v : Nat} (h0 : 0 ≤ c v) (h : c v ≤ c u) : relaxC L c u v = c v := by
  unfold relaxC; split <;> omega

/-- the hops behind going on from u, as a set -/
structure RelaxH (L : Nat → Nat → Int) (src : Nat) (c : Nat → Int) (h : Nat → List Int) (u v : Nat) (h' : List Int) : Prop where
  asc : h'.Pairwise (· < ·)
  mem : ∀ x, x ∈ h' ↔ ((x ∈ h v ∧ relaxC L c u v = c v) ∨ (0 < L u v ∧ relaxC L c u v = c u + L u v ∧ OverHop src h u v x))

theorem Inv.step {L : Nat → Nat → Int} {K : Int} {src : Nat} {F : Nat → Bool} {c : Nat → Int} {h : Nat → List Int} (I : Inv L src F c h) (hL : Links L K)
    {u : Nat} (hu : F u = false) (hcu : 0 ≤ c u) (hmin : ∀ v, F v = false → 0 ≤ c v → c u ≤ c v) {h' : Nat → List Int} (hh : ∀ v, RelaxH L src c h u v (h' v)) :
    Inv L src (fun v => F v || v == u) (fun v => relaxC L c u v) h' := by
  have hup : ∀ v, F v = true → c v ≤ c u := fun v hv => I.mono v u hv hu hcu
  have keep : ∀ v, F v = true → relaxC L c u v = c v := fun v hv => relaxC_same (I.fnode v hv).2 (hup v hv)
  have keepu : relaxC L c u u = c u := relaxC_same hcu (Int.le_refl _)
  have hsrc : relaxC L c u src = 0 := by
    have := I.start
    unfold relaxC; split <;> omega
  have hFn : ∀ v, F v = true → v ≠ u := fun v hv e => by rw [e, hu] at hv; cases hv
  -- hops of done nodes and of u stay
  have hsame : ∀ v, 0 ≤ c v → c v ≤ c u → ∀ x, x ∈ h' v ↔ x ∈ h v := by
    intro v h0 hv x
    rw [(hh v).mem x]
    have e := relaxC_same (L := L) h0 hv
    constructor
    · rintro (⟨h1, _⟩ | ⟨h1, h2, _⟩)
      · exact h1
      · omega
    · intro h1; exact .inl ⟨h1, e⟩
  have hover : ∀ w, (F w = true ∨ w = u) → ∀ v x, OverHop src h' w v x ↔ OverHop src h w v x := by
    intro w hw v x
    have : ∀ x, x ∈ h' w ↔ x ∈ h w := by
      rcases hw with hw | rfl
      · exact hsame w (I.fnode w hw).2 (hup w hw)
      · exact hsame _ hcu (Int.le_refl _)
    unfold OverHop; rw [this x]
  have hFu : ∀ v, (F v || v == u) = true ↔ (F v = true ∨ v = u) := by
    intro v; simp
  refine ⟨?_, ?_, hsrc, ?_, ?_, ?_, ?_, ?_, fun v => (hh v).asc, ?_⟩
  · intro v hv
    rcases (hFu v).1 hv with h1 | rfl
    · refine ⟨(I.fnode v h1).1, ?_⟩
      show 0 ≤ relaxC L c u v
      rw [keep v h1]; exact (I.fnode v h1).2
    · refine ⟨I.cnode _ hcu, ?_⟩
      show 0 ≤ relaxC L c _ _
      rw [keepu]; exact hcu
  · intro v hv
    have hv' : 0 ≤ relaxC L c u v := hv
    unfold relaxC at hv'
    split at hv'
    · rename_i h1; exact (hL.node u v h1.1).2
    · exact I.cnode v hv'
  · have : ∀ x, x ∉ h' src := by
      intro x hx
      rw [(hh src).mem x, I.start0] at hx
      rcases hx with ⟨h1, _⟩ | ⟨h1, h2, _⟩
      · cases h1
      · rw [hsrc] at h2; omega
    exact List.eq_nil_iff_forall_not_mem.2 this
  · intro w v hw hl
    show 0 ≤ relaxC L c u v ∧ relaxC L c u v ≤ relaxC L c u w + L w v
    rcases (hFu w).1 hw with h1 | rfl
    · rw [keep w h1]
      have := I.closed w v h1 hl
      have h2 := relaxC_le (L := L) (u := u) this.1
      have h3 := relaxC_nn (L := L) hcu this.1
      omega
    · rw [keepu]
      unfold relaxC
      split <;> omega
  · intro v hv h0
    have h0' : 0 ≤ relaxC L c u v := h0
    show ∃ w, (F w || w == u) = true ∧ 0 < L w v ∧ relaxC L c u v = relaxC L c u w + L w v
    by_cases h1 : 0 < L u v ∧ (c v < 0 ∨ c u + L u v < c v)
    · refine ⟨u, by simp, h1.1, ?_⟩
      rw [keepu]; unfold relaxC; rw [if_pos h1]
    · have e : relaxC L c u v = c v := by unfold relaxC; rw [if_neg h1]
      rw [e] at h0' ⊢
      obtain ⟨w, hw, hl, hc⟩ := I.pred v hv h0'
      exact ⟨w, by simp [hw], hl, by rw [keep w hw]; exact hc⟩
  · intro w v hw hv h0
    have h0' : 0 ≤ relaxC L c u v := h0
    have hv1 : F v = false := by cases hfv : F v <;> simp [hfv] at hv ⊢
    show relaxC L c u w ≤ relaxC L c u v
    have hwc : relaxC L c u w ≤ c u := by
      rcases (hFu w).1 hw with h1 | rfl
      · rw [keep w h1]; exact hup w h1
      · rw [keepu]; omega
    have huv : c u ≤ relaxC L c u v := by
      by_cases h1 : 0 < L u v ∧ (c v < 0 ∨ c u + L u v < c v)
      · unfold relaxC; rw [if_pos h1]; omega
      · have e : relaxC L c u v = c v := by unfold relaxC; rw [if_neg h1]
        rw [e] at h0' ⊢
        exact hmin v hv1 h0'
    omega
  · intro v hv x
    show x ∈ h' v ↔ 0 ≤ relaxC L c u v ∧ ∃ w, (F w || w == u) = true ∧ 0 < L w v ∧ relaxC L c u v = relaxC L c u w + L w v ∧ OverHop src h' w v x
    rw [(hh v).mem x]
    constructor
    · rintro (⟨h1, h2⟩ | ⟨h1, h2, h3⟩)
      · obtain ⟨h0, w, hw, hl, hc, ho⟩ := (I.hop v hv x).1 h1
        rw [h2]
        exact ⟨h0, w, by simp [hw], hl, by rw [keep w hw]; exact hc, (hover w (.inl hw) v x).2 ho⟩
      · refine ⟨by omega, u, by simp, h1, by rw [keepu]; exact h2, (hover u (.inr rfl) v x).2 h3⟩
    · rintro ⟨h0, w, hw, hl, hc, ho⟩
      rcases (hFu w).1 hw with h1 | rfl
      · rw [keep w h1] at hc
        have hcl := I.closed w v h1 hl
        have h3 := relaxC_le (L := L) (u := u) hcl.1
        have e : relaxC L c u v = c v := by omega
        refine .inl ⟨(I.hop v hv x).2 ⟨hcl.1, w, h1, hl, by omega, (hover w (.inl h1) v x).1 ho⟩, e⟩
      · rw [keepu] at hc
        exact .inr ⟨hl, hc, (hover _ (.inr rfl) v x).1 ho⟩
  · intro v x hx
    rw [(hh v).mem x] at hx
    rcases hx with ⟨h1, _⟩ | ⟨h1, _, h3⟩
    · exact I.rng v x h1
    · rcases h3 with ⟨_, rfl⟩ | ⟨_, h4⟩
      · have := (hL.node u v h1).2; unfold IsNode at this; omega
      · exact I.rng u x h4

/-- ascending lists with the same members are the same -/
theorem asc_ext : ∀ {a b : List Int}, a.Pairwise (· < ·) → b.Pairwise (· < ·) → (∀ x, x ∈ a ↔ x ∈ b) → a = b
  | [], [], _, _, _ => rfl
  | [], y :: ys, _, _, h => by have := (h y).2 (by simp); cases this
  | x :: xs, [], _, _, h => by have := (h x).1 (by simp); cases this
  | x :: xs, y :: ys, ha, hb, h => by
    have ha' := List.pairwise_cons.1 ha
    have hb' := List.pairwise_cons.1 hb
    have hxy : x = y := by
      have h1 := (h x).1 (by simp)
      have h2 := (h y).2 (by simp)
      rcases List.mem_cons.1 h1 with e | e
      · exact e
      · rcases List.mem_cons.1 h2 with e2 | e2
        · exact e2.symm
        · have := ha'.1 y e2; have := hb'.1 x e; omega
    subst hxy
    have : xs = ys := by
      refine asc_ext ha'.2 hb'.2 (fun z => ?_)
      have hz := h z
      constructor
      · intro hm
        have h1 := hz.1 (List.mem_cons_of_mem _ hm)
        rcases List.mem_cons.1 h1 with e | e
        · have := ha'.1 z hm; omega
        · exact e
      · intro hm
        have h1 := hz.2 (List.mem_cons_of_mem _ hm)
        rcases List.mem_cons.1 h1 with e | e
        · have := hb'.1 z hm; omega
        · exact e
    rw [this]

/-- the end of a search: every node that has a cost is done -/
def Fix (L : Nat → Nat → Int) (src : Nat) (c : Nat → Int) (h : Nat → List Int) : Prop := ∃ F, Inv L src F c h ∧ ∀ v, 0 ≤ c v → F v = true

theorem Fix.cost_le {L : Nat → Nat → Int} {src : Nat} {c d : Nat → Int} {h g : Nat → List Int} (A : Fix L src c h) (B : Fix L src d g) :
    ∀ (n : Nat) (v : Nat), 0 ≤ c v → (c v).toNat ≤ n → 0 ≤ d v ∧ d v ≤ c v := by
  obtain ⟨F, I, hF⟩ := A
  obtain ⟨G, J, hG⟩ := B
  intro n
  induction n with
  | zero =>
    intro v h0 hn
    by_cases hv : v = src
    · subst hv; rw [J.start]; omega
    · obtain ⟨u, hu, hl, hc⟩ := I.pred v hv h0
      have := (I.fnode u hu).2
      omega
  | succ n ih =>
    intro v h0 hn
    by_cases hv : v = src
    · subst hv; rw [J.start, I.start]; omega
    · obtain ⟨u, hu, hl, hc⟩ := I.pred v hv h0
      have h1 := (I.fnode u hu).2
      have h2 := ih u h1 (by omega)
      have h3 := J.closed u v (hG u h2.1) hl
      omega

theorem Fix.cost {L : Nat → Nat → Int} {src : Nat} {c d : Nat → Int} {h g : Nat → List Int} (A : Fix L src c h) (B : Fix L src d g) (v : Nat) (h0 : 0 ≤ c v) : d v = c v := by
  have h1 := A.cost_le B _ v h0 (Nat.le_refl _)
  have h2 := B.cost_le A _ v h1.1 (Nat.le_refl _)
  omega

theorem Fix.hops_sub {L : Nat → Nat → Int} {src : Nat} {c d : Nat → Int} {h g : Nat → List Int} (A : Fix L src c h) (B : Fix L src d g) :
    ∀ (n : Nat) (v : Nat), 0 ≤ c v → (c v).toNat ≤ n → ∀ x, x ∈ h v → x ∈ g v := by
  have hcost := A.cost B
  obtain ⟨F, I, hF⟩ := A
  obtain ⟨G, J, hG⟩ := B
  intro n
  induction n with
  | zero =>
    intro v h0 hn x hx
    by_cases hv : v = src
    · subst hv; rw [I.start0] at hx; cases hx
    · obtain ⟨u, hu, hl, hc⟩ := I.pred v hv h0
      have := (I.fnode u hu).2
      omega
  | succ n ih =>
    intro v h0 hn x hx
    by_cases hv : v = src
    · subst hv; rw [I.start0] at hx; cases hx
    · obtain ⟨_, u, hu, hl, hc, ho⟩ := (I.hop v hv x).1 hx
      have h1 := (I.fnode u hu).2
      have eu := hcost u h1
      have ev := hcost v h0
      refine (J.hop v hv x).2 ⟨by omega, u, hG u (by omega), hl, by omega, ?_⟩
      rcases ho with h3 | ⟨h3, h4⟩
      · exact .inl h3
      · exact .inr ⟨h3, ih u h1 (by omega) x h4⟩

theorem Fix.hops {L : Nat → Nat → Int} {src : Nat} {c d : Nat → Int} {h g : Nat → List Int} (A : Fix L src c h) (B : Fix L src d g) (v : Nat) (h0 : 0 ≤ c v) : g v = h v := by
  have e := A.cost B v h0
  have sub1 := A.hops_sub B _ v h0 (Nat.le_refl _)
  have sub2 := B.hops_sub A _ v (by omega : 0 ≤ d v) (Nat.le_refl _)
  obtain ⟨F, I, _⟩ := A
  obtain ⟨G, J, _⟩ := B
  exact asc_ext (J.asc v) (I.asc v) (fun x => ⟨sub2 x, sub1 x⟩)

/-- the search's start -/
theorem Inv.init {L : Nat → Nat → Int} {src : Nat} (hs : IsNode src) : Inv L src (fun _ => false) (fun v => if v = src then 0 else -1) (fun _ => []) := by
  refine ⟨by simp, ?_, by simp, rfl, by simp, ?_, by simp, ?_, by simp, by simp⟩
  · intro v hv
    have hv' : (0 : Int) ≤ if v = src then 0 else -1 := hv
    split at hv'
    · rename_i e; rw [e]; exact hs
    · omega
  · intro v hv h0
    have h0' : (0 : Int) ≤ if v = src then 0 else -1 := h0
    rw [if_neg hv] at h0'; omega
  · intro v hv x
    simp [hv]
end Go.Proofs.Ytbmphbeocbgalaa
namespace Go.Proofs.Ytbmphbeocbgalaa

def par (i : Nat) : Nat := (i - 1) / 2

def swapF (q : Nat → Nat) (i j x : Nat) : Nat := if x = i then q j else if x = j then q i else q x

def IsHeap (c : Nat → Int) (q : Nat → Nat) (n : Nat) : Prop := ∀ i, 0 < i → i < n → c (q (par i)) ≤ c (q i)

structure UpInv (c : Nat → Int) (q : Nat → Nat) (n j : Nat) : Prop where
  all : ∀ i, 0 < i → i < n → i ≠ j → c (q (par i)) ≤ c (q i)
  kids : ∀ i, 0 < i → i < n → par i = j → 0 < j → c (q (par j)) ≤ c (q i)

structure DownInv (c : Nat → Int) (q : Nat → Nat) (n i : Nat) : Prop where
  all : ∀ k, 0 < k → k < n → par k ≠ i → c (q (par k)) ≤ c (q k)
  kids : ∀ k, 0 < k → k < n → par k = i → 0 < i → c (q (par i)) ≤ c (q k)

theorem par_lt {i : Nat} (h : 0 < i) : par i < i := by unfold par; omega

theorem up_stop {c : Nat → Int} {q : Nat → Nat} {n j : Nat} (h : UpInv c q n j) (hs : j = 0 ∨ ¬ c (q j) < c (q (par j))) : IsHeap c q n := by
  intro i h0 hn
  by_cases e : i = j
  · subst e
    rcases hs with hs | hs
    · omega
    · omega
  · exact h.all i h0 hn e

theorem up_step {c : Nat → Int} {q : Nat → Nat} {n j : Nat} (h : UpInv c q n j) (hj : 0 < j) (hn : j < n) (hlt : c (q j) < c (q (par j))) : UpInv c (swapF q (par j) j) n (par j) := by
  have hp := par_lt hj
  obtain ⟨p, hpe⟩ : ∃ p, p = par j := ⟨_, rfl⟩
  rw [← hpe] at hlt hp ⊢
  constructor
  · intro i h0 hi hne
    have hpi := par_lt h0
    unfold swapF
    by_cases e1 : i = j
    · subst e1
      rw [if_neg (by omega : ¬ i = p), if_pos rfl, if_pos hpe.symm]
      omega
    · rw [if_neg hne, if_neg e1]
      have h1 := h.all i h0 hi e1
      by_cases e2 : par i = p
      · rw [if_pos e2]
        rw [e2] at h1
        omega
      · rw [if_neg e2]
        by_cases e3 : par i = j
        · rw [if_pos e3]
          have := h.kids i h0 hi e3 hj
          rw [← hpe] at this
          exact this
        · rw [if_neg e3]; exact h1
  · intro i h0 hi hpar hp0
    have hpi := par_lt h0
    have hpp := par_lt hp0
    have hA := h.all p hp0 (by omega) (by omega)
    unfold swapF
    rw [if_neg (by omega : ¬ par p = p), if_neg (by omega : ¬ par p = j)]
    by_cases e1 : i = j
    · rw [if_neg (by omega : ¬ i = p), if_pos e1]; exact hA
    · rw [if_neg (by omega : ¬ i = p), if_neg e1]
      have := h.all i h0 hi e1
      rw [hpar] at this
      omega

theorem down_stop {c : Nat → Int} {q : Nat → Nat} {n i : Nat} (h : DownInv c q n i) (hs : ∀ k, 0 < k → k < n → par k = i → c (q i) ≤ c (q k)) : IsHeap c q n := by
  intro k h0 hn
  by_cases e : par k = i
  · rw [e]; exact hs k h0 hn e
  · exact h.all k h0 hn e

theorem par_kids {k i : Nat} (h0 : 0 < k) (h : par k = i) : k = 2 * i + 1 ∨ k = 2 * i + 2 := by unfold par at h; omega

theorem down_step {c : Nat → Int} {q : Nat → Nat} {n i j : Nat} (h : DownInv c q n i) (hj : 0 < j) (hn : j < n) (hp : par j = i) (hlt : c (q j) < c (q i)) (hmin : ∀ k, 0 < k → k < n → par k = i → c (q j) ≤ c (q k)) : DownInv c (swapF q i j) n j := by
  have hij := par_lt hj
  rw [hp] at hij
  constructor
  · intro k h0 hk hne
    have hpk := par_lt h0
    unfold swapF
    by_cases e1 : k = i
    · subst e1
      rw [if_pos rfl, if_neg (by omega : ¬ par k = k), if_neg hne]
      exact h.kids j hj hn hp h0
    · rw [if_neg e1]
      by_cases e2 : k = j
      · subst e2
        rw [if_pos rfl, if_pos hp]
        omega
      · rw [if_neg e2]
        by_cases e3 : par k = i
        · rw [if_pos e3]; exact hmin k h0 hk e3
        · rw [if_neg e3, if_neg hne]; exact h.all k h0 hk e3
  · intro k h0 hk hpk hj0
    have hpk2 := par_lt h0
    unfold swapF
    rw [hp, if_pos rfl, if_neg (by omega : ¬ k = i), if_neg (by omega : ¬ k = j)]
    have := h.all k h0 hk (by omega)
    rw [hpk] at this
    exact this

theorem heap_root {c : Nat → Int} {q : Nat → Nat} {n : Nat} (h : IsHeap c q n) : ∀ (m i : Nat), i ≤ m → i < n → c (q 0) ≤ c (q i)
  | 0, i, hm, _ => by rw [show i = 0 by omega]; exact Int.le_refl _
  | m + 1, i, hm, hn => by
    by_cases e : i = 0
    · rw [e]; exact Int.le_refl _
    · have h1 := h i (by omega) hn
      have h2 := par_lt (i := i) (by omega)
      have h3 := heap_root h m (par i) (by omega) (by omega)
      omega

/-- the same things in the first n places, in another order; behind them nothing is turned -/
structure Shuf (q q' : Nat → Nat) (n : Nat) : Prop where
  into : ∀ i, i < n → ∃ j, j < n ∧ q' i = q j
  onto : ∀ j, j < n → ∃ i, i < n ∧ q' i = q j
  inj : (∀ i j, i < n → j < n → q i = q j → i = j) → (∀ i j, i < n → j < n → q' i = q' j → i = j)
  rest : ∀ x, n ≤ x → q' x = q x

theorem Shuf.refl (q : Nat → Nat) (n : Nat) : Shuf q q n := ⟨fun i h => ⟨i, h, rfl⟩, fun j h => ⟨j, h, rfl⟩, fun h => h, fun _ _ => rfl⟩

theorem Shuf.trans {q q' q'' : Nat → Nat} {n : Nat} (a : Shuf q q' n) (b : Shuf q' q'' n) : Shuf q q'' n := by
  refine ⟨fun i h => ?_, fun j h => ?_, fun h => b.inj (a.inj h), fun x hx => (b.rest x hx).trans (a.rest x hx)⟩
  · obtain ⟨j, hj, e⟩ := b.into i h
    obtain ⟨k, hk, e2⟩ := a.into j hj
    exact ⟨k, hk, e.trans e2⟩
  · obtain ⟨i, hi, e⟩ := a.onto j h
    obtain ⟨k, hk, e2⟩ := b.onto i hi
    exact ⟨k, hk, e2.trans e⟩

theorem swapF_cases (q : Nat → Nat) (i j x : Nat) : (x = i ∧ swapF q i j x = q j) ∨ (x = j ∧ swapF q i j x = q i) ∨ (x ≠ i ∧ x ≠ j ∧ swapF q i j x = q x) := by
  unfold swapF
  by_cases e : x = i
  · exact .inl ⟨e, if_pos e⟩
  · rw [if_neg e]
    by_cases e2 : x = j
    · exact .inr (.inl ⟨e2, if_pos e2⟩)
    · exact .inr (.inr ⟨e, e2, if_neg e2⟩)

theorem Shuf.swap (q : Nat → Nat) {n i j : Nat} (hi : i < n) (hj : j < n) : Shuf q (swapF q i j) n := by
  refine ⟨fun x hx => ?_, fun x hx => ?_, fun h x y hx hy e => ?_, fun x hx => ?_⟩
  · rcases swapF_cases q i j x with ⟨_, e⟩ | ⟨_, e⟩ | ⟨_, _, e⟩
    · exact ⟨j, hj, e⟩
    · exact ⟨i, hi, e⟩
    · exact ⟨x, hx, e⟩
  · by_cases e1 : x = i
    · refine ⟨j, hj, ?_⟩
      subst e1
      rcases swapF_cases q x j j with ⟨e2, e⟩ | ⟨_, e⟩ | ⟨_, e2, _⟩
      · rw [e, e2]
      · exact e
      · exact absurd rfl e2
    · by_cases e3 : x = j
      · refine ⟨i, hi, ?_⟩
        subst e3
        rcases swapF_cases q i x i with ⟨_, e⟩ | ⟨e2, e⟩ | ⟨e2, _, _⟩
        · exact e
        · rw [e, e2]
        · exact absurd rfl e2
      · refine ⟨x, hx, ?_⟩
        unfold swapF
        rw [if_neg e1, if_neg e3]
  · rcases swapF_cases q i j x with ⟨a1, a2⟩ | ⟨a1, a2⟩ | ⟨a1, a3, a2⟩ <;> rcases swapF_cases q i j y with ⟨b1, b2⟩ | ⟨b1, b2⟩ | ⟨b1, b3, b2⟩ <;> rw [a2, b2] at e
    · omega
    · have := h _ _ hj hi e; omega
    · have := h _ _ hj hy e; omega
    · have := h _ _ hi hj e; omega
    · omega
    · have := h _ _ hi hy e; omega
    · have := h _ _ hx hj e; omega
    · have := h _ _ hx hi e; omega
    · exact h _ _ hx hy e
  · rcases swapF_cases q i j x with ⟨a1, _⟩ | ⟨a1, _⟩ | ⟨_, _, e⟩
    · omega
    · omega
    · exact e

theorem Shuf.more {q q' : Nat → Nat} {n m : Nat} (a : Shuf q q' n) (h : n ≤ m) : Shuf q q' m := by
  refine ⟨fun i hi => ?_, fun j hj => ?_, fun hinj x y hx hy e => ?_, fun x hx => a.rest x (by omega)⟩
  · by_cases e : i < n
    · obtain ⟨j, hj, e2⟩ := a.into i e; exact ⟨j, by omega, e2⟩
    · exact ⟨i, hi, a.rest i (by omega)⟩
  · by_cases e : j < n
    · obtain ⟨i, hi, e2⟩ := a.onto j e; exact ⟨i, by omega, e2⟩
    · exact ⟨j, hj, a.rest j (by omega)⟩
  · by_cases e1 : x < n <;> by_cases e2 : y < n
    · exact a.inj (fun i j hi hj => hinj i j (by omega) (by omega)) x y e1 e2 e
    · obtain ⟨j, hj, e3⟩ := a.into x e1
      rw [e3, a.rest y (by omega)] at e
      have := hinj j y (by omega) hy e; omega
    · obtain ⟨j, hj, e3⟩ := a.into y e2
      rw [e3, a.rest x (by omega)] at e
      have := hinj x j hx (by omega) e; omega
    · rw [a.rest x (by omega), a.rest y (by omega)] at e
      exact hinj x y hx hy e

theorem push_up {c : Nat → Int} {q : Nat → Nat} {n k : Nat} (h : IsHeap c q n) : UpInv c (fun x => if x = n then k else q x) (n + 1) n := by
  constructor
  · intro i h0 hi hne
    have := par_lt h0
    rw [if_neg (by omega : ¬ par i = n), if_neg hne]
    exact h i h0 (by omega)
  · intro i h0 hi hp _
    have := par_lt h0
    omega

theorem pop_down {c : Nat → Int} {q : Nat → Nat} {n : Nat} (h : IsHeap c q (n + 1)) : DownInv c (swapF q 0 n) n 0 := by
  constructor
  · intro k h0 hk hne
    have := par_lt h0
    unfold swapF
    rw [if_neg hne, if_neg (by omega : ¬ par k = n), if_neg (by omega : ¬ k = 0), if_neg (by omega : ¬ k = n)]
    exact h k h0 (by omega)
  · intro k _ _ _ h0
    omega
end Go.Proofs.Ytbmphbeocbgalaa
