/-
  Ways as walks over links: costs from both ends, and hops.
  Lists of ways, each with a row of its own.
  laws.szWayS, toWayS, eqWayS: their contracts.
  laws.markWayS, heldWayS: only the list's own memory turns; what was marked is held.
  How many nodes are done; what the end of a search tells, as a list of ways.
  Ways of several areas, Together: as values.
  spec.Better, impl.Better: their contracts.
  spec.Together: its contract.
  (no contract of the library is wanted here)
  slices.Sort and slices.Compact of a row of the call's own; what they make of it.
-/
import Derived.Test.YtbknmgobmnjphaaWk1
import Derived.Test.YtbknmgobmnjphaaWk3
import Derived.Test.YtbknmgobmnjphaaWk2
import Derived.Test.YtbknmgobmnjphaaWk6
import Derived.Test.YtbknmgobmnjphaaWk4
import Derived.Deep.RegionHeld3
import Derived.Test.YtbknmgobmnjphaaProg
import Derived.Lib.OwnBridge
import Derived.Sort.OwnSortedInts
namespace Go.Proofs.Ytbknmgobmnjphaa

inductive Walk (L : Nat → Nat → Int) (a : Nat) : Nat → Int → Prop
  | nil : Walk L a a 0
  | step {v w : Nat} {x : Int} : Walk L a v x → 0 < L v w → Walk L a w (x + L v w)

theorem Walk.nn {L : Nat → Nat → Int} {a v : Nat} {x : Int} (h : Walk L a v x) : 0 ≤ x := by
  induction h with
  | nil => omega
  | step _ hl ih => omega

theorem Walk.trans {L : Nat → Nat → Int} {a b v : Nat} {x y : Int} (h1 : Walk L a b x) (h2 : Walk L b v y) : Walk L a v (x + y) := by
  induction h2 with
  | nil => simpa using h1
  | step _ hl ih =>
    have := ih.step hl
    rw [← Int.add_assoc]
    exact this

theorem Walk.one {L : Nat → Nat → Int} {a b : Nat} (h : 0 < L a b) : Walk L a b (L a b) := by
  have := (Walk.nil (L := L) (a := a)).step h
  simpa using this

theorem Fix.walk {L : Nat → Nat → Int} {src : Nat} {c : Nat → Int} {h : Nat → List Int} (A : Fix L src c h) : ∀ (n v : Nat), 0 ≤ c v → (c v).toNat ≤ n → Walk L src v (c v) := by
  obtain ⟨F, I, hF⟩ := A
  intro n
  induction n with
  | zero =>
    intro v h0 hn
    by_cases hv : v = src
    · subst hv; rw [I.start]; exact .nil
    · obtain ⟨u, hu, hl, hc⟩ := I.pred v hv h0
      have := (I.fnode u hu).2
      omega
  | succ n ih =>
    intro v h0 hn
    by_cases hv : v = src
    · subst hv; rw [I.start]; exact .nil
    · obtain ⟨u, hu, hl, hc⟩ := I.pred v hv h0
      have h1 := (I.fnode u hu).2
      rw [hc]
      exact (ih u h1 (by omega)).step hl

theorem Fix.least {L : Nat → Nat → Int} {src : Nat} {c : Nat → Int} {h : Nat → List Int} (A : Fix L src c h) {v : Nat} {x : Int} (hw : Walk L src v x) : 0 ≤ c v ∧ c v ≤ x := by
  obtain ⟨F, I, hF⟩ := A
  induction hw with
  | nil => rw [I.start]; omega
  | step _ hl ih =>
    have := I.closed _ _ (hF _ ih.1) hl
    omega

/-- a cost over a link is no less -/
theorem Fix.over {L : Nat → Nat → Int} {a x : Nat} {c d : Nat → Int} {h g : Nat → List Int} (A : Fix L a c h) (B : Fix L x d g) (hl : 0 < L a x) {t : Nat} (h0 : 0 ≤ d t) : 0 ≤ c t ∧ c t ≤ L a x + d t :=
  A.least ((Walk.one hl).trans (B.walk _ t h0 (Nat.le_refl _)))

theorem Fix.hop_to {L : Nat → Nat → Int} {a x : Nat} {c d : Nat → Int} {h g : Nat → List Int} (A : Fix L a c h) (B : Fix L x d g) : ∀ (n t : Nat), t ≠ a → (c t).toNat ≤ n → (x : Int) ∈ h t → 0 < L a x ∧ 0 ≤ d t ∧ L a x + d t = c t := by
  intro n
  induction n with
  | zero =>
    intro t ht hn hx
    obtain ⟨F, I, hF⟩ := A
    obtain ⟨h0, u, hu, hl, hc, _⟩ := (I.hop t ht x).1 hx
    have := (I.fnode u hu).2
    omega
  | succ n ih =>
    intro t ht hn hx
    have A' := A
    obtain ⟨F, I, hF⟩ := A'
    obtain ⟨h0, u, hu, hl, hc, ho⟩ := (I.hop t ht x).1 hx
    have hu0 := (I.fnode u hu).2
    rcases ho with ⟨e1, e2⟩ | ⟨e1, e2⟩
    · have e3 : x = t := by omega
      subst e1
      subst e3
      obtain ⟨_, J, _⟩ := B
      rw [J.start]
      have := I.start
      exact ⟨hl, by omega, by omega⟩
    · obtain ⟨i1, i2, i3⟩ := ih u e1 (by omega) e2
      have B' := B
      obtain ⟨G, J, hG⟩ := B'
      have h2 := J.closed u t (hG u i2) hl
      have h3 := A.over B i1 h2.1
      exact ⟨i1, h2.1, by omega⟩

theorem Fix.hop_of {L : Nat → Nat → Int} {a x : Nat} {c d : Nat → Int} {h g : Nat → List Int} (A : Fix L a c h) (B : Fix L x d g) (hl : 0 < L a x) : ∀ (n t : Nat), (d t).toNat ≤ n → 0 ≤ d t → L a x + d t = c t → (x : Int) ∈ h t := by
  intro n
  have A' := A
  obtain ⟨F, I, hF⟩ := A'
  have B' := B
  obtain ⟨G, J, hG⟩ := B'
  have base : ∀ t, t = x → L a x + d t = c t → (x : Int) ∈ h t := by
    intro t e e2
    subst e
    rw [J.start] at e2
    have hta : t ≠ a := fun e => by subst e; rw [I.start] at e2; omega
    exact (I.hop t hta t).2 ⟨by omega, a, hF a (by rw [I.start]; omega), hl, by rw [I.start]; omega, .inl ⟨rfl, rfl⟩⟩
  induction n with
  | zero =>
    intro t hn h0 he
    by_cases e : t = x
    · exact base t e he
    · obtain ⟨u, hu, hl2, hc⟩ := J.pred t e h0
      have := (J.fnode u hu).2
      omega
  | succ n ih =>
    intro t hn h0 he
    by_cases e : t = x
    · exact base t e he
    · obtain ⟨u, hu, hl2, hc⟩ := J.pred t e h0
      have hu0 := (J.fnode u hu).2
      have h3 := A.over B hl hu0
      have h4 := I.closed u t (hF u h3.1) hl2
      have hcu : L a x + d u = c u := by omega
      have ihu := ih u (by omega) hu0 hcu
      have hta : t ≠ a := fun e => by subst e; rw [I.start] at he; omega
      have hua : u ≠ a := fun e => by subst e; rw [I.start] at hcu; omega
      exact (I.hop t hta x).2 ⟨by omega, u, hF u h3.1, hl2, by omega, .inr ⟨hua, ihu⟩⟩
end Go.Proofs.Ytbknmgobmnjphaa
namespace Go.Proofs.Ytbknmgobmnjphaa
open Go.RowKit

/-- a way, and the value of its row -/
abbrev WP := WayD × Value

def encW (p : WP) : List Value := [.int .i64 p.1.to, .int .i64 p.1.cost, p.2]

def zeroWD : WayD := ⟨0, 0, []⟩

theorem encW_len (p : WP) : (encW p).length = 3 := rfl

/-- a list to read: its cells, and each record's row, below B -/
def WaysAt (W : World) (v : Value) (ps : List WP) (B : Nat) : Prop := StructsAt encW 3 W v ps B ∧ ∀ p ∈ ps, HopsAt W p.2 p.1.hops B

theorem WaysAt.shape {W : World} {v : Value} {ps : List WP} {B : Nat} (h : WaysAt W v ps B) : ∃ a cap, v = .slice a ps.length cap := by
  obtain ⟨⟨a, cap, h, _⟩, _⟩ := h
  exact ⟨a, cap, h⟩

theorem WaysAt.later {W W' : World} {v : Value} {ps : List WP} {B C : Nat} (h : WaysAt W v ps B) (hb : Below C W W') (hBC : B ≤ C) : WaysAt W' v ps B :=
  ⟨RowAt.later h.1 hb hBC, fun p hp => RowAt.later (h.2 p hp) hb hBC⟩

theorem WaysAt.more {W : World} {v : Value} {ps : List WP} {B C : Nat} (h : WaysAt W v ps B) (hBC : B ≤ C) : WaysAt W v ps C :=
  ⟨RowAt.more h.1 hBC, fun p hp => RowAt.more (h.2 p hp) hBC⟩

theorem WaysAt.then {W W' : World} {v : Value} {ps : List WP} (h : WaysAt W v ps W.heap.size) (hb : Below W.heap.size W W') : WaysAt W' v ps W'.heap.size := (h.later hb (Nat.le_refl _)).more hb.size

/-- its row is the caller's own, in blocks of lo .. hi -/
def HopOwn (W : World) (lo hi : Nat) (p : WP) : Prop := W.ownsRow lo 3 1 p.2 p.1.hops.length (flat intE p.1.hops) ∧ ∀ k, p.2.ownBlock = some k → k < hi

def ApartW (p q : WP) : Prop := ∀ k, p.2.ownBlock = some k → q.2.ownBlock ≠ some k

/-- a list of the caller's own: its row and those of its records, no two in one block, all in blocks of lo .. hi -/
structure WaysOwn (W : World) (lo hi : Nat) (v : Value) (ps : List WP) : Prop where
  row : W.ownsRow lo 79 3 v ps.length (flat encW ps)
  top : ∀ k, v.ownBlock = some k → k < hi
  nears : ∀ p ∈ ps, HopOwn W lo hi p
  apart : ps.Pairwise ApartW

theorem HopOwn.keep {W W' : World} {lo hi : Nat} {p : WP} (h : HopOwn W lo hi p) (hk : ∀ k, lo ≤ k → k < hi → k < W.heap.size → W'.heap[k]? = W.heap[k]?) : HopOwn W' lo hi p :=
  ⟨owns_keepB h.1 (fun k e => hk k (h.1.lt k e).1 (h.2 k e) (h.1.lt k e).2), h.2⟩

theorem HopOwn.wide {W : World} {lo hi lo' hi' : Nat} {p : WP} (h : HopOwn W lo hi p) (hl : lo' ≤ lo) (hh : hi ≤ hi') : HopOwn W lo' hi' p :=
  ⟨owns_baseS h.1 hl, fun k e => Nat.lt_of_lt_of_le (h.2 k e) hh⟩

theorem HopOwn.at {W : World} {lo hi : Nat} {p : WP} (h : HopOwn W lo hi p) : HopsAt W p.2 p.1.hops hi := by
  have h1 := owns_rowAt h.1
  obtain ⟨a, cap, hv, h2⟩ := h1
  refine ⟨a, cap, hv, ?_⟩
  rcases h2 with h0 | ⟨b, off, ha, hb1, hx⟩
  · exact .inl h0
  · exact .inr ⟨b, off, ha, h.2 b (by rw [hv, ha]; rfl), hx⟩

theorem WaysOwn.keep {W W' : World} {lo hi : Nat} {v : Value} {ps : List WP} (h : WaysOwn W lo hi v ps) (hk : ∀ k, lo ≤ k → k < hi → k < W.heap.size → W'.heap[k]? = W.heap[k]?) : WaysOwn W' lo hi v ps where
  row := owns_keepB h.row (fun k e => hk k (h.row.lt k e).1 (h.top k e) (h.row.lt k e).2)
  top := h.top
  nears := fun p hp => (h.nears p hp).keep hk
  apart := h.apart

theorem WaysOwn.below {W W' : World} {lo hi B : Nat} {v : Value} {ps : List WP} (h : WaysOwn W lo hi v ps) (hb : Below B W W') (hB : hi ≤ B) : WaysOwn W' lo hi v ps := h.keep (fun k _ h2 _ => hb.block k (by omega))

theorem WaysOwn.wide {W : World} {lo hi lo' hi' : Nat} {v : Value} {ps : List WP} (h : WaysOwn W lo hi v ps) (hl : lo' ≤ lo) (hh : hi ≤ hi') : WaysOwn W lo' hi' v ps where
  row := owns_baseS h.row hl
  top := fun k e => Nat.lt_of_lt_of_le (h.top k e) hh
  nears := fun p hp => (h.nears p hp).wide hl hh
  apart := h.apart

theorem WaysOwn.at {W : World} {lo hi : Nat} {v : Value} {ps : List WP} (h : WaysOwn W lo hi v ps) : WaysAt W v ps hi := by
  refine ⟨?_, fun p hp => (h.nears p hp).at⟩
  have h1 := owns_rowAt h.row
  obtain ⟨a, cap, hv, h2⟩ := h1
  refine ⟨a, cap, hv, ?_⟩
  rcases h2 with h0 | ⟨b, off, ha, hb1, hx⟩
  · exact .inl h0
  · exact .inr ⟨b, off, ha, h.top b (by rw [hv, ha]; rfl), hx⟩

theorem WaysOwn.frame {W W' : World} {lo hi l2 h2 : Nat} {v : Value} {ps : List WP} (h : WaysOwn W lo hi v ps) (hb : Frame l2 h2 W W') (hB : hi ≤ l2 ∨ h2 ≤ lo) : WaysOwn W' lo hi v ps := h.keep (fun k h1 h2 h3 => hb.block k h3 (by omega))

/-- near rows of new records are behind all that was there -/
theorem apartW_add {W : World} {lo hi : Nat} {ps : List WP} {p : WP} (h : ps.Pairwise ApartW) (hn : ∀ q ∈ ps, HopOwn W lo hi q) (hp : ∀ k, p.2.ownBlock = some k → hi ≤ k) : (ps ++ [p]).Pairwise ApartW := by
  rw [List.pairwise_append]
  refine ⟨h, by simp, ?_⟩
  intro a ha b hb
  have : b = p := by simpa using hb
  subst this
  intro k hk he
  have h1 := (hn a ha).2 k hk
  have h2 := hp k he
  omega

/-- how many numbers a list has -/
def totW (ps : List WP) : Nat := (ps.map (fun p => 1 + p.1.hops.length)).sum

theorem totW_cons (p : WP) (ps : List WP) : totW (p :: ps) = 1 + p.1.hops.length + totW ps := by simp [totW]

theorem totW_len (ps : List WP) : ps.length ≤ totW ps := by
  induction ps with
  | nil => simp [totW]
  | cons p ps ih => rw [totW_cons, List.length_cons]; omega

theorem totW_mem {ps : List WP} {p : WP} (h : p ∈ ps) : p.1.hops.length ≤ totW ps := by
  induction ps with
  | nil => simp at h
  | cons q ps ih =>
    rw [totW_cons]
    rcases List.mem_cons.1 h with rfl | h1
    · omega
    · have := ih h1; omega

theorem WaysAt.cells {W : World} {v : Value} {ps : List WP} {B : Nat} (h : WaysAt W v ps B) (i : Nat) (p : WP) (hp : ps[i]? = some p) :
    ∃ b off cap, v = .slice (some ⟨b, off, none⟩) ps.length cap ∧ b < B ∧ W.cell? ⟨b, off + i * 3, none⟩ = some (.int .i64 p.1.to) ∧ W.cell? ⟨b, off + i * 3 + 1, none⟩ = some (.int .i64 p.1.cost) ∧ W.cell? ⟨b, off + i * 3 + 2, none⟩ = some p.2 ∧ HopsAt W p.2 p.1.hops B := by
  obtain ⟨b, off, cap, hv, hb, hc⟩ := StructsAt.cell h.1 encW_len i p hp
  exact ⟨b, off, cap, hv, hb, hc 0 _ rfl, hc 1 _ rfl, hc 2 _ rfl, h.2 p (List.mem_of_getElem? hp)⟩

end Go.Proofs.Ytbknmgobmnjphaa
namespace Go.Proofs.Ytbknmgobmnjphaa
open Go.RowKit

theorem Try.infoWay : (Try.prog.info? 79).map (fun i => (i.zero, i.size, i.bytes)) = some (some (.agg (wayC zeroWD (.slice none 0 0))), 3, 40) := by kernel_rfl

def fstsW (ps : List WP) : List WayD := ps.map (·.1)

theorem fstsW_at {ps : List WP} {i : Nat} {p : WP} (h : ps[i]? = some p) : (fstsW ps)[i]? = some p.1 := by simp [fstsW, h]

end Go.Proofs.Ytbknmgobmnjphaa
namespace Go.Proofs.Ytbknmgobmnjphaa
open Go.RowKit

theorem apartW_snd (ps : List WP) : ps.Pairwise ApartW ↔ (ps.map (·.2)).Pairwise (fun a b : Value => ∀ k, a.ownBlock = some k → b.ownBlock ≠ some k) := by
  rw [List.pairwise_map]
  exact Iff.rfl

theorem apartW_at {ps : List WP} (h : ps.Pairwise ApartW) {i k : Nat} {p q : WP} (hi : ps[i]? = some p) (hk : ps[k]? = some q) (hne : i ≠ k) : ApartW p q := by
  obtain ⟨h1, e1⟩ := List.getElem?_eq_some_iff.1 hi
  obtain ⟨h2, e2⟩ := List.getElem?_eq_some_iff.1 hk
  rw [List.pairwise_iff_getElem] at h
  rcases Nat.lt_or_ge i k with hl | hl
  · have := h i k h1 h2 hl
    rw [e1, e2] at this
    exact this
  · have := h k i h2 h1 (by omega)
    rw [e1, e2] at this
    exact fun j hj he => this j he hj

theorem setW_snd {ps : List WP} {k : Nat} {p q : WP} (hk : ps[k]? = some p) (h : q.2 = p.2) : (ps.set k q).map (·.2) = ps.map (·.2) := by
  apply List.ext_getElem?
  intro i
  by_cases e : i = k
  · subst e
    obtain ⟨h1, e1⟩ := List.getElem?_eq_some_iff.1 hk
    rw [List.getElem?_map, List.getElem?_set_self h1, List.getElem?_map, hk]
    simp [h]
  · simp [List.getElem?_set_ne (Ne.symm e)]

/-- one record turned within its list -/
theorem WaysOwn.turn {W W8 : World} {lo hi g n cap k : Nat} {xs : List WP} {p q : WP} (h : WaysOwn W lo hi (.slice (some ⟨g, 0, none⟩) n cap) xs) (hn : xs.length = n) (hk : xs[k]? = some p) (hq : q.2 = p.2)
    (row : W8.ownsRow lo 79 3 (.slice (some ⟨g, 0, none⟩) n cap) n (flat encW (xs.set k q))) (near : W8.ownsRow lo 3 1 q.2 q.1.hops.length (flat intE q.1.hops))
    (hkeep : ∀ j, j < W.heap.size → j ≠ g → some j ≠ p.2.ownBlock → W8.heap[j]? = W.heap[j]?) : WaysOwn W8 lo hi (.slice (some ⟨g, 0, none⟩) n cap) (xs.set k q) where
  row := by rw [List.length_set, hn]; exact row
  top := h.top
  apart := by rw [apartW_snd, setW_snd hk hq, ← apartW_snd]; exact h.apart
  nears := by
    intro r hr
    obtain ⟨i, hi, e⟩ := List.getElem_of_mem hr
    have hr2 : (xs.set k q)[i]? = some r := by rw [← e]; exact List.getElem?_eq_getElem hi
    by_cases ek : i = k
    · subst ek
      rw [List.getElem?_set_self (by simpa using hi)] at hr2
      cases hr2
      refine ⟨near, ?_⟩
      rw [hq]
      exact (h.nears p (List.mem_of_getElem? hk)).2
    · rw [List.getElem?_set_ne (Ne.symm ek)] at hr2
      have ho := h.nears r (List.mem_of_getElem? hr2)
      refine ⟨owns_keepB ho.1 (fun j hj => ?_), ho.2⟩
      refine hkeep j (ho.1.lt j hj).2 ?_ ?_
      · rintro rfl
        obtain ⟨cur, hh⟩ : ∃ cur, W.heap[j]? = some (.cells cur 79 (0, 0)) := by
          rcases h.row.2 with ⟨h0, _⟩ | ⟨g', cap', cur', hv', _, hh', _⟩
          · cases h0
          · cases hv'; exact ⟨cur', hh'⟩
        rcases ho.1.2 with ⟨h0, _⟩ | ⟨g', cap', cur', hv', _, hh', _⟩
        · rw [h0] at hj; simp [Value.ownBlock] at hj
        · rw [hv'] at hj
          simp [Value.ownBlock] at hj
          subst hj
          rw [hh] at hh'
          simp at hh'
      · intro he
        exact apartW_at h.apart hr2 hk ek j hj he.symm

end Go.Proofs.Ytbknmgobmnjphaa
namespace Go.Proofs.Ytbknmgobmnjphaa
open Go.RowKit

set_option linter.unusedSimpArgs false

def cardF (F : Nat → Bool) : Nat := (F 1).toNat + (F 2).toNat + (F 3).toNat + (F 4).toNat + (F 5).toNat + (F 6).toNat

theorem node_cases {u : Nat} (h : 1 ≤ u ∧ u ≤ 6) : u = 1 ∨ u = 2 ∨ u = 3 ∨ u = 4 ∨ u = 5 ∨ u = 6 := by omega

theorem card_add {F : Nat → Bool} {u : Nat} (hu : 1 ≤ u ∧ u ≤ 6) (hF : F u = false) : cardF (fun v => F v || v == u) = cardF F + 1 := by
  unfold cardF
  rcases node_cases hu with rfl | rfl | rfl | rfl | rfl | rfl <;> simp [hF] <;> omega

theorem card_le (F : Nat → Bool) : cardF F ≤ 6 := by
  unfold cardF
  have h1 := Bool.toNat_le (F 1)
  have h2 := Bool.toNat_le (F 2)
  have h3 := Bool.toNat_le (F 3)
  have h4 := Bool.toNat_le (F 4)
  have h5 := Bool.toNat_le (F 5)
  have h6 := Bool.toNat_le (F 6)
  omega

theorem card_full {F : Nat → Bool} (h : cardF F = 6) {u : Nat} (hu : 1 ≤ u ∧ u ≤ 6) : F u = true := by
  cases e : F u with
  | true => rfl
  | false =>
    have := card_add hu e
    have := card_le (fun v => F v || v == u)
    omega

theorem card_zero : cardF (fun _ => false) = 0 := rfl

/-- the ways to the first k nodes -/
def collT (c : Nat → Int) (h : Nat → List Int) : Nat → List WayD
  | 0 => []
  | k + 1 => collT c h k ++ (if 0 ≤ c (k + 1) then [⟨((k + 1 : Nat) : Int), c (k + 1), h (k + 1)⟩] else [])

theorem coll_congr {c d : Nat → Int} {h g : Nat → List Int} (e : ∀ v, (0 ≤ c v → d v = c v ∧ g v = h v) ∧ (0 ≤ d v → 0 ≤ c v)) : ∀ k, collT c h k = collT d g k
  | 0 => rfl
  | k + 1 => by
    unfold collT
    rw [coll_congr e k]
    congr 1
    by_cases h0 : 0 ≤ c (k + 1)
    · have := (e (k + 1)).1 h0
      rw [if_pos h0, if_pos (by omega), this.1, this.2]
    · rw [if_neg h0, if_neg (fun hc => h0 ((e (k + 1)).2 hc))]

theorem Fix.coll {L : Nat → Nat → Int} {src : Nat} {c d : Nat → Int} {h g : Nat → List Int} (A : Fix L src c h) (B : Fix L src d g) : collT c h 6 = collT d g 6 := by
  refine coll_congr (fun v => ⟨fun h0 => ⟨A.cost B v h0, A.hops B v h0⟩, fun h0 => ?_⟩) 6
  have := B.cost A v h0
  omega

/-- what WaysIn tells -/
def IsWays (xs : List RecD) (area src : Int) (ds : List WayD) : Prop :=
  if (storeB xs && inB src 1 6 && nodeB xs area src) = true then ∃ c h, Fix (linkN xs area) src.toNat c h ∧ ds = collT c h 6 else ds = []

theorem IsWays.unique {xs : List RecD} {area src : Int} {ds es : List WayD} (h1 : IsWays xs area src ds) (h2 : IsWays xs area src es) : ds = es := by
  unfold IsWays at h1 h2
  split at h1
  · rename_i e
    rw [if_pos e] at h2
    obtain ⟨c, h, A, rfl⟩ := h1
    obtain ⟨d, g, B, rfl⟩ := h2
    exact A.coll B
  · rename_i e
    rw [if_neg e] at h2
    rw [h1, h2]

theorem coll_step (c : Nat → Int) (h : Nat → List Int) {v : Nat} (hv : 1 ≤ v) : collT c h v = collT c h (v - 1) ++ (if 0 ≤ c v then [⟨(v : Int), c v, h v⟩] else []) := by
  obtain ⟨k, rfl⟩ : ∃ k, v = k + 1 := ⟨v - 1, by omega⟩
  rfl

theorem coll_len (c : Nat → Int) (h : Nat → List Int) : ∀ k, (collT c h k).length ≤ k
  | 0 => by simp [collT]
  | k + 1 => by
    unfold collT
    have := coll_len c h k
    rw [List.length_append]
    split <;> simp <;> omega

theorem mixC_at {L : Nat → Nat → Int} {c : Nat → Int} {u j : Nat} (hu : 0 ≤ c u) : mixC L c u j u = c u := by
  unfold mixC
  split
  · exact relaxC_same hu (Int.le_refl _)
  · rfl

theorem relaxL_done {L : Nat → Nat → Int} {src : Nat} {c : Nat → Int} {h : Nat → List Int} {u v : Nat} (h0 : 0 ≤ c v) (hv : c v ≤ c u) : relaxL L src c h u v = h v ∧ relaxC L c u v = c v := by
  by_cases hl : 0 < L u v
  · exact relaxL_dear h0 (by omega)
  · exact relaxL_none hl

theorem mixH_at {L : Nat → Nat → Int} {src : Nat} {c : Nat → Int} {h : Nat → List Int} {u j : Nat} (hu : 0 ≤ c u) : mixH L src c h u j u = h u := by
  unfold mixH
  split
  · exact (relaxL_done hu (Int.le_refl _)).1
  · rfl

theorem relaxC_bound {L : Nat → Nat → Int} {c : Nat → Int} {u v : Nat} {B : Int} (h : ∀ v, c v ≤ B) (hL : ∀ u v, L u v ≤ 1000) : relaxC L c u v ≤ B + 1000 := by
  unfold relaxC
  have := h v
  have := h u
  have := hL u v
  split <;> omega

/-- a is the cheapest of the nodes below v that are not done, 0 where there is none -/
def MinAt (F : Nat → Bool) (c : Nat → Int) (v a : Nat) : Prop :=
  (a = 0 ∧ ∀ x, 1 ≤ x → x < v → F x = false → c x < 0) ∨ (1 ≤ a ∧ a < v ∧ F a = false ∧ 0 ≤ c a ∧ ∀ x, 1 ≤ x → x < v → F x = false → 0 ≤ c x → c a ≤ c x)

theorem minAt_skip {F : Nat → Bool} {c : Nat → Int} {v a : Nat} (h : MinAt F c v a) (hs : F v = true ∨ c v < 0 ∨ (1 ≤ a ∧ c a ≤ c v)) : MinAt F c (v + 1) a := by
  rcases h with ⟨h1, h2⟩ | ⟨h1, h2, h3, h4, h5⟩
  · refine .inl ⟨h1, fun x hx1 hx2 hF => ?_⟩
    by_cases e : x = v
    · subst e
      rcases hs with h | h | h
      · rw [hF] at h; cases h
      · exact h
      · omega
    · exact h2 x hx1 (by omega) hF
  · refine .inr ⟨h1, by omega, h3, h4, fun x hx1 hx2 hF hc => ?_⟩
    by_cases e : x = v
    · subst e
      rcases hs with h | h | h
      · rw [hF] at h; cases h
      · omega
      · exact h.2
    · exact h5 x hx1 (by omega) hF hc

theorem minAt_take {F : Nat → Bool} {c : Nat → Int} {v a : Nat} (h : MinAt F c v a) (h1v : 1 ≤ v) (hF : F v = false) (hc : 0 ≤ c v) (hs : a = 0 ∨ c v < c a) : MinAt F c (v + 1) v := by
  refine .inr ⟨h1v, by omega, hF, hc, fun x hx1 hx2 hFx hcx => ?_⟩
  by_cases e : x = v
  · subst e; omega
  · rcases h with ⟨h1, h2⟩ | ⟨h1, h2, h3, h4, h5⟩
    · have := h2 x hx1 (by omega) hFx; omega
    · have := h5 x hx1 (by omega) hFx hcx; omega

/-- what holds of a search at a round's beginning -/
structure AtRound (L : Nat → Nat → Int) (src : Nat) (F : Nat → Bool) (c : Nat → Int) (h : Nat → List Int) (r : Nat) : Prop where
  inv : Inv L src F c h
  bnd : ∀ v, c v ≤ 1000 * (cardF F : Int)
  at' : cardF F + 1 = r ∨ (r = 7 ∧ ∀ v, 0 ≤ c v → F v = true)

theorem AtRound.init {L : Nat → Nat → Int} {src : Nat} (hs : IsNode src) : AtRound L src (fun _ => false) (fun v => if v = src then 0 else -1) (fun _ => []) 1 := by
  refine ⟨Inv.init hs, fun v => ?_, .inl rfl⟩
  rw [card_zero]
  show (if v = src then (0 : Int) else -1) ≤ _
  split <;> omega

theorem AtRound.fin {L : Nat → Nat → Int} {src : Nat} {F : Nat → Bool} {c : Nat → Int} {h : Nat → List Int} (a : AtRound L src F c h 7) : Fix L src c h ∧ ∀ v, F v = true ↔ 0 ≤ c v := by
  have hf : ∀ v, 0 ≤ c v → F v = true := by
    rcases a.at' with h1 | ⟨_, h1⟩
    · intro v hv
      exact card_full (by omega) (a.inv.cnode v hv)
    · exact h1
  exact ⟨⟨F, a.inv, hf⟩, fun v => ⟨fun hv => (a.inv.fnode v hv).2, hf v⟩⟩

theorem AtRound.none {L : Nat → Nat → Int} {src : Nat} {F : Nat → Bool} {c : Nat → Int} {h : Nat → List Int} {r : Nat} (a : AtRound L src F c h r) (hm : MinAt F c 7 0) : AtRound L src F c h 7 := by
  refine ⟨a.inv, a.bnd, .inr ⟨rfl, fun v hv => ?_⟩⟩
  have hn := a.inv.cnode v hv
  unfold IsNode at hn
  cases e : F v with
  | true => rfl
  | false =>
    rcases hm with ⟨_, h2⟩ | ⟨h1, _⟩
    · have := h2 v hn.1 (by omega) e; omega
    · omega

theorem AtRound.next {L : Nat → Nat → Int} {src : Nat} {F : Nat → Bool} {c : Nat → Int} {h : Nat → List Int} {r u : Nat} (a : AtRound L src F c h r) (hL : Links L 1000) (hr : r < 7) (hm : MinAt F c 7 u) (hu : 1 ≤ u) : AtRound L src (fun v => F v || v == u) (fun v => relaxC L c u v) (fun v => relaxL L src c h u v) (r + 1) := by
  rcases hm with ⟨h1, _⟩ | ⟨h1, h2, h3, h4, h5⟩
  · omega
  · have hcard : cardF (fun v => F v || v == u) = cardF F + 1 := card_add ⟨h1, by omega⟩ h3
    refine ⟨a.inv.step hL h3 h4 (fun v hv hc => ?_) (fun v => relaxL_spec a.inv hL h4 v), fun v => ?_, .inl ?_⟩
    · have hn := a.inv.cnode v hc
      unfold IsNode at hn
      exact h5 v hn.1 (by omega) hv hc
    · rw [hcard]
      have := relaxC_bound (L := L) (u := u) (v := v) a.bnd hL.le
      omega
    · rw [hcard]
      rcases a.at' with h6 | ⟨h6, _⟩
      · omega
      · omega

theorem ways_lit (W : World) (lo : Nat) (hb : lo ≤ W.heap.size) : WaysOwn (W.alloc (.cells #[] 79)) lo (W.alloc (.cells #[] 79)).heap.size (.slice (some ⟨W.heap.size, 0, none⟩) 0 0) [] where
  row := World.ownsRow_lit W #[] 0 hb (by unfold maxLen; omega) (by simp)
  top := by intro k hk; simp [Value.ownBlock] at hk; subst hk; simp
  nears := by simp
  apart := by simp
end Go.Proofs.Ytbknmgobmnjphaa
namespace Go.Proofs.Ytbknmgobmnjphaa
open Go.RowKit

open Classical in
/-- the ways that WaysIn tells -/
noncomputable def waysD (xs : List RecD) (area src : Int) : List WayD := if h : ∃ ds, IsWays xs area src ds then Classical.choose h else []

theorem IsWays.eq {xs : List RecD} {area src : Int} {ds : List WayD} (h : IsWays xs area src ds) : ds = waysD xs area src := by
  unfold waysD
  rw [dif_pos ⟨ds, h⟩]
  exact h.unique (Classical.choose_spec (⟨ds, h⟩ : ∃ ds, IsWays xs area src ds))

/-- one more way to a node beside what was found -/
def moreW (tog : WayD → WayD → WayD) (best : Option WayD) (w : Option WayD) : Option WayD := match w with
  | none => best
  | some w => match best with
    | none => some w
    | some b => some (tog b w)

def findW (ds : List WayD) (to : Int) : Option WayD := ds.find? (fun x => x.to == to)

end Go.Proofs.Ytbknmgobmnjphaa
namespace Go.Proofs.Ytbknmgobmnjphaa
open Go.RowKit

def betterB (x y : WayD) : Bool := decide (x.cost < y.cost)

set_option maxRecDepth 100000 in
set_option maxHeartbeats 1000000 in
theorem sbetter_any (u1 u2 : Value) (x y : WayD) (w : World) : Calls Try.prog 66 #[.agg (wayC x u1), .agg (wayC y u2)] w fun e w' => e = .returned (.bool (betterB x y)) ∧ Below w.heap.size w w' := by
  unfold wayC betterB
  go_enter Try.func66, Try.ntmps66
  go_wp2
  go_ret
  exact ⟨rfl, below_two _ _⟩

end Go.Proofs.Ytbknmgobmnjphaa
namespace Go.Proofs.Ytbknmgobmnjphaa
open Go.RowKit

set_option linter.unusedSimpArgs false

/-- the better of two ways, or both -/
def togD (x y : WayD) : WayD := if betterB x y then x else if betterB y x then y else ⟨x.to, x.cost, addL x.hops y.hops⟩

theorem addL_len (a b : List Int) : (addL a b).length ≤ 6 := addT_len a b 6

theorem tog_len {x y : WayD} {n : Nat} (hx : x.hops.length ≤ n) (hy : y.hops.length ≤ n) (h6 : 6 ≤ n) : (togD x y).hops.length ≤ n := by
  unfold togD
  split
  · exact hx
  · split
    · exact hy
    · exact Nat.le_trans (addL_len _ _) h6

theorem cellW3 {W : World} {g b j : Nat} {x0 x1 x2 : Value} (h : b ≠ g) : (((W.setCell ⟨g, 0, none⟩ x0).setCell ⟨g, 1, none⟩ x1).setCell ⟨g, 2, none⟩ x2).cell? ⟨b, j, none⟩ = W.cell? ⟨b, j, none⟩ := by
  refine World.cell?_of_block ?_
  show (((W.setCell ⟨g, 0, none⟩ x0).setCell ⟨g, 1, none⟩ x1).setCell ⟨g, 2, none⟩ x2).heap[b]? = W.heap[b]?
  rw [heap_setCell_other _ ⟨g, 2, none⟩ b _ h, heap_setCell_other _ ⟨g, 1, none⟩ b _ h, heap_setCell_other _ ⟨g, 0, none⟩ b _ h]

set_option maxRecDepth 100000 in
set_option maxHeartbeats 4000000 in
theorem stog_any (x y : WayD) (u1 u2 : Value) (b1 b2 : Nat) (w : World) (h1 : w.ownsRow b1 3 1 u1 x.hops.length (flat intE x.hops)) (h2 : w.ownsRow b2 3 1 u2 y.hops.length (flat intE y.hops)) (hx : x.hops.length ≤ 1048576) (hy : y.hops.length ≤ 1048576) :
    Calls Try.prog 52 #[.agg (wayC x u1), .agg (wayC y u2)] w fun e w' => ∃ v', e = .returned (.agg (wayC (togD x y) v')) ∧ w'.ownsRow w.heap.size 3 1 v' (togD x y).hops.length (flat intE (togD x y).hops) ∧ Below w.heap.size w w' := by
  obtain ⟨a1, c1, rfl⟩ := owns_lenS h1
  obtain ⟨a2, c2, rfl⟩ := owns_lenS h2
  have HC1 := hide (fun W (hb : Below w.heap.size w W) => copyW_any x (.slice a1 x.hops.length c1) b1 W (owns_below h1 hb (Nat.le_refl _)) hx)
  have HC2 := hide (fun W (hb : Below w.heap.size w W) => copyW_any y (.slice a2 y.hops.length c2) b2 W (owns_below h2 hb (Nat.le_refl _)) hy)
  have HB1 := hide (fun W => sbetter_any (.slice a1 x.hops.length c1) (.slice a2 y.hops.length c2) x y W)
  have HB2 := hide (fun W => sbetter_any (.slice a2 y.hops.length c2) (.slice a1 x.hops.length c1) y x W)
  have HAD := hide (fun W (hb : Below w.heap.size w W) => sadd_any (.slice a1 x.hops.length c1) (.slice a2 y.hops.length c2) x.hops y.hops W hx hy ((RowAt.later (owns_rowAt h1) hb (Nat.le_refl _)).more hb.size) ((RowAt.later (owns_rowAt h2) hb (Nat.le_refl _)).more hb.size))
  obtain ⟨P, hP⟩ : ∃ P, P = betterB x y := ⟨_, rfl⟩
  obtain ⟨Q, hQ⟩ : ∃ Q, Q = betterB y x := ⟨_, rfl⟩
  obtain ⟨D, hD⟩ : ∃ D, D = togD x y := ⟨_, rfl⟩
  rw [← hP] at HB1
  rw [← hQ] at HB2
  rw [← hD]
  have HD := hide hD
  unfold togD at HD
  rw [← hP, ← hQ] at HD
  have BW := below_three (w := w) (.cells #[.int .i64 x.to, .int .i64 x.cost, .slice a1 x.hops.length c1] 79) (.cells #[.int .i64 y.to, .int .i64 y.cost, .slice a2 y.hops.length c2] 79) (.cells #[.int .i64 0, .int .i64 0, .slice none 0 0] 79)
  have q0 := heap3_0 w (.cells #[.int .i64 x.to, .int .i64 x.cost, .slice a1 x.hops.length c1] 79) (.cells #[.int .i64 y.to, .int .i64 y.cost, .slice a2 y.hops.length c2] 79) (.cells #[.int .i64 0, .int .i64 0, .slice none 0 0] 79)
  have q1 := heap3_1 w (.cells #[.int .i64 x.to, .int .i64 x.cost, .slice a1 x.hops.length c1] 79) (.cells #[.int .i64 y.to, .int .i64 y.cost, .slice a2 y.hops.length c2] 79) (.cells #[.int .i64 0, .int .i64 0, .slice none 0 0] 79)
  have q2 := heap3_2 w (.cells #[.int .i64 x.to, .int .i64 x.cost, .slice a1 x.hops.length c1] 79) (.cells #[.int .i64 y.to, .int .i64 y.cost, .slice a2 y.hops.length c2] 79) (.cells #[.int .i64 0, .int .i64 0, .slice none 0 0] 79)
  obtain ⟨w0, hw0⟩ : ∃ W, W = ((w.alloc (.cells #[.int .i64 x.to, .int .i64 x.cost, .slice a1 x.hops.length c1] 79)).alloc (.cells #[.int .i64 y.to, .int .i64 y.cost, .slice a2 y.hops.length c2] 79)).alloc (.cells #[.int .i64 0, .int .i64 0, .slice none 0 0] 79) := ⟨_, rfl⟩
  rw [← hw0] at BW q0 q1 q2
  clear h1 h2 hP hQ hD
  unfold wayC at *
  have fin : ∀ (X : WayD) (na : Option Addr) (nc lo : Nat) (W : World), W.heap[w.heap.size + 1 + 1]? = some (.cells #[.int .i64 0, .int .i64 0, .slice none 0 0] 79) → W.ownsRow lo 3 1 (.slice na X.hops.length nc) X.hops.length (flat intE X.hops) → w.heap.size + 1 + 1 < lo → Below w.heap.size w W → (putW3 W (w.heap.size + 1 + 1) X (.slice na X.hops.length nc)).heap[w.heap.size + 1 + 1]? = some (.cells (wayC X (.slice na X.hops.length nc)) 79) ∧ (putW3 W (w.heap.size + 1 + 1) X (.slice na X.hops.length nc)).ownsRow w.heap.size 3 1 (.slice na X.hops.length nc) X.hops.length (flat intE X.hops) ∧ Below w.heap.size w (putW3 W (w.heap.size + 1 + 1) X (.slice na X.hops.length nc)) := by
    intro X na nc lo W hz ho hlo hb
    have G := grownW3 W (w.heap.size + 1 + 1) X (.slice na X.hops.length nc)
    refine ⟨finW3 X _ hz, owns_baseS (owns_keepB ho (fun k hk => G.block k (ho.lt k hk).2 (fun e => by have := (ho.lt k hk).1; simp at e; omega))) (by omega), hb.grown G hb.size (fun k hk => by simp at hk; omega)⟩
  have FIN := hide fin
  clear fin
  have r0 := cells_at q0 0
  have r1 := cells_at q0 1
  have r2 := cells_at q0 2
  have s0 := cells_at q1 0
  have s1 := cells_at q1 1
  have s2 := cells_at q1 2
  simp at r0 r1 r2 s0 s1 s2
  have z0 := lt_of_heap q0
  have z1 := lt_of_heap q1
  have z2 := lt_of_heap q2
  go_enter Try.func52, Try.ntmps52
  go_wp2_with fail
  rw [← hw0]
  clear hw0
  refine (HB1.out _).mono ?_
  rintro e w1 ⟨rfl, e1⟩
  have e1s := e1.size
  have B1 : Below w.heap.size w w1 := BW.trans (e1.mono BW.size)
  have p0 := (e1.block _ z0).trans q0
  have p1 := (e1.block _ z1).trans q1
  have p2 := (e1.block _ z2).trans q2
  clear r0 r1 r2 s0 s1 s2 q0 q1 q2 e1
  have r0 := cells_at p0 0
  have r1 := cells_at p0 1
  have r2 := cells_at p0 2
  have s0 := cells_at p1 0
  have s1 := cells_at p1 1
  have s2 := cells_at p1 2
  simp at r0 r1 r2 s0 s1 s2
  cases P
  · go_wp2_with fail
    refine (HB2.out _).mono ?_
    rintro e w2 ⟨rfl, e2⟩
    have e2s := e2.size
    have B2 : Below w.heap.size w w2 := B1.trans (e2.mono B1.size)
    have k0 := (e2.block _ (lt_of_heap p0)).trans p0
    have k1 := (e2.block _ (lt_of_heap p1)).trans p1
    have k2 := (e2.block _ (lt_of_heap p2)).trans p2
    clear r0 r1 r2 s0 s1 s2 p0 p1 p2 e2
    have r0 := cells_at k0 0
    have r1 := cells_at k0 1
    have r2 := cells_at k0 2
    have s0 := cells_at k1 0
    have s1 := cells_at k1 1
    have s2 := cells_at k1 2
    simp at r0 r1 r2 s0 s1 s2
    cases Q
    · have hDe : D = ⟨x.to, x.cost, addL x.hops y.hops⟩ := HD.out
      have zz0 : w.heap.size < w2.heap.size := by omega
      have zz1 : w.heap.size + 1 < w2.heap.size := by omega
      have B2D : Below w.heap.size w w2.drew := B2.drew
      have HAL := hide (addL_len x.hops y.hops)
      have K2 := hide k2
      clear k0 k1 k2
      go_wp2
      go_region_held3 (fun W => W.cell? ⟨w.heap.size, 0, none⟩ = some (.int .i64 x.to) ∧ W.cell? ⟨w.heap.size, 1, none⟩ = some (.int .i64 x.cost) ∧ W.cell? ⟨w.heap.size, 2, none⟩ = some (.slice a1 x.hops.length c1) ∧ W.cell? ⟨w.heap.size + 1, 2, none⟩ = some (.slice a2 y.hops.length c2)) (first | (refine ⟨?_, ?_, ?_, ?_⟩ <;> (rw [b3.cell (by assumption)]; assumption)) | (refine ⟨?_, ?_, ?_, ?_⟩ <;> (rw [cellW3 (by omega), b3.cell (by assumption)]; assumption)) | go_keep) (first | (go_at_call 56; refine (HAD.out _ B2D).mono ?_; rintro e w3 ⟨v3, rfl, o3, b3⟩; obtain ⟨na, nc, rfl⟩ := owns_lenS o3; have k3 := (b3.block _ (show w.heap.size + 1 + 1 < w2.drew.heap.size from lt_of_heap K2.out)).trans K2.out; have t0 := cells_at k3 0; have t1 := cells_at k3 1; have t2 := cells_at k3 2; simp at t0 t1 t2; have ft := frozen_at k3))
      have F := FIN.out ⟨x.to, x.cost, addL x.hops y.hops⟩ na nc _ w3 k3 o3 (lt_of_heap K2.out) (B2D.trans (b3.mono B2D.size))
      subst hDe
      clear k3 t0 t1 t2 ft
      have FF := hide F.1
      have O5 := hide F.2.1
      have B5 := hide F.2.2
      clear F
      go_wp2_with fail
      (try simp only [Exit.inBlock, Exit.then])
      refine bodyPost_ret (results_cell_row rfl _ _ (w.heap.size + 1 + 1) 79 (wayC _ _) (0, 0) _ rfl FF.out Try.underlying79 rfl (by kernel_rfl)) rfl ?_
      exact ⟨_, rfl, O5.out, B5.out⟩
    · have hDe : D = y := HD.out
      subst hDe
      go_wp2_with fail
      refine (HC2.out _ B2).mono ?_
      rintro e w3 ⟨v3, rfl, o3, b3⟩
      obtain ⟨na, nc, rfl⟩ := owns_lenS o3
      have k3 := (b3.block _ (lt_of_heap k2)).trans k2
      have t0 := cells_at k3 0
      have t1 := cells_at k3 1
      have t2 := cells_at k3 2
      simp at t0 t1 t2
      have ft := frozen_at k3
      have F := FIN.out D na nc _ w3 k3 o3 (lt_of_heap k2) (B2.trans (b3.mono B2.size))
      clear k0 k1 k2 k3 o3 r0 r1 r2 s0 s1 s2
      have FF := hide F.1
      have O5 := hide F.2.1
      have B5 := hide F.2.2
      clear F
      go_wp2_with fail
      (try simp only [Exit.inBlock, Exit.then])
      refine bodyPost_ret (results_cell_row rfl _ _ (w.heap.size + 1 + 1) 79 (wayC _ _) (0, 0) _ rfl FF.out Try.underlying79 rfl (by kernel_rfl)) rfl ?_
      exact ⟨_, rfl, O5.out, B5.out⟩
  · have hDe : D = x := HD.out
    subst hDe
    go_wp2_with fail
    refine (HC1.out _ B1).mono ?_
    rintro e w3 ⟨v3, rfl, o3, b3⟩
    obtain ⟨na, nc, rfl⟩ := owns_lenS o3
    have k3 := (b3.block _ (lt_of_heap p2)).trans p2
    have t0 := cells_at k3 0
    have t1 := cells_at k3 1
    have t2 := cells_at k3 2
    simp at t0 t1 t2
    have ft := frozen_at k3
    have F := FIN.out D na nc _ w3 k3 o3 (lt_of_heap p2) (B1.trans (b3.mono B1.size))
    clear p0 p1 p2 k3 o3 r0 r1 r2 s0 s1 s2
    have FF := hide F.1
    have O5 := hide F.2.1
    have B5 := hide F.2.2
    clear F
    go_wp2_with fail
    (try simp only [Exit.inBlock, Exit.then])
    refine bodyPost_ret (results_cell_row rfl _ _ (w.heap.size + 1 + 1) 79 (wayC _ _) (0, 0) _ rfl FF.out Try.underlying79 rfl (by kernel_rfl)) rfl ?_
    exact ⟨_, rfl, O5.out, B5.out⟩
end Go.Proofs.Ytbknmgobmnjphaa

namespace Go.Proofs.Ytbknmgobmnjphaa
open Go.RowKit

theorem upTo_mem (d : Array Int) : ∀ (m j : Nat), j < m → d[j]! ∈ Lib.compactUpTo d m
  | 0, j, h => by omega
  | m + 1, j, h => by
    rw [Lib.compactUpTo_succ]
    by_cases hj : j < m
    · exact List.mem_append_left _ (upTo_mem d m j hj)
    · obtain rfl : j = m := by omega
      by_cases hk : Lib.keeps d j = true
      · rw [if_pos hk]; simp
      · have hk2 : ¬ (j = 0 ∨ d[j]! ≠ d[j - 1]!) := by simpa [Lib.keeps] using hk
        have h0 : 0 < j := by omega
        have he : d[j]! = d[j - 1]! := by
          by_cases e : d[j]! = d[j - 1]!
          · exact e
          · exact absurd (Or.inr e) hk2
        rw [he]
        exact List.mem_append_left _ (upTo_mem d j (j - 1) (by omega))

theorem mem_compact {zs : List Int} {x : Int} : x ∈ Lib.compact zs ↔ x ∈ zs := by
  constructor
  · intro h
    simp only [Lib.compact, Lib.compactUpTo, List.mem_map, List.mem_filter, List.mem_range] at h
    obtain ⟨j, ⟨hj, _⟩, rfl⟩ := h
    have : zs.toArray[j]! = zs[j] := by simp [hj]
    rw [this]
    exact List.getElem_mem hj
  · intro h
    obtain ⟨j, hj, rfl⟩ := List.mem_iff_getElem.1 h
    have e : zs[j] = zs.toArray[j]! := by simp [hj]
    rw [e]
    exact upTo_mem _ _ j hj

theorem upTo_asc (d : Array Int) (n : Nat) (hs : ∀ i j, i ≤ j → j < n → d[i]! ≤ d[j]!) : ∀ m, m ≤ n → (Lib.compactUpTo d m).Pairwise (· < ·)
  | 0, _ => by simp [Lib.compactUpTo]
  | m + 1, h => by
    rw [Lib.compactUpTo_succ, List.pairwise_append]
    refine ⟨upTo_asc d n hs m (by omega), by split <;> simp, fun x hx y hy => ?_⟩
    simp only [Lib.compactUpTo, List.mem_map, List.mem_filter, List.mem_range] at hx
    obtain ⟨j, ⟨hj, _⟩, rfl⟩ := hx
    split at hy
    · rename_i hk
      have e : y = d[m]! := by simpa using hy
      subst e
      have hk2 : m = 0 ∨ d[m]! ≠ d[m - 1]! := by simpa [Lib.keeps] using hk
      have h1 := hs j (m - 1) (by omega) (by omega)
      have h2 := hs (m - 1) m (by omega) (by omega)
      rcases hk2 with h3 | h3
      · omega
      · omega
    · cases hy

theorem sorted_get {zs : List Int} (hp : zs.Pairwise (fun a b => decide (a ≤ b) = true)) : ∀ i j, i ≤ j → j < zs.length → zs.toArray[i]! ≤ zs.toArray[j]! := by
  intro i j hij hj
  have hi : i < zs.length := by omega
  have e1 : zs.toArray[i]! = zs[i] := by simp [hi]
  have e2 : zs.toArray[j]! = zs[j] := by simp [hj]
  rw [e1, e2]
  by_cases e : i = j
  · subst e; exact Int.le_refl _
  · have := List.pairwise_iff_getElem.1 hp i j hi hj (by omega)
    simpa using this

def hopsI (a b : List Int) : List Int := Lib.compact ((a ++ b).mergeSort fun x y => decide (x ≤ y))

theorem hopsI_mem {a b : List Int} {x : Int} : x ∈ hopsI a b ↔ x ∈ a ∨ x ∈ b := by
  unfold hopsI
  rw [mem_compact, List.mem_mergeSort, List.mem_append]

theorem hopsI_asc (a b : List Int) : (hopsI a b).Pairwise (· < ·) := by
  unfold hopsI Lib.compact
  refine upTo_asc _ _ ?_ _ (Nat.le_refl _)
  have hp := List.pairwise_mergeSort (le := fun x y : Int => decide (x ≤ y)) (fun a b c h1 h2 => by simp at h1 h2 ⊢; omega) (fun a b => by simp; omega) (a ++ b)
  exact sorted_get hp

end Go.Proofs.Ytbknmgobmnjphaa
