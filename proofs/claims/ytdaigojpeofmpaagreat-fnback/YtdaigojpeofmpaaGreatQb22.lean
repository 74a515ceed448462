/-
  impl.Linked over a right store: it is what the table of links has.
  Ways as walks over links: costs from both ends, and hops.
  What ways over a right store keep.
  The ideal links are seen from both ends at one cost; so ways back cost the same.
  A heap in a row, as values: what sifting up and down makes of it.
  impl.wayHeap: its methods' contracts.
  Calls through an interface that holds a pointer: which function, with which receiver.
  container/heap's up over impl.wayHeap: its contract.
-/
import Derived.Test.YtdaigojpeofmpaaGreatQb21
import Derived.Test.YtdaigojpeofmpaaGreatQb7
import Derived.Test.YtdaigojpeofmpaaGreatQb10
import Derived.Test.YtdaigojpeofmpaaGreatQb9
import Derived.Test.YtdaigojpeofmpaaGreatQb19
import Derived.Test.YtdaigojpeofmpaaGreatQb1
import Derived.Test.YtdaigojpeofmpaaGreatQb8
import Derived.Test.YtdaigojpeofmpaaGreatQb2
import Derived.Handy
namespace Go.Proofs.YtdaigojpeofmpaaGreat
open Go.RowKit

theorem recOk_node {x : RecD} (h : recOkB x = true) (hk : x.kind = 1) : x.key = 0 := by
  unfold recOkB at h
  simp only [Bool.and_eq_true] at h
  have h2 := h.2
  rw [if_pos hk] at h2
  simp only [Bool.and_eq_true, beq_iff_eq] at h2
  exact h2.1.1.1.2

theorem store_mem {xs : List RecD} (h : storeB xs = true) {x : RecD} (hx : x ∈ xs) : recOkB x = true := by
  unfold storeB at h
  simp only [Bool.and_eq_true] at h
  exact allOk_mem h.1.2 hx

/-- in a right store a node's record is found by its key -/
theorem nodeM_key {xs : List RecD} (h : storeB xs = true) {area owner : Int} {x : RecD} (hx : x ∈ xs) : nodeM area owner x = sameKeyB x (nodeR area owner) := by
  have hok := store_mem h hx
  unfold nodeM sameKeyB nodeR
  by_cases hk : x.kind = 1
  · have := recOk_node hok hk
    simp [this]
  · have hb : (x.kind == 1) = false := by simpa using hk
    simp [hb]

theorem plN_right {xs : List RecD} (h : storeB xs = true) (area owner : Int) : plN xs area owner = xs.findIdx? (fun x => sameKeyB x (nodeR area owner)) := by
  unfold plN
  cases e : xs.findIdx? (nodeM area owner) with
  | none =>
    rw [List.findIdx?_eq_none_iff] at e
    rw [Eq.comm, List.findIdx?_eq_none_iff]
    intro x hx
    rw [← nodeM_key h hx]
    exact e x hx
  | some k =>
    obtain ⟨h1, h2, h3⟩ := List.findIdx?_eq_some_iff_getElem.1 e
    rw [Eq.comm, List.findIdx?_eq_some_iff_getElem]
    refine ⟨h1, ?_, fun j hj => ?_⟩
    · rw [← nodeM_key h (List.getElem_mem _)]; exact h2
    · rw [← nodeM_key h (List.getElem_mem _)]; exact h3 j hj

theorem node_right {xs : List RecD} (h : storeB xs = true) (area owner : Int) : nodeB xs area owner = (plN xs area owner).isSome := by
  unfold nodeB findB atZ
  rw [← plN_right h]
  cases plN xs area owner with
  | none => rfl
  | some k =>
    show (!decide ((k : Int) < 0)) = true
    simp

theorem told_right {xs : List RecD} (h : storeB xs = true) (area owner to : Int) : toldD xs area owner to = ((nodeD xs area owner).near.find? (fun n => n.to == to)).map (·.c) := by
  unfold toldD nodeD findD atZ
  rw [← plN_right h]
  cases e : plN xs area owner with
  | none => rfl
  | some k =>
    obtain ⟨x, hx, _, _⟩ := plN_at e
    show (match xs[k]? with
      | some x => (x.near.find? (fun (n : Nr) => n.to == to)).map (fun (n : Nr) => n.c)
      | none => none) = _
    rw [hx]
    show _ = (((if ((k : Int) < 0) then zeroRD else xs.getD ((k : Int)).toNat zeroRD).near.find? (fun (n : Nr) => n.to == to)).map (fun (n : Nr) => n.c))
    rw [if_neg (by omega)]
    simp [hx]

def AscN (ns : List Nr) : Prop := ∀ (i j : Nat) (a b : Nr), i < j → ns[i]? = some a → ns[j]? = some b → a.to < b.to

theorem nearsB_asc {o : Int} {ns : List Nr} (h : nearsB o ns = true) : AscN ns := by
  unfold nearsB at h
  simp only [Bool.and_eq_true] at h
  have hasc := h.2
  unfold ascB at hasc
  rw [List.all_eq_true] at hasc
  have step : ∀ (j : Nat) (a b : Nr), ns[j]? = some a → ns[j + 1]? = some b → a.to < b.to := by
    intro j a b ha hb
    have hj : j + 1 < ns.length := (List.getElem?_eq_some_iff.1 hb).1
    have := hasc (j + 1) (by simpa using hj)
    unfold ascAt at this
    simp only [ha, hb] at this
    unfold ordN at this
    simp at this
    omega
  intro i j a b hij
  induction j generalizing b with
  | zero => omega
  | succ j ih =>
    intro ha hb
    have hj : j + 1 < ns.length := (List.getElem?_eq_some_iff.1 hb).1
    obtain ⟨m, hm⟩ : ∃ m, ns[j]? = some m := ⟨ns[j]'(by omega), List.getElem?_eq_getElem (by omega)⟩
    have s := step j m b hm hb
    by_cases e : i = j
    · subst e
      rw [ha] at hm
      cases hm
      exact s
    · have := ih m (by omega) ha hm; omega

/-- the table's entry, of neighbours that ascend -/
theorem linkT_find {ns : List Nr} {bk : Int → Int} {v : Nat} (hv : 1 ≤ v ∧ v ≤ 6) (hasc : AscN ns) : ∀ k, k ≤ ns.length → linkT ns bk v k = (if 0 < bk (v : Int) then (((ns.take k).find? (fun n => n.to == (v : Int))).map (·.c)).getD 0 else 0) := by
  intro k
  induction k with
  | zero => intro _; simp [linkT]
  | succ k ih =>
    intro hk
    have hlt : k < ns.length := by omega
    rw [linkT_step bk v (List.getElem?_eq_getElem hlt), ih (by omega), List.take_succ_eq_append_getElem hlt, List.find?_append]
    by_cases e : ns[k].to = (v : Int)
    · by_cases hb : 0 < bk (v : Int)
      · rw [if_pos ⟨e, by rw [e]; exact inB_iff.2 (by omega), by rw [e]; exact hb⟩, if_pos hb]
        have hno : (ns.take k).find? (fun n => n.to == (v : Int)) = none := by
          rw [List.find?_eq_none]
          intro x hx
          obtain ⟨i, hi, e2⟩ := List.mem_iff_getElem.1 hx
          rw [List.length_take] at hi
          rw [List.getElem_take] at e2
          have := hasc i k x ns[k] (by omega) (by rw [List.getElem?_eq_getElem (by omega), e2]) (List.getElem?_eq_getElem hlt)
          simp
          omega
        rw [hno]
        simp [e]
      · rw [if_neg (fun hc => by rw [e] at hc; exact hb hc.2.2), if_neg hb, if_neg hb]
    · rw [if_neg (fun hc => e hc.1)]
      have e2 : (ns[k].to == (v : Int)) = false := by simpa using e
      simp [e2]

theorem linked_right {xs : List RecD} (h : storeB xs = true) (area : Int) {u v : Nat} (hu : 1 ≤ u ∧ u ≤ 6) (hv : 1 ≤ v ∧ v ≤ 6) : linkedI xs area (u : Int) (v : Int) = linkN xs area u v := by
  unfold linkedI linkN
  rw [if_pos ⟨hu, hv⟩, told_right h, told_right h]
  unfold linkF
  have hasc : AscN (nodeD xs area (u : Int)).near := by
    unfold nodeD
    rcases findD_mem (xs := xs) (r := nodeR area (u : Int)) with hm | he
    · rcases recOk_nears (store_mem h hm) with e | ⟨_, e⟩
      · rw [e]; intro i j a b _ ha _; simp at ha
      · exact nearsB_asc e
    · rw [he]; intro i j a b _ ha _; simp [zeroRD] at ha
  rw [linkT_find hv hasc _ (Nat.le_refl _), List.take_length]
  have hback : ∀ c, ((nodeD xs area (v : Int)).near.find? (fun n => n.to == (u : Int))).map (·.c) = some c → 0 < c := by
    intro c hc
    obtain ⟨n, hn, rfl⟩ := Option.map_eq_some_iff.1 hc
    have := node_near (area := area) (node := (v : Int)) h n (List.mem_of_find?_eq_some hn)
    omega
  have htell : tellsD xs area (v : Int) (u : Int) = (((nodeD xs area (v : Int)).near.find? (fun n => n.to == (u : Int))).map (·.c)).getD 0 := by
    unfold tellsD tellsN
    cases (nodeD xs area (v : Int)).near.find? (fun n => n.to == (u : Int)) <;> rfl
  cases e : ((nodeD xs area (v : Int)).near.find? (fun n => n.to == (u : Int))).map (·.c) with
  | none =>
    rw [if_neg (by rw [htell, e]; simp)]
  | some c =>
    rw [if_pos (by rw [htell, e]; exact hback c e)]
    cases ((nodeD xs area (u : Int)).near.find? (fun n => n.to == (v : Int))) <;> rfl
end Go.Proofs.YtdaigojpeofmpaaGreat
namespace Go.Proofs.YtdaigojpeofmpaaGreat

inductive Walk (L : Nat → Nat → Int) (a : Nat) : Nat → Int → Prop
  | nil : Walk L a a 0
  | step {v w : Nat} {x : Int} : Walk L a v x → 0 < L v w → Walk L a w (x + L v w)

theorem Walk.nn {L : Nat → Nat → Int} {a v : Nat} {x : Int} (h : Walk L a v x) : 0 ≤ x := by
  induction h with
  | nil => omega
  | step _ hl ih => omega

theorem Walk.trans {L : Nat → Nat → Int} {a b v : Nat} {x y : Int} (h1 : Walk L a b x) (h2 : Walk L b v y) : Walk L a v (x + y) := by
  induction h2 with
  | nil => simpa using h1
  | step _ hl ih =>
    have := ih.step hl
    rw [← Int.add_assoc]
    exact this

theorem Walk.one {L : Nat → Nat → Int} {a b : Nat} (h : 0 < L a b) : Walk L a b (L a b) := by
  have := (Walk.nil (L := L) (a := a)).step h
  simpa using this

theorem Walk.rev {L : Nat → Nat → Int} (hs : ∀ u v, L u v = L v u) {a v : Nat} {x : Int} (h : Walk L a v x) : Walk L v a x := by
  induction h with
  | nil => exact .nil
  | step h1 hl ih =>
    rename_i v w y
    have h2 : 0 < L w v := by rw [hs]; exact hl
    have := (Walk.one h2).trans ih
    rw [hs w v, Int.add_comm] at this
    exact this

theorem Fix.walk {L : Nat → Nat → Int} {src : Nat} {c : Nat → Int} {h : Nat → List Int} (A : Fix L src c h) : ∀ (n v : Nat), 0 ≤ c v → (c v).toNat ≤ n → Walk L src v (c v) := by
  obtain ⟨F, I, hF⟩ := A
  intro n
  induction n with
  | zero =>
    intro v h0 hn
    by_cases hv : v = src
    · subst hv; rw [I.start]; exact .nil
    · obtain ⟨u, hu, hl, hc⟩ := I.pred v hv h0
      have := (I.fnode u hu).2
      omega
  | succ n ih =>
    intro v h0 hn
    by_cases hv : v = src
    · subst hv; rw [I.start]; exact .nil
    · obtain ⟨u, hu, hl, hc⟩ := I.pred v hv h0
      have h1 := (I.fnode u hu).2
      rw [hc]
      exact (ih u h1 (by omega)).step hl

theorem Fix.least {L : Nat → Nat → Int} {src : Nat} {c : Nat → Int} {h : Nat → List Int} (A : Fix L src c h) {v : Nat} {x : Int} (hw : Walk L src v x) : 0 ≤ c v ∧ c v ≤ x := by
  obtain ⟨F, I, hF⟩ := A
  induction hw with
  | nil => rw [I.start]; omega
  | step _ hl ih =>
    have := I.closed _ _ (hF _ ih.1) hl
    omega

/-- a way costs the same from both ends -/
theorem Fix.sym {L : Nat → Nat → Int} (hs : ∀ u v, L u v = L v u) {a b : Nat} {c d : Nat → Int} {h g : Nat → List Int} (A : Fix L a c h) (B : Fix L b d g) (h0 : 0 ≤ c b) : 0 ≤ d a ∧ d a = c b := by
  have w1 := (A.walk _ b h0 (Nat.le_refl _)).rev hs
  have l1 := B.least w1
  have w2 := (B.walk _ a l1.1 (Nat.le_refl _)).rev hs
  have l2 := A.least w2
  omega

/-- a cost over a link is no less -/
theorem Fix.over {L : Nat → Nat → Int} {a x : Nat} {c d : Nat → Int} {h g : Nat → List Int} (A : Fix L a c h) (B : Fix L x d g) (hl : 0 < L a x) {t : Nat} (h0 : 0 ≤ d t) : 0 ≤ c t ∧ c t ≤ L a x + d t :=
  A.least ((Walk.one hl).trans (B.walk _ t h0 (Nat.le_refl _)))

end Go.Proofs.YtdaigojpeofmpaaGreat
namespace Go.Proofs.YtdaigojpeofmpaaGreat
open Go.RowKit

theorem tells_told {xs : List RecD} (h : storeB xs = true) (area a b : Int) : tellsD xs area a b = (toldD xs area a b).getD 0 := by
  rw [told_right h]
  unfold tellsD tellsN
  cases (nodeD xs area a).near.find? (fun n => n.to == b) <;> rfl

theorem told_pos {xs : List RecD} (h : storeB xs = true) {area a b c : Int} (hc : toldD xs area a b = some c) : 0 < c := by
  rw [told_right h] at hc
  obtain ⟨n, hn, rfl⟩ := Option.map_eq_some_iff.1 hc
  have := node_near (area := area) (node := a) h n (List.mem_of_find?_eq_some hn)
  omega

/-- the specification's and the program's links are the same over a right store -/
theorem linkedD_right {xs : List RecD} (h : storeB xs = true) (area : Int) {u v : Nat} (hu : 1 ≤ u ∧ u ≤ 6) (hv : 1 ≤ v ∧ v ≤ 6) : linkedD xs area (u : Int) (v : Int) = linkN xs area u v := by
  rw [← linked_right h area hu hv]
  unfold linkedD linkedI
  rw [tells_told h, tells_told h]
  cases e : toldD xs area (v : Int) (u : Int) with
  | none => simp
  | some c =>
    have := told_pos h e
    simp only [Option.getD_some]
    rw [if_neg (by omega)]
    cases toldD xs area (u : Int) (v : Int) <;> rfl

theorem link_node {xs : List RecD} (h : storeB xs = true) {area : Int} {u v : Nat} (hl : 0 < linkN xs area v u) : nodeB xs area (u : Int) = true := by
  have hr : (1 ≤ v ∧ v ≤ 6) ∧ (1 ≤ u ∧ u ≤ 6) := by
    unfold linkN at hl
    split at hl
    · assumption
    · omega
  rw [← linkedD_right h area hr.1 hr.2] at hl
  unfold linkedD at hl
  split at hl
  · omega
  · rename_i hne
    unfold tellsD at hne
    cases hb : nodeB xs area (u : Int) with
    | true => rfl
    | false =>
      exfalso
      apply hne
      have : nodeD xs area (u : Int) = zeroRD := by
        unfold nodeB findB at hb
        unfold nodeD findD
        rw [if_pos (by simpa using hb)]
      rw [this]
      rfl

theorem find_coll {c : Nat → Int} {h : Nat → List Int} {t : Nat} (ht : 1 ≤ t ∧ t ≤ 6) : (collT c h 6).find? (fun x => x.to == (t : Int)) = if 0 ≤ c t then some ⟨(t : Int), c t, h t⟩ else none := by
  split
  · rename_i h0
    have hm : (⟨(t : Int), c t, h t⟩ : WayD) ∈ collT c h 6 := (coll_mem 6).2 ⟨t, ht.1, ht.2, h0, rfl⟩
    cases hf : (collT c h 6).find? (fun x => x.to == (t : Int)) with
    | none =>
      rw [List.find?_eq_none] at hf
      have := hf _ hm
      simp at this
    | some w =>
      have hw := List.mem_of_find?_eq_some hf
      have hp := List.find?_some hf
      simp only [beq_iff_eq] at hp
      obtain ⟨v, _, _, _, rfl⟩ := (coll_mem 6).1 hw
      have : v = t := by simp at hp; omega
      subst this
      rfl
  · rename_i h0
    rw [List.find?_eq_none]
    intro w hw
    obtain ⟨v, _, _, h3, rfl⟩ := (coll_mem 6).1 hw
    simp only [beq_iff_eq]
    intro e
    have : v = t := by omega
    subst this
    exact h0 h3

theorem way_coll {c : Nat → Int} {h : Nat → List Int} {t : Nat} (ht : 1 ≤ t ∧ t ≤ 6) : wayToB (collT c h 6) (t : Int) = decide (0 ≤ c t) ∧ (0 ≤ c t → wayToD (collT c h 6) (t : Int) = ⟨(t : Int), c t, h t⟩) := by
  unfold wayToB wayToD
  rw [find_coll ht]
  by_cases h0 : 0 ≤ c t
  · rw [if_pos h0]; simp [h0]
  · rw [if_neg h0]; simp [h0]

section
variable {xs : List RecD} {area : Int} {v : Nat} {ds : List WayD}

theorem ways_fix (hw : IsWays xs area (v : Int) ds) {w : WayD} (hm : w ∈ ds) : ∃ c h, Fix (linkN xs area) v c h ∧ ds = collT c h 6 := by
  unfold IsWays at hw
  split at hw
  · obtain ⟨c, h, A, e⟩ := hw
    exact ⟨c, h, by simpa using A, e⟩
  · subst hw; cases hm

/-- it costs nothing just to itself -/
theorem ways_zero (hw : IsWays xs area (v : Int) ds) {w : WayD} (hm : w ∈ ds) : (w.cost = 0 ↔ w.to = (v : Int)) ∧ ∃ t : Nat, 1 ≤ t ∧ t ≤ 6 ∧ w.to = (t : Int) := by
  obtain ⟨c, h, ⟨F, I, hF⟩, rfl⟩ := ways_fix hw hm
  obtain ⟨t, h1, h2, h3, rfl⟩ := (coll_mem 6).1 hm
  refine ⟨?_, t, h1, h2, rfl⟩
  show c t = 0 ↔ (t : Int) = (v : Int)
  constructor
  · intro h0
    by_cases e : t = v
    · rw [e]
    · obtain ⟨u, hu, hl, hc⟩ := I.pred t e h3
      have := (I.fnode u hu).2
      omega
  · intro e
    have : t = v := by omega
    rw [this]; exact I.start

end
end Go.Proofs.YtdaigojpeofmpaaGreat
namespace Go.Proofs.YtdaigojpeofmpaaGreat
open Go.RowKit

theorem opHit_sym (f t r : Int) : opHit f t r = opHit t f r := by
  funext p
  unfold opHit lkHit
  rw [Bool.or_comm ((p.1.a == f) && (p.1.b == t))]

theorem openN_sym (ls : List Lk) (bs : List Bool) (f t r : Int) : openN ls bs f t r = openN ls bs t f r := by
  unfold openN
  rw [opHit_sym]

theorem mem_withD : ∀ {ts xs : List RecD} {r : RecD}, r ∈ withD xs ts → r ∈ xs ∨ ∃ t ∈ ts, r = seq1 t
  | [], xs, r, h => .inl h
  | t :: ts, xs, r, h => by
    rcases mem_withD (ts := ts) (xs := putD xs (seq1 t)) h with h | ⟨u, hu, e⟩
    · rcases mem_putI h with h | h
      · exact .inl h
      · exact .inr ⟨t, by simp, h⟩
    · exact .inr ⟨u, by simp [hu], e⟩

theorem mem_beyD {xs : List RecD} {al : List Int} {v : Int} {r : RecD} (h : r ∈ beyD xs al v) : r ∈ xs ∨ r.kind = 2 := by
  unfold beyD at h
  rcases mem_withD h with h | ⟨t, ht, e⟩
  · exact .inl (List.mem_filter.1 h).1
  · obtain ⟨a, to, c, _, e2, _⟩ := mem_allTold ht
    refine .inr ?_
    rw [e, (seq1_kind t).1, e2]
    rfl

/-- each record of a node tells whom it hears -/
def Told (ls : List Lk) (bs zs : List Bool) (N : Nat) (xs : List RecD) : Prop := ∀ r ∈ xs, r.kind = 1 → r.near = nearK ls bs zs r.owner r.area N

theorem Told.put {ls : List Lk} {bs zs : List Bool} {N : Nat} {xs : List RecD} {r : RecD} (h : Told ls bs zs N xs) (hr : r.kind = 1 → r.near = nearK ls bs zs r.owner r.area N) : Told ls bs zs N (putD xs r) := by
  intro q hq hk
  rcases mem_putI hq with h1 | h1
  · exact h q h1 hk
  · subst h1; exact hr hk

theorem told_areaK {ls : List Lk} {bs zs : List Bool} {N : Nat} {v : Int} {al : List Int} {xs : List RecD} (h : Told ls bs zs N xs) : ∀ j, Told ls bs zs N (areaK ls bs zs N v al xs j)
  | 0 => h
  | j + 1 => (told_areaK h j).put (fun _ => rfl)

theorem told_idA {ls : List Lk} {bs zs : List Bool} {N : Nat} : ∀ k, Told ls bs zs N (idA ls bs zs N k)
  | 0 => fun r hr => by cases hr
  | k + 1 => by
    unfold idA
    split
    · exact told_areaK (told_idA k) _
    · exact told_idA k

theorem told_idB {ls : List Lk} {bs zs : List Bool} {N : Nat} {ts : List Th} {xs : List RecD} (h : Told ls bs zs N xs) : ∀ k, Told ls bs zs N (idB ts zs xs k)
  | 0 => h
  | k + 1 => by
    unfold idB
    split
    · split
      · exact (told_idB h k).put (fun e => by simp [thgRec] at e)
      · exact told_idB h k
    · exact told_idB h k

theorem told_idC {ls : List Lk} {bs zs : List Bool} {N : Nat} {xs : List RecD} (h : Told ls bs zs N xs) : ∀ k, Told ls bs zs N (idC ls zs xs k)
  | 0 => h
  | k + 1 => by
    unfold idC
    split
    · intro r hr hk
      rcases mem_beyD hr with h1 | h1
      · exact told_idC h k r h1 hk
      · rw [hk] at h1; cases h1
    · exact told_idC h k

theorem told_idR {ls : List Lk} {bs zs : List Bool} {N : Nat} {xs : List RecD} (h : Told ls bs zs N xs) : ∀ r, Told ls bs zs N (idR ls zs N xs r)
  | 0 => h
  | r + 1 => told_idC (told_idR h r) N

theorem told_ideal (ls : List Lk) (ts : List Th) (bs zs : List Bool) (N : Nat) : Told ls bs zs N (idealD ls ts bs zs N) := told_idR (told_idB (told_idA N) _) 3

theorem mem_nearK {ls : List Lk} {bs zs : List Bool} {v a : Int} {n : Nr} : ∀ k, n ∈ nearK ls bs zs v a k → n.c = openN ls bs v n.to a
  | 0, h => by cases h
  | k + 1, h => by
    unfold nearK at h
    rcases List.mem_append.1 h with h | h
    · exact mem_nearK k h
    · split at h
      · rw [List.mem_singleton.1 h]
      · cases h

theorem told_cost2 {ls : List Lk} {bs zs : List Bool} {N : Nat} {xs : List RecD} (h : Told ls bs zs N xs) {a u v c : Int} (ht : toldD xs a u v = some c) : c = openN ls bs u v a := by
  unfold toldD at ht
  split at ht
  · rename_i k hk
    obtain ⟨x, hx, hm, _⟩ := plN_at hk
    rw [hx] at ht
    simp only [] at ht
    cases e : x.near.find? (fun n => n.to == v) with
    | none => rw [e] at ht; cases ht
    | some n =>
      rw [e] at ht
      simp only [Option.map_some, Option.some.injEq] at ht
      have h1 := List.mem_of_find?_eq_some e
      have h2 : n.to = v := by simpa using List.find?_some e
      simp only [nodeM, Bool.and_eq_true, beq_iff_eq] at hm
      have h3 := h x (List.mem_of_getElem? hx) (by omega)
      rw [h3] at h1
      have h4 := mem_nearK N h1
      rw [← ht, h4, h2]
      congr 1 <;> omega
  · cases ht

theorem ideal_sym {ls : List Lk} {bs zs : List Bool} {N : Nat} {xs : List RecD} (hs : storeB xs = true) (h : Told ls bs zs N xs) (a : Int) : ∀ u v, linkN xs a u v = linkN xs a v u := by
  intro u v
  by_cases hr : (1 ≤ u ∧ u ≤ 6) ∧ (1 ≤ v ∧ v ≤ 6)
  · rw [← linked_right hs a hr.1 hr.2, ← linked_right hs a hr.2 hr.1]
    unfold linkedI
    cases e1 : toldD xs a (v : Int) (u : Int) with
    | none => cases e2 : toldD xs a (u : Int) (v : Int) <;> rfl
    | some c =>
      cases e2 : toldD xs a (u : Int) (v : Int) with
      | none => rfl
      | some d =>
        simp only []
        rw [told_cost2 h e1, told_cost2 h e2, openN_sym]
  · unfold linkN
    rw [if_neg hr, if_neg (fun h => hr ⟨h.2, h.1⟩)]

/-- a way and the way back -/
theorem ways_back {xs : List RecD} {area : Int} {v t : Nat} {ds es : List WayD} (hs : storeB xs = true) (hsym : ∀ a b, linkN xs area a b = linkN xs area b a) (hw : IsWays xs area (v : Int) ds) {w : WayD} (hm : w ∈ ds) (ht : w.to = (t : Int)) (he : IsWays xs area (t : Int) es) :
    wayToB es (v : Int) = true ∧ (wayToD es (v : Int)).cost = w.cost := by
  have hv : 1 ≤ v ∧ v ≤ 6 ∧ nodeB xs area (v : Int) = true := by
    unfold IsWays at hw
    split at hw
    · rename_i h
      simp only [Bool.and_eq_true, inB, decide_eq_true_eq] at h
      exact ⟨by omega, by omega, h.2⟩
    · subst hw; cases hm
  obtain ⟨c, h, A, rfl⟩ := ways_fix hw hm
  obtain ⟨t', h1, h2, h3, rfl⟩ := (coll_mem 6).1 hm
  have e : t' = t := by simp at ht; omega
  subst e
  have hn : nodeB xs area (t' : Int) = true := by
    by_cases htv : t' = v
    · rw [htv]; exact hv.2.2
    · obtain ⟨F, I, hF⟩ := A
      obtain ⟨u, _, hl, _⟩ := I.pred t' htv h3
      exact link_node hs hl
  have hin : inB (t' : Int) 1 6 = true := by simp [inB]; omega
  unfold IsWays at he
  rw [hs, hin, hn, if_pos (by decide)] at he
  obtain ⟨d, g, B0, rfl⟩ := he
  have B : Fix (linkN xs area) t' d g := by simpa using B0
  have hsy := Fix.sym hsym A B h3
  obtain ⟨k1, k2⟩ := way_coll (c := d) (h := g) (t := v) ⟨hv.1, hv.2.1⟩
  refine ⟨by rw [k1]; exact decide_eq_true hsy.1, ?_⟩
  rw [k2 hsy.1]
  exact hsy.2
end Go.Proofs.YtdaigojpeofmpaaGreat
namespace Go.Proofs.YtdaigojpeofmpaaGreat

def par (i : Nat) : Nat := (i - 1) / 2

def swapF (q : Nat → Nat) (i j x : Nat) : Nat := if x = i then q j else if x = j then q i else q x

def IsHeap (c : Nat → Int) (q : Nat → Nat) (n : Nat) : Prop := ∀ i, 0 < i → i < n → c (q (par i)) ≤ c (q i)

structure UpInv (c : Nat → Int) (q : Nat → Nat) (n j : Nat) : Prop where
  all : ∀ i, 0 < i → i < n → i ≠ j → c (q (par i)) ≤ c (q i)
  kids : ∀ i, 0 < i → i < n → par i = j → 0 < j → c (q (par j)) ≤ c (q i)

structure DownInv (c : Nat → Int) (q : Nat → Nat) (n i : Nat) : Prop where
  all : ∀ k, 0 < k → k < n → par k ≠ i → c (q (par k)) ≤ c (q k)
  kids : ∀ k, 0 < k → k < n → par k = i → 0 < i → c (q (par i)) ≤ c (q k)

theorem par_lt {i : Nat} (h : 0 < i) : par i < i := by unfold par; omega

theorem up_stop {c : Nat → Int} {q : Nat → Nat} {n j : Nat} (h : UpInv c q n j) (hs : j = 0 ∨ ¬ c (q j) < c (q (par j))) : IsHeap c q n := by
  intro i h0 hn
  by_cases e : i = j
  · subst e
    rcases hs with hs | hs
    · omega
    · omega
  · exact h.all i h0 hn e

theorem up_step {c : Nat → Int} {q : Nat → Nat} {n j : Nat} (h : UpInv c q n j) (hj : 0 < j) (hn : j < n) (hlt : c (q j) < c (q (par j))) : UpInv c (swapF q (par j) j) n (par j) := by
  have hp := par_lt hj
  obtain ⟨p, hpe⟩ : ∃ p, p = par j := ⟨_, rfl⟩
  rw [← hpe] at hlt hp ⊢
  constructor
  · intro i h0 hi hne
    have hpi := par_lt h0
    unfold swapF
    by_cases e1 : i = j
    · subst e1
      rw [if_neg (by omega : ¬ i = p), if_pos rfl, if_pos hpe.symm]
      omega
    · rw [if_neg hne, if_neg e1]
      have h1 := h.all i h0 hi e1
      by_cases e2 : par i = p
      · rw [if_pos e2]
        rw [e2] at h1
        omega
      · rw [if_neg e2]
        by_cases e3 : par i = j
        · rw [if_pos e3]
          have := h.kids i h0 hi e3 hj
          rw [← hpe] at this
          exact this
        · rw [if_neg e3]; exact h1
  · intro i h0 hi hpar hp0
    have hpi := par_lt h0
    have hpp := par_lt hp0
    have hA := h.all p hp0 (by omega) (by omega)
    unfold swapF
    rw [if_neg (by omega : ¬ par p = p), if_neg (by omega : ¬ par p = j)]
    by_cases e1 : i = j
    · rw [if_neg (by omega : ¬ i = p), if_pos e1]; exact hA
    · rw [if_neg (by omega : ¬ i = p), if_neg e1]
      have := h.all i h0 hi e1
      rw [hpar] at this
      omega

theorem down_stop {c : Nat → Int} {q : Nat → Nat} {n i : Nat} (h : DownInv c q n i) (hs : ∀ k, 0 < k → k < n → par k = i → c (q i) ≤ c (q k)) : IsHeap c q n := by
  intro k h0 hn
  by_cases e : par k = i
  · rw [e]; exact hs k h0 hn e
  · exact h.all k h0 hn e

theorem par_kids {k i : Nat} (h0 : 0 < k) (h : par k = i) : k = 2 * i + 1 ∨ k = 2 * i + 2 := by unfold par at h; omega

theorem down_step {c : Nat → Int} {q : Nat → Nat} {n i j : Nat} (h : DownInv c q n i) (hj : 0 < j) (hn : j < n) (hp : par j = i) (hlt : c (q j) < c (q i)) (hmin : ∀ k, 0 < k → k < n → par k = i → c (q j) ≤ c (q k)) : DownInv c (swapF q i j) n j := by
  have hij := par_lt hj
  rw [hp] at hij
  constructor
  · intro k h0 hk hne
    have hpk := par_lt h0
    unfold swapF
    by_cases e1 : k = i
    · subst e1
      rw [if_pos rfl, if_neg (by omega : ¬ par k = k), if_neg hne]
      exact h.kids j hj hn hp h0
    · rw [if_neg e1]
      by_cases e2 : k = j
      · subst e2
        rw [if_pos rfl, if_pos hp]
        omega
      · rw [if_neg e2]
        by_cases e3 : par k = i
        · rw [if_pos e3]; exact hmin k h0 hk e3
        · rw [if_neg e3, if_neg hne]; exact h.all k h0 hk e3
  · intro k h0 hk hpk hj0
    have hpk2 := par_lt h0
    unfold swapF
    rw [hp, if_pos rfl, if_neg (by omega : ¬ k = i), if_neg (by omega : ¬ k = j)]
    have := h.all k h0 hk (by omega)
    rw [hpk] at this
    exact this

theorem heap_root {c : Nat → Int} {q : Nat → Nat} {n : Nat} (h : IsHeap c q n) : ∀ (m i : Nat), i ≤ m → i < n → c (q 0) ≤ c (q i)
  | 0, i, hm, _ => by rw [show i = 0 by omega]; exact Int.le_refl _
  | m + 1, i, hm, hn => by
    by_cases e : i = 0
    · rw [e]; exact Int.le_refl _
    · have h1 := h i (by omega) hn
      have h2 := par_lt (i := i) (by omega)
      have h3 := heap_root h m (par i) (by omega) (by omega)
      omega

/-- the same things in the first n places, in another order; behind them nothing is turned -/
structure Shuf (q q' : Nat → Nat) (n : Nat) : Prop where
  into : ∀ i, i < n → ∃ j, j < n ∧ q' i = q j
  onto : ∀ j, j < n → ∃ i, i < n ∧ q' i = q j
  inj : (∀ i j, i < n → j < n → q i = q j → i = j) → (∀ i j, i < n → j < n → q' i = q' j → i = j)
  rest : ∀ x, n ≤ x → q' x = q x

theorem Shuf.refl (q : Nat → Nat) (n : Nat) : Shuf q q n := ⟨fun i h => ⟨i, h, rfl⟩, fun j h => ⟨j, h, rfl⟩, fun h => h, fun _ _ => rfl⟩

theorem Shuf.trans {q q' q'' : Nat → Nat} {n : Nat} (a : Shuf q q' n) (b : Shuf q' q'' n) : Shuf q q'' n := by
  refine ⟨fun i h => ?_, fun j h => ?_, fun h => b.inj (a.inj h), fun x hx => (b.rest x hx).trans (a.rest x hx)⟩
  · obtain ⟨j, hj, e⟩ := b.into i h
    obtain ⟨k, hk, e2⟩ := a.into j hj
    exact ⟨k, hk, e.trans e2⟩
  · obtain ⟨i, hi, e⟩ := a.onto j h
    obtain ⟨k, hk, e2⟩ := b.onto i hi
    exact ⟨k, hk, e2.trans e⟩

theorem swapF_cases (q : Nat → Nat) (i j x : Nat) : (x = i ∧ swapF q i j x = q j) ∨ (x = j ∧ swapF q i j x = q i) ∨ (x ≠ i ∧ x ≠ j ∧ swapF q i j x = q x) := by
  unfold swapF
  by_cases e : x = i
  · exact .inl ⟨e, if_pos e⟩
  · rw [if_neg e]
    by_cases e2 : x = j
    · exact .inr (.inl ⟨e2, if_pos e2⟩)
    · exact .inr (.inr ⟨e, e2, if_neg e2⟩)

theorem Shuf.swap (q : Nat → Nat) {n i j : Nat} (hi : i < n) (hj : j < n) : Shuf q (swapF q i j) n := by
  refine ⟨fun x hx => ?_, fun x hx => ?_, fun h x y hx hy e => ?_, fun x hx => ?_⟩
  · rcases swapF_cases q i j x with ⟨_, e⟩ | ⟨_, e⟩ | ⟨_, _, e⟩
    · exact ⟨j, hj, e⟩
    · exact ⟨i, hi, e⟩
    · exact ⟨x, hx, e⟩
  · by_cases e1 : x = i
    · refine ⟨j, hj, ?_⟩
      subst e1
      rcases swapF_cases q x j j with ⟨e2, e⟩ | ⟨_, e⟩ | ⟨_, e2, _⟩
      · rw [e, e2]
      · exact e
      · exact absurd rfl e2
    · by_cases e3 : x = j
      · refine ⟨i, hi, ?_⟩
        subst e3
        rcases swapF_cases q i x i with ⟨_, e⟩ | ⟨e2, e⟩ | ⟨e2, _, _⟩
        · exact e
        · rw [e, e2]
        · exact absurd rfl e2
      · refine ⟨x, hx, ?_⟩
        unfold swapF
        rw [if_neg e1, if_neg e3]
  · rcases swapF_cases q i j x with ⟨a1, a2⟩ | ⟨a1, a2⟩ | ⟨a1, a3, a2⟩ <;> rcases swapF_cases q i j y with ⟨b1, b2⟩ | ⟨b1, b2⟩ | ⟨b1, b3, b2⟩ <;> rw [a2, b2] at e
    · omega
    · have := h _ _ hj hi e; omega
    · have := h _ _ hj hy e; omega
    · have := h _ _ hi hj e; omega
    · omega
    · have := h _ _ hi hy e; omega
    · have := h _ _ hx hj e; omega
    · have := h _ _ hx hi e; omega
    · exact h _ _ hx hy e
  · rcases swapF_cases q i j x with ⟨a1, _⟩ | ⟨a1, _⟩ | ⟨_, _, e⟩
    · omega
    · omega
    · exact e

theorem Shuf.more {q q' : Nat → Nat} {n m : Nat} (a : Shuf q q' n) (h : n ≤ m) : Shuf q q' m := by
  refine ⟨fun i hi => ?_, fun j hj => ?_, fun hinj x y hx hy e => ?_, fun x hx => a.rest x (by omega)⟩
  · by_cases e : i < n
    · obtain ⟨j, hj, e2⟩ := a.into i e; exact ⟨j, by omega, e2⟩
    · exact ⟨i, hi, a.rest i (by omega)⟩
  · by_cases e : j < n
    · obtain ⟨i, hi, e2⟩ := a.onto j e; exact ⟨i, by omega, e2⟩
    · exact ⟨j, hj, a.rest j (by omega)⟩
  · by_cases e1 : x < n <;> by_cases e2 : y < n
    · exact a.inj (fun i j hi hj => hinj i j (by omega) (by omega)) x y e1 e2 e
    · obtain ⟨j, hj, e3⟩ := a.into x e1
      rw [e3, a.rest y (by omega)] at e
      have := hinj j y (by omega) hy e; omega
    · obtain ⟨j, hj, e3⟩ := a.into y e2
      rw [e3, a.rest x (by omega)] at e
      have := hinj x j hx (by omega) e; omega
    · rw [a.rest x (by omega), a.rest y (by omega)] at e
      exact hinj x y hx hy e

theorem push_up {c : Nat → Int} {q : Nat → Nat} {n k : Nat} (h : IsHeap c q n) : UpInv c (fun x => if x = n then k else q x) (n + 1) n := by
  constructor
  · intro i h0 hi hne
    have := par_lt h0
    rw [if_neg (by omega : ¬ par i = n), if_neg hne]
    exact h i h0 (by omega)
  · intro i h0 hi hp _
    have := par_lt h0
    omega

theorem pop_down {c : Nat → Int} {q : Nat → Nat} {n : Nat} (h : IsHeap c q (n + 1)) : DownInv c (swapF q 0 n) n 0 := by
  constructor
  · intro k h0 hk hne
    have := par_lt h0
    unfold swapF
    rw [if_neg hne, if_neg (by omega : ¬ par k = n), if_neg (by omega : ¬ k = 0), if_neg (by omega : ¬ k = n)]
    exact h k h0 (by omega)
  · intro k _ _ _ h0
    omega
end Go.Proofs.YtdaigojpeofmpaaGreat
namespace Go.Proofs.YtdaigojpeofmpaaGreat
open Go.RowKit

set_option linter.unusedSimpArgs false

def ptrV (k : Nat) : Value := .pointer (some ⟨k, 0, none⟩)

def ptrs (q : Nat → Nat) (n : Nat) : List Value := (List.range n).map (fun i => ptrV (q i))

theorem ptrs_at {q : Nat → Nat} {n i : Nat} (h : i < n) : (ptrs q n)[i]? = some (ptrV (q i)) := by simp [ptrs, h]

theorem ptrs_len (q : Nat → Nat) (n : Nat) : (ptrs q n).length = n := by simp [ptrs]

/-- the row u of n pointers to ways -/
structure HQ (W : World) (lo : Nat) (u : Value) (n : Nat) (q : Nat → Nat) (wd : Nat → WayD) (wv : Nat → Value) : Prop where
  row : W.ownsRow lo 141 1 u n (ptrs q n)
  way : ∀ i, i < n → W.heap[q i]? = some (.cells (wayC (wd (q i)) (wv (q i))) 73)
  sl : ∀ i, i < n → ∃ a l c, wv (q i) = .slice a l c

theorem HQ.cell {W : World} {lo n : Nat} {u : Value} {q : Nat → Nat} {wd : Nat → WayD} {wv : Nat → Value} (h : HQ W lo u n q wd wv) {i : Nat} (hi : i < n) : ∃ g cap, u = .slice (some ⟨g, 0, none⟩) n cap ∧ W.cell? ⟨g, i, none⟩ = some (ptrV (q i)) ∧ g < W.heap.size := by
  rcases h.row.2 with ⟨_, e⟩ | ⟨g, cap, cur, hv, _⟩
  · omega
  · refine ⟨g, cap, hv, ?_, (h.row.lt g (by rw [hv]; rfl)).2⟩
    have := World.ownsRow.cellAt (by rw [← hv]; exact h.row) i (by omega)
    rw [this, ptrs_at hi]

theorem HQ.below {W W' : World} {lo n : Nat} {u : Value} {q : Nat → Nat} {wd : Nat → WayD} {wv : Nat → Value} (h : HQ W lo u n q wd wv) (hb : Below W.heap.size W W') : HQ W' lo u n q wd wv :=
  ⟨owns_below h.row hb (Nat.le_refl _), fun i hi => (hb.block _ (lt_of_heap (h.way i hi))).trans (h.way i hi), h.sl⟩

set_option maxRecDepth 100000 in
set_option maxHeartbeats 1000000 in
theorem less_any (W : World) (lo n : Nat) (u : Value) (q : Nat → Nat) (wd : Nat → WayD) (wv : Nat → Value) (i j : Nat) (h : HQ W lo u n q wd wv) (hi : i < n) (hj : j < n) :
    Calls Tryz.prog 306 #[u, .int .i64 (i : Int), .int .i64 (j : Int)] W fun e W' => e = .returned (.bool (decide ((wd (q i)).cost < (wd (q j)).cost))) ∧ Below W.heap.size W W' := by
  obtain ⟨g, cap, rfl, ci, hg⟩ := h.cell hi
  obtain ⟨g2, cap2, e2, cj, _⟩ := h.cell hj
  cases e2
  obtain ⟨ai, li, ci2, ei⟩ := h.sl i hi
  obtain ⟨aj, lj, cj2, ej⟩ := h.sl j hj
  have wi := h.way i hi
  have wj := h.way j hj
  rw [ei] at wi
  rw [ej] at wj
  obtain ⟨x, hx⟩ : ∃ x, x = wd (q i) := ⟨_, rfl⟩
  obtain ⟨y, hy⟩ : ∃ y, y = wd (q j) := ⟨_, rfl⟩
  obtain ⟨p, hp⟩ : ∃ p, p = q i := ⟨_, rfl⟩
  obtain ⟨r, hr⟩ : ∃ r, r = q j := ⟨_, rfl⟩
  rw [← hx] at wi ⊢
  rw [← hy] at wj ⊢
  rw [← hp] at ci wi
  rw [← hr] at cj wj
  unfold ptrV at ci cj
  have a0 := cells_at wi 0
  have a1 := cells_at wi 1
  have a2 := cells_at wi 2
  have b0 := cells_at wj 0
  have b1 := cells_at wj 1
  have b2 := cells_at wj 2
  simp [wayC] at a0 a1 a2 b0 b1 b2
  have hBt := hide (fun W => ibetter_any (.slice ai li ci2) (.slice aj lj cj2) x y W)
  unfold wayC betterB at hBt
  have h1 : (0 : Int) ≤ (i : Int) := by omega
  have h2 : (i : Int) < (n : Int) := by omega
  have h3 : (0 : Int) ≤ (j : Int) := by omega
  have h4 : (j : Int) < (n : Int) := by omega
  have lp := lt_of_heap wi
  have lr := lt_of_heap wj
  clear h hx hy hp hr wi wj ei ej
  go_enter Tryz.func306, Tryz.ntmps306
  go_wp2
  go_region_held3 (fun V => V.cell? ⟨g, i, none⟩ = some (.pointer (some ⟨p, 0, none⟩)) ∧ V.cell? ⟨g, j, none⟩ = some (.pointer (some ⟨r, 0, none⟩)) ∧ V.cell? ⟨p, 0, none⟩ = some (.int .i64 x.to) ∧ V.cell? ⟨p, 1, none⟩ = some (.int .i64 x.cost) ∧ V.cell? ⟨p, 2, none⟩ = some (.slice ai li ci2) ∧ V.cell? ⟨r, 0, none⟩ = some (.int .i64 y.to) ∧ V.cell? ⟨r, 1, none⟩ = some (.int .i64 y.cost) ∧ V.cell? ⟨r, 2, none⟩ = some (.slice aj lj cj2)) (first | (refine ⟨?_, ?_, ?_, ?_, ?_, ?_, ?_, ?_⟩ <;> (refine Eq.trans (Below.cell (B := W.heap.size) (w := W.drew) hbb ?_) ?_ <;> assumption)) | go_keep) (first | (go_at_call 48; refine (hBt.out _).mono ?_; rintro e w2 ⟨rfl, hbb⟩))
  go_wp2
  go_ret
  exact ⟨rfl, ((Below.refl W.heap.size W).drew).trans hbb⟩

set_option maxRecDepth 100000 in
set_option maxHeartbeats 1000000 in
theorem len_any (W : World) (a : Option Addr) (n cap : Nat) : Calls Tryz.prog 188 #[.slice a n cap] W fun e W' => e = .returned (.int .i64 (n : Int)) ∧ W = W' := by
  go_enter Tryz.func188, Tryz.ntmps188
  go_wp2
  go_ret
  exact ⟨rfl, rfl⟩

theorem owns_put {W : World} {lo n g cap i : Nat} {e : TypeId} {q : Nat → Nat} (h : W.ownsRow lo e 1 (.slice (some ⟨g, 0, none⟩) n cap) n (ptrs q n)) (hi : i < n) (k : Nat) : (W.setCell ⟨g, i, none⟩ (ptrV k)).ownsRow lo e 1 (.slice (some ⟨g, 0, none⟩) n cap) n (ptrs (fun x => if x = i then k else q x) n) := by
  rcases h.2 with ⟨e1, _⟩ | ⟨g', cap', cur, hv, hg, hh, hnc, hcm, hcs, htk⟩
  · cases e1
  · cases hv
    refine ⟨by rw [ptrs_len]; omega, .inr ⟨g, cap, cur.setIfInBounds i (ptrV k), rfl, hg, heap_setCell_same W g i _ _ _ hh, hnc, hcm, by simpa using hcs, ?_⟩⟩
    have e2 : (cur.setIfInBounds i (ptrV k)).toList = cur.toList.set i (ptrV k) := by simp
    rw [e2, List.take_set]
    have e3 : cur.toList.take (n * 1) = ptrs q n := htk
    rw [Nat.mul_one] at e3 ⊢
    rw [e3]
    apply List.ext_getElem?
    intro x
    rw [List.getElem?_set]
    by_cases hx : x < n
    · rw [ptrs_at hx]
      by_cases e4 : i = x
      · subst e4
        rw [if_pos rfl, if_pos (by rw [ptrs_len]; exact hi), ptrs_at hi, if_pos rfl]
      · rw [if_neg e4, ptrs_at hx, if_neg (fun e => e4 e.symm)]
    · rw [List.getElem?_eq_none (by rw [ptrs_len]; omega), if_neg (by omega), List.getElem?_eq_none (by rw [ptrs_len]; omega)]

set_option maxRecDepth 100000 in
set_option maxHeartbeats 1000000 in
theorem swap_any (W : World) (lo n : Nat) (u : Value) (q : Nat → Nat) (i j : Nat) (h : W.ownsRow lo 141 1 u n (ptrs q n)) (hi : i < n) (hj : j < n) :
    Calls Tryz.prog 307 #[u, .int .i64 (i : Int), .int .i64 (j : Int)] W fun e W' => e = .returned (.tuple #[]) ∧ W'.ownsRow lo 141 1 u n (ptrs (swapF q i j) n) ∧ W.grownBy W' u.ownBlock := by
  rcases h.2 with ⟨_, e⟩ | ⟨g, cap, cur, hv, hg, hh, _⟩
  · omega
  subst hv
  have ci := (World.ownsRow.cellAt h i (by omega)).trans (ptrs_at hi)
  have cj := (World.ownsRow.cellAt h j (by omega)).trans (ptrs_at hj)
  have fz := frozen_at hh
  obtain ⟨p, hp⟩ : ∃ p, p = q i := ⟨_, rfl⟩
  obtain ⟨r, hr⟩ : ∃ r, r = q j := ⟨_, rfl⟩
  rw [← hp] at ci
  rw [← hr] at cj
  unfold ptrV at ci cj
  have h1 : (0 : Int) ≤ (i : Int) := by omega
  have h2 : (i : Int) < (n : Int) := by omega
  have h3 : (0 : Int) ≤ (j : Int) := by omega
  have h4 : (j : Int) < (n : Int) := by omega
  obtain ⟨y, hy⟩ : ∃ y, (W.setCell ⟨g, i, none⟩ (.pointer (some ⟨r, 0, none⟩))).cell? ⟨g, j, none⟩ = some y := by
    have o1 := owns_put h hi r
    exact ⟨_, (World.ownsRow.cellAt o1 j (by omega)).trans (ptrs_at hj)⟩
  have HP := hide hp
  have HR := hide hr
  have HH := hide h
  have HO := hide (show ((W.setCell ⟨g, i, none⟩ (.pointer (some ⟨r, 0, none⟩))).setCell ⟨g, j, none⟩ (.pointer (some ⟨p, 0, none⟩))).ownsRow lo 141 1 (.slice (some ⟨g, 0, none⟩) n cap) n (ptrs (swapF q i j) n) by
    have o2 := owns_put (owns_put h hi r) hj p
    have e : (fun x => if x = j then p else if x = i then r else q x) = swapF q i j := by
      funext x
      unfold swapF
      by_cases e1 : x = j
      · rw [if_pos e1]
        by_cases e2 : x = i
        · rw [if_pos e2, hp, ← e2, e1]
        · rw [if_neg e2, if_pos e1, hp]
      · rw [if_neg e1]
        by_cases e2 : x = i
        · rw [if_pos e2, if_pos e2, hr]
        · rw [if_neg e2, if_neg e2, if_neg e1]
    rw [e] at o2
    exact o2)
  have HG := hide (show W.grownBy ((W.setCell ⟨g, i, none⟩ (.pointer (some ⟨r, 0, none⟩))).setCell ⟨g, j, none⟩ (.pointer (some ⟨p, 0, none⟩))) (some g) from grown_trans (grown_set W g _ _) (grown_set _ g _ _))
  clear hh hp hr h
  go_enter Tryz.func307, Tryz.ntmps307
  go_wp2
  go_region
  go_wp2
  go_returns
  exact ⟨rfl, HO.out.drew, ⟨HG.out.os, HG.out.tape, HG.out.output, HG.out.size, HG.out.block⟩⟩
end Go.Proofs.YtdaigojpeofmpaaGreat
namespace Go.Proofs.YtdaigojpeofmpaaGreat
open Go.RowKit

theorem run_wrapChk {P : Program} {t : TypeId} {p : Addr} {nm : String} {w : World} : (Builtin.ssaWrapNilChk_ #[t] t #[.pointer (some p), strVal "", strVal nm]).run P w = .ok (.pointer (some p)) w := rfl

/-- a method of the value, called through a pointer to it: the receiver is read there -/
theorem run_method_val {P : Program} {fuel : Nat} {t elem e2 : TypeId} {f : FuncId} {i : TypeInfo} {m : Go.Method} {name : String} {p : Addr} {u : Value} {w : World} (hi : P.info? t = some i) (hm : i.methods.find? (·.name == name) = some m) (hp : m.path = #[]) (hf : m.func = some (f, false))
    (hu : P.underlying t = some (.pointer elem)) (hd : P.underlying elem = some (.slice e2)) (hc : w.cell? p = some u) :
    (method (fuel + 1) t (.pointer (some p)) name).run P w = .ok (f, u) w := by
  have hagg : (isAgg elem).run P w = .ok false w := by
    unfold isAgg
    simp [run_underlying hd, go_sem]
  unfold method
  simp [typeInfo, hi, hm, hp, hf, follow, receiverAt, run_underlying hu, Place.get, run_wrapChk, asAddr, hagg, go_sem, loadVar, hc]

theorem run_method_closed {P : Program} {fuel : Nat} {t elem e2 : TypeId} {f : FuncId} {name : String} {p : Addr} {u : Value} {w : World} (h : (P.info? t).map (fun i => (i.methods.find? (·.name == name)).map (fun m => (m.path, m.func))) = some (some (#[], some (f, false))))
    (hu : P.underlying t = some (.pointer elem)) (hd : P.underlying elem = some (.slice e2)) (hc : w.cell? p = some u) :
    (method (fuel + 1) t (.pointer (some p)) name).run P w = .ok (f, u) w := by
  obtain ⟨i, hi, h1⟩ := Option.map_eq_some_iff.1 h
  obtain ⟨m, hm, h2⟩ := Option.map_eq_some_iff.1 h1
  simp only [Prod.mk.injEq] at h2
  exact run_method_val hi hm h2.1 h2.2 hu hd hc

theorem und_ptrHeap : Tryz.prog.underlying 209 = some (.pointer 144) := by kernel_rfl

theorem und_heap : Tryz.prog.underlying 144 = some (.slice 141) := by kernel_rfl

theorem meth_Less {p : Addr} {u : Value} {w : World} (hc : w.cell? p = some u) : (method 428 209 (.pointer (some p)) "Less").run Tryz.prog w = .ok (306, u) w :=
  run_method_closed (by kernel_rfl) und_ptrHeap und_heap hc

theorem meth_Len {p : Addr} {u : Value} {w : World} (hc : w.cell? p = some u) : (method 428 209 (.pointer (some p)) "Len").run Tryz.prog w = .ok (188, u) w :=
  run_method_closed (by kernel_rfl) und_ptrHeap und_heap hc

theorem meth_Swap {p : Addr} {u : Value} {w : World} (hc : w.cell? p = some u) : (method 428 209 (.pointer (some p)) "Swap").run Tryz.prog w = .ok (307, u) w :=
  run_method_closed (by kernel_rfl) und_ptrHeap und_heap hc
end Go.Proofs.YtdaigojpeofmpaaGreat
namespace Go.Proofs.YtdaigojpeofmpaaGreat
open Go.RowKit

set_option linter.unusedSimpArgs false

/-- a finder at z, whose row of what is next is u -/
structure HB (W : World) (lo z : Nat) (C : Array Value) (u : Value) (n : Nat) (q : Nat → Nat) (wd : Nat → WayD) (wv : Nat → Value) : Prop where
  box : W.heap[z]? = some (.cells C 146)
  c7 : C[7]? = some u
  hq : HQ W lo u n q wd wv

theorem HB.cell {W : World} {lo z n : Nat} {C : Array Value} {u : Value} {q : Nat → Nat} {wd : Nat → WayD} {wv : Nat → Value} (h : HB W lo z C u n q wd wv) : W.cell? ⟨z, 7, none⟩ = some u := (cells_at h.box 7).trans h.c7

theorem HB.below {W W' : World} {lo z n : Nat} {C : Array Value} {u : Value} {q : Nat → Nat} {wd : Nat → WayD} {wv : Nat → Value} (h : HB W lo z C u n q wd wv) (hb : Below W.heap.size W W') : HB W' lo z C u n q wd wv :=
  ⟨(hb.block _ (lt_of_heap h.box)).trans h.box, h.c7, h.hq.below hb⟩

theorem HB.shuf {W W' : World} {lo z n : Nat} {C : Array Value} {u : Value} {q q' : Nat → Nat} {wd : Nat → WayD} {wv : Nat → Value} (h : HB W lo z C u n q wd wv) (hg : W.grownBy W' u.ownBlock) (ho : W'.ownsRow lo 141 1 u n (ptrs q' n)) (hs : Shuf q q' n) : HB W' lo z C u n q' wd wv := by
  refine ⟨(hg.block z (lt_of_heap h.box) (own_type_ne2 h.hq.row h.box (by decide))).trans h.box, h.c7, ho, fun i hi => ?_, fun i hi => ?_⟩
  · obtain ⟨j, hj, e⟩ := hs.into i hi
    rw [e]
    have hw := h.hq.way j hj
    exact (hg.block _ (lt_of_heap hw) (own_type_ne2 h.hq.row hw (by decide))).trans hw
  · obtain ⟨j, hj, e⟩ := hs.into i hi
    rw [e]
    exact h.hq.sl j hj

theorem grown_of_below {W W' : World} {r : Option Nat} (hb : Below W.heap.size W W') : W.grownBy W' r := ⟨hb.os, hb.tape, hb.output, hb.size, fun k hk _ => hb.block k hk⟩

set_option maxRecDepth 100000 in
set_option maxHeartbeats 2000000 in
theorem up_any (W : World) (lo z n : Nat) (C : Array Value) (u : Value) (q : Nat → Nat) (wd : Nat → WayD) (wv : Nat → Value) (j : Nat) (h : HB W lo z C u n q wd wv) (hj : j < n) (hn : n ≤ 1048576) (hu : UpInv (fun k => (wd k).cost) q n j) :
    Calls Tryz.prog 234 #[.iface 209 (.pointer (some ⟨z, 7, none⟩)), .int .i64 (j : Int)] W fun e W' => ∃ q', e = .returned (.tuple #[]) ∧ IsHeap (fun k => (wd k).cost) q' n ∧ Shuf q q' n ∧ HB W' lo z C u n q' wd wv ∧ W.grownBy W' u.ownBlock := by
  have HU := hide hu
  have HH := hide h
  clear hu h
  go_enter Tryz.func234, Tryz.ntmps234
  go_wp2
  go_loopw [1] (fun i wr => ∃ (j : Nat) (q' : Nat → Nat), j < n ∧ i = .int .i64 (j : Int) ∧ Hid (UpInv (fun k => (wd k).cost) q' n j) ∧ Hid (Shuf q q' n) ∧ Hid (HB wr lo z C u n q' wd wv) ∧ Hid (W.grownBy wr u.ownBlock)) (fun i _ => (intOf i).toNat)
  case atStart => exact ⟨j, q, hj, rfl, HU, hide (Shuf.refl _ _), HH, hide (grown_refl _ _)⟩
  case round =>
    rename World => wa
    clear HU HH hj
    obtain ⟨j, q', hj, rfl, HU, HS, HH, HG⟩ := hrel
    have cz := HH.out.cell
    by_cases hj0 : j = 0
    · subst hj0
      have HI := hide (up_stop HU.out (.inl rfl))
      go_wp2
      go_returns
      exact ⟨q', rfl, HI.out, HS.out, HH.out, HG.out⟩
    · have hw1 : IntKind.i64.wrap ((j : Int) - 1) = ((j - 1 : Nat) : Int) := by rw [wrap_fit _ (by omega) (by omega)]; omega
      have hw2 : ((j - 1 : Nat) : Int).tdiv 2 = ((par j : Nat) : Int) := by rw [Int.tdiv_eq_ediv_of_nonneg (by omega)]; unfold par; omega
      have hpl : par j < j := par_lt (by omega)
      obtain ⟨p, hp⟩ : ∃ p, p = par j := ⟨_, rfl⟩
      rw [← hp] at hw2 hpl
      have HP := hide hp
      clear hp
      have hne : ((p : Int) == (j : Int)) = false := by
        have h1 : ¬ (p : Int) = (j : Int) := by omega
        simpa using h1
      have hne2 : ¬ (p : Int) = (j : Int) := by omega
      have HL := hide (less_any wa lo n u q' wd wv j p HH.out.hq hj (by omega))
      have mL := meth_Less cz
      by_cases hlt : (wd (q' j)).cost < (wd (q' p)).cost
      · go_wp2_with fail
        refine HL.out.mono ?_
        rintro e w2 ⟨rfl, b2⟩
        rw [decide_eq_true hlt]
        have H2 := HH.out.below b2
        have cz2 := H2.cell
        have mS := meth_Swap cz2
        have HSW := hide (swap_any w2 lo n u q' p j H2.hq.row (by omega) hj)
        have HB2 := hide H2
        have HUP := hide (up_step HU.out (by omega) hj (by rw [← HP.out]; exact hlt))
        rw [← HP.out] at HUP
        have HG2 := hide (grown_trans HG.out (grown_of_below (r := u.ownBlock) b2))
        clear b2 H2 mL
        go_wp2_with fail
        refine HSW.out.mono ?_
        rintro e w3 ⟨rfl, ho3, hg3⟩
        have HB3 := hide (HB2.out.shuf hg3 ho3 (Shuf.swap q' (by omega) hj))
        have HS3 := hide (HS.out.trans (Shuf.swap q' (i := p) (j := j) (by omega) hj))
        have HG3 := hide (grown_trans HG2.out hg3)
        clear ho3 hg3 mS
        go_wp2
        go_roundw
        case rel => exact ⟨p, _, by omega, rfl, HUP, HS3, HB3, HG3⟩
        case measure => simp [intOf]; omega
      · go_wp2_with fail
        refine HL.out.mono ?_
        rintro e w2 ⟨rfl, b2⟩
        rw [decide_eq_false (by omega)]
        have HI := hide (up_stop HU.out (.inr (by rw [← HP.out]; show ¬ (wd (q' j)).cost < (wd (q' p)).cost; omega)))
        have HB2 := hide (HH.out.below b2)
        have HG2 := hide (grown_trans HG.out (grown_of_below (r := u.ownBlock) b2))
        clear b2 mL
        go_wp2
        go_returns
        exact ⟨q', rfl, HI.out, HS.out, HB2.out, HG2.out⟩

/-- the lesser child of i below n -/
theorem kid_min {c : Nat → Int} {q : Nat → Nat} {n i j : Nat} (h1 : 2 * i + 1 < n → c (q j) ≤ c (q (2 * i + 1))) (h2 : 2 * i + 2 < n → c (q j) ≤ c (q (2 * i + 2))) : ∀ k, 0 < k → k < n → par k = i → c (q j) ≤ c (q k) := by
  intro k h0 hk hp
  rcases par_kids h0 hp with rfl | rfl
  · exact h1 hk
  · exact h2 hk

set_option maxRecDepth 100000 in
set_option maxHeartbeats 4000000 in
theorem down_any (W : World) (lo z n m : Nat) (C : Array Value) (u : Value) (q : Nat → Nat) (wd : Nat → WayD) (wv : Nat → Value) (h : HB W lo z C u m q wd wv) (hnm : n ≤ m) (hn : m ≤ 1048576) (hu : DownInv (fun k => (wd k).cost) q n 0) :
    Calls Tryz.prog 235 #[.iface 209 (.pointer (some ⟨z, 7, none⟩)), .int .i64 0, .int .i64 (n : Int)] W fun e W' => ∃ (r : Value) (q' : Nat → Nat), e = .returned r ∧ IsHeap (fun k => (wd k).cost) q' n ∧ Shuf q q' n ∧ HB W' lo z C u m q' wd wv ∧ W.grownBy W' u.ownBlock := by
  have HU := hide hu
  have HH := hide h
  clear hu h
  go_enter Tryz.func235, Tryz.ntmps235
  go_wp2
  go_loopw [7] (fun s wr => ∃ (i : Nat) (q' : Nat → Nat), i ≤ n ∧ s = .int .i64 (i : Int) ∧ Hid (DownInv (fun k => (wd k).cost) q' n i) ∧ Hid (Shuf q q' n) ∧ Hid (HB wr lo z C u m q' wd wv) ∧ Hid (W.grownBy wr u.ownBlock)) (fun s _ => n - (intOf s).toNat)
  case atStart => exact ⟨0, q, by omega, rfl, HU, hide (Shuf.refl _ _), HH, hide (grown_refl _ _)⟩
  case round =>
    rename World => wa
    clear HU HH
    obtain ⟨i, q', hi, rfl, HU, HS, HH, HG⟩ := hrel
    have cz := HH.out.cell
    have hw1 : IntKind.i64.wrap (2 * (i : Int)) = ((2 * i : Nat) : Int) := by rw [wrap_fit _ (by omega) (by omega)]; omega
    have hw2 : IntKind.i64.wrap (((2 * i : Nat) : Int) + 1) = ((2 * i + 1 : Nat) : Int) := by rw [wrap_fit _ (by omega) (by omega)]; omega
    have hw3 : IntKind.i64.wrap (((2 * i + 1 : Nat) : Int) + 1) = ((2 * i + 2 : Nat) : Int) := by rw [wrap_fit _ (by omega) (by omega)]; omega
    obtain ⟨j1, hj1⟩ : ∃ j, j = 2 * i + 1 := ⟨_, rfl⟩
    obtain ⟨j2, hj2⟩ : ∃ j, j = 2 * i + 2 := ⟨_, rfl⟩
    obtain ⟨i2, hi2⟩ : ∃ j, j = 2 * i := ⟨_, rfl⟩
    rw [← hj1] at hw2 hw3
    rw [← hi2] at hw1 hw2
    rw [← hj2] at hw3
    have HJ1 := hide hj1
    have HJ2 := hide hj2
    have hij : i < j1 := by omega
    have hj12 : j2 = j1 + 1 := by omega
    have HJ12 := hide hj12
    have hj1n : ¬ (j1 : Int) < 0 := by omega
    clear hj1 hj2 hi2
    by_cases hlt : j1 < n
    · clear hj12
      have hij2 : i < j2 := by have := HJ12.out; omega
      have hge : ¬ (n : Int) ≤ (j1 : Int) := by omega
      have hged : decide ((j1 : Int) ≥ (n : Int)) = false := by simp; omega
      have hged2 : decide ((n : Int) ≤ (j1 : Int)) = false := by simp; omega
      by_cases hlt2 : j2 < n
      · have hl2 : (j2 : Int) < (n : Int) := by omega
        have mL := meth_Less cz
        have HL := hide (less_any wa lo m u q' wd wv j2 j1 HH.out.hq (by omega) (by omega))
        by_cases hc21 : (wd (q' j2)).cost < (wd (q' j1)).cost
        · go_wp2_with fail
          refine HL.out.mono ?_
          rintro e w2 ⟨rfl, b2⟩
          rw [decide_eq_true hc21]
          have HB2 := hide (HH.out.below b2)
          have HG2 := hide (grown_trans HG.out (grown_of_below (r := u.ownBlock) b2))
          clear b2 mL cz HL
          have hlJ : j2 < n := by omega
          have cz5 := HB2.out.cell
          have mL5 := meth_Less cz5
          have HL5 := hide (less_any w2 lo m u q' wd wv j2 i HB2.out.hq (by omega) (by omega))
          have KM := hide (kid_min (c := fun k => (wd k).cost) (q := q') (n := n) (i := i) (j := j2) (fun _ => by rw [← HJ1.out]; exact Int.le_of_lt hc21) (fun _ => by rw [← HJ2.out]; exact Int.le_refl _))
          by_cases hlt5 : (wd (q' j2)).cost < (wd (q' i)).cost
          · go_wp2_with fail
            refine HL5.out.mono ?_
            rintro e w6 ⟨rfl, b6⟩
            rw [decide_eq_true hlt5]
            have H6 := HB2.out.below b6
            have cz6 := H6.cell
            have mS := meth_Swap cz6
            have HSW := hide (swap_any w6 lo m u q' i j2 H6.hq.row (by omega) (by omega))
            have HB6 := hide H6
            have HDN := hide (down_step HU.out (j := j2) (by omega) hlJ (by unfold par; have := HJ1.out; have := HJ2.out; omega) hlt5 KM.out)
            have HG6 := hide (grown_trans HG2.out (grown_of_below (r := u.ownBlock) b6))
            clear b6 H6 mL5 cz5
            go_wp2_with fail
            refine HSW.out.mono ?_
            rintro e w7 ⟨rfl, ho7, hg7⟩
            have HB7 := hide (HB6.out.shuf hg7 ho7 (Shuf.swap q' (by omega) (by omega)))
            have HS7 := hide (HS.out.trans (Shuf.swap q' (i := i) (j := j2) (by omega) hlJ))
            have HG7 := hide (grown_trans HG6.out hg7)
            clear ho7 hg7 mS
            go_wp2
            go_roundw
            case rel => exact ⟨j2, _, by omega, rfl, HDN, HS7, HB7, HG7⟩
            case measure => simp [intOf]; omega
          · go_wp2_with fail
            refine HL5.out.mono ?_
            rintro e w6 ⟨rfl, b6⟩
            rw [decide_eq_false (by omega)]
            have hle5 : (wd (q' i)).cost ≤ (wd (q' j2)).cost := by omega
            have HI := hide (down_stop HU.out (fun k h0 hk hp => Int.le_trans hle5 (KM.out k h0 hk hp)))
            have HB6 := hide (HB2.out.below b6)
            have HG6 := hide (grown_trans HG2.out (grown_of_below (r := u.ownBlock) b6))
            clear b6 mL5 cz5
            go_wp2
            go_returns
            first
              | exact ⟨_, q', rfl, HI.out, HS.out, HB6.out, HG6.out⟩
              | exact ⟨_, rfl, q', HI.out, HS.out, HB6.out, HG6.out⟩
        · go_wp2_with fail
          refine HL.out.mono ?_
          rintro e w2 ⟨rfl, b2⟩
          rw [decide_eq_false (by omega)]
          have hc21' : (wd (q' j1)).cost ≤ (wd (q' j2)).cost := by omega
          have HB2 := hide (HH.out.below b2)
          have HG2 := hide (grown_trans HG.out (grown_of_below (r := u.ownBlock) b2))
          clear b2 mL cz HL
          have hlJ : j1 < n := by omega
          have cz5 := HB2.out.cell
          have mL5 := meth_Less cz5
          have HL5 := hide (less_any w2 lo m u q' wd wv j1 i HB2.out.hq (by omega) (by omega))
          have KM := hide (kid_min (c := fun k => (wd k).cost) (q := q') (n := n) (i := i) (j := j1) (fun _ => by rw [← HJ1.out]; exact Int.le_refl _) (fun _ => by rw [← HJ2.out]; exact hc21'))
          by_cases hlt5 : (wd (q' j1)).cost < (wd (q' i)).cost
          · go_wp2_with fail
            refine HL5.out.mono ?_
            rintro e w6 ⟨rfl, b6⟩
            rw [decide_eq_true hlt5]
            have H6 := HB2.out.below b6
            have cz6 := H6.cell
            have mS := meth_Swap cz6
            have HSW := hide (swap_any w6 lo m u q' i j1 H6.hq.row (by omega) (by omega))
            have HB6 := hide H6
            have HDN := hide (down_step HU.out (j := j1) (by omega) hlJ (by unfold par; have := HJ1.out; have := HJ2.out; omega) hlt5 KM.out)
            have HG6 := hide (grown_trans HG2.out (grown_of_below (r := u.ownBlock) b6))
            clear b6 H6 mL5 cz5
            go_wp2_with fail
            refine HSW.out.mono ?_
            rintro e w7 ⟨rfl, ho7, hg7⟩
            have HB7 := hide (HB6.out.shuf hg7 ho7 (Shuf.swap q' (by omega) (by omega)))
            have HS7 := hide (HS.out.trans (Shuf.swap q' (i := i) (j := j1) (by omega) hlJ))
            have HG7 := hide (grown_trans HG6.out hg7)
            clear ho7 hg7 mS
            go_wp2
            go_roundw
            case rel => exact ⟨j1, _, by omega, rfl, HDN, HS7, HB7, HG7⟩
            case measure => simp [intOf]; omega
          · go_wp2_with fail
            refine HL5.out.mono ?_
            rintro e w6 ⟨rfl, b6⟩
            rw [decide_eq_false (by omega)]
            have hle5 : (wd (q' i)).cost ≤ (wd (q' j1)).cost := by omega
            have HI := hide (down_stop HU.out (fun k h0 hk hp => Int.le_trans hle5 (KM.out k h0 hk hp)))
            have HB6 := hide (HB2.out.below b6)
            have HG6 := hide (grown_trans HG2.out (grown_of_below (r := u.ownBlock) b6))
            clear b6 mL5 cz5
            go_wp2
            go_returns
            first
              | exact ⟨_, q', rfl, HI.out, HS.out, HB6.out, HG6.out⟩
              | exact ⟨_, rfl, q', HI.out, HS.out, HB6.out, HG6.out⟩
      · have hl2 : ¬ (j2 : Int) < (n : Int) := by omega
        have hlJ : j1 < n := by omega
        have cz5 := HH.out.cell
        have mL5 := meth_Less cz5
        have HL5 := hide (less_any wa lo m u q' wd wv j1 i HH.out.hq (by omega) (by omega))
        have KM := hide (kid_min (c := fun k => (wd k).cost) (q := q') (n := n) (i := i) (j := j1) (fun _ => by rw [← HJ1.out]; exact Int.le_refl _) (fun h => by have := HJ2.out; omega))
        by_cases hlt5 : (wd (q' j1)).cost < (wd (q' i)).cost
        · go_wp2_with fail
          refine HL5.out.mono ?_
          rintro e w6 ⟨rfl, b6⟩
          rw [decide_eq_true hlt5]
          have H6 := HH.out.below b6
          have cz6 := H6.cell
          have mS := meth_Swap cz6
          have HSW := hide (swap_any w6 lo m u q' i j1 H6.hq.row (by omega) (by omega))
          have HB6 := hide H6
          have HDN := hide (down_step HU.out (j := j1) (by omega) hlJ (by unfold par; have := HJ1.out; have := HJ2.out; omega) hlt5 KM.out)
          have HG6 := hide (grown_trans HG.out (grown_of_below (r := u.ownBlock) b6))
          clear b6 H6 mL5 cz5
          go_wp2_with fail
          refine HSW.out.mono ?_
          rintro e w7 ⟨rfl, ho7, hg7⟩
          have HB7 := hide (HB6.out.shuf hg7 ho7 (Shuf.swap q' (by omega) (by omega)))
          have HS7 := hide (HS.out.trans (Shuf.swap q' (i := i) (j := j1) (by omega) hlJ))
          have HG7 := hide (grown_trans HG6.out hg7)
          clear ho7 hg7 mS
          go_wp2
          go_roundw
          case rel => exact ⟨j1, _, by omega, rfl, HDN, HS7, HB7, HG7⟩
          case measure => simp [intOf]; omega
        · go_wp2_with fail
          refine HL5.out.mono ?_
          rintro e w6 ⟨rfl, b6⟩
          rw [decide_eq_false (by omega)]
          have hle5 : (wd (q' i)).cost ≤ (wd (q' j1)).cost := by omega
          have HI := hide (down_stop HU.out (fun k h0 hk hp => Int.le_trans hle5 (KM.out k h0 hk hp)))
          have HB6 := hide (HH.out.below b6)
          have HG6 := hide (grown_trans HG.out (grown_of_below (r := u.ownBlock) b6))
          clear b6 mL5 cz5
          go_wp2
          go_returns
          first
            | exact ⟨_, q', rfl, HI.out, HS.out, HB6.out, HG6.out⟩
            | exact ⟨_, rfl, q', HI.out, HS.out, HB6.out, HG6.out⟩
    · clear hj12
      have hge : (n : Int) ≤ (j1 : Int) := by omega
      have HI := hide (down_stop HU.out (fun k h0 hk hp => by rcases par_kids h0 hp with e | e <;> (have := HJ1.out; omega)))
      go_wp2
      go_returns
      first
        | exact ⟨_, q', rfl, HI.out, HS.out, HH.out, HG.out⟩
        | exact ⟨_, rfl, q', HI.out, HS.out, HH.out, HG.out⟩
        | exact ⟨⟨_, rfl⟩, q', HI.out, HS.out, HH.out, HG.out⟩
end Go.Proofs.YtdaigojpeofmpaaGreat
