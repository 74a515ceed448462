/-
  laws.newest, laws.sameStore: their contracts.
  spec.Find, impl.Find: their contracts.
  Records put into a store in any order: the plain mathematics.
  impl.Newer: its contract.
  Two stores merged: the plain mathematics.
  spec.l05Store, DrawStores: right stores.
  Headers of what is in scope: the mathematics (cut out of HdLaw).
-/
import Derived.Test.YtchmmekhfcojgaaGreatDoorPq14
import Derived.Test.YtchmmekhfcojgaaGreatDoorPq18
import Derived.Test.YtchmmekhfcojgaaGreatDoorPq4
import Derived.Test.YtchmmekhfcojgaaGreatDoorPq11
import Derived.Test.YtchmmekhfcojgaaGreatDoorPq3
namespace Go.Proofs.YtchmmekhfcojgaaGreatDoor
open Go.RowKit

set_option linter.unusedSimpArgs false

def newStep (r : RecD) (m : Int) (x : RecD) : Int := if sameKeyB x r && decide (m < x.seq) then x.seq else m

/-- the greatest Seq of a key, 0 without one -/
def newestD (xs : List RecD) (r : RecD) : Int := xs.foldl (newStep r) 0

theorem newStep_no {r x : RecD} {m : Int} (h : sameKeyB x r = false) : newStep r m x = m := by unfold newStep; rw [h]; rfl

theorem newStep_old {r x : RecD} {m : Int} (h : ¬ m < x.seq) : newStep r m x = m := by unfold newStep; rw [decide_eq_false h]; simp

theorem newStep_new {r x : RecD} {m : Int} (h : sameKeyB x r = true) (h2 : m < x.seq) : newStep r m x = x.seq := by unfold newStep; rw [h, decide_eq_true h2]; rfl

set_option maxRecDepth 100000 in
set_option maxHeartbeats 4000000 in
theorem sameStore_any (v1 v2 : Value) (ps qs : List RP) (hi : Nat) (w : World) (h1 : RecsIn w hi v1 ps) (h2 : RecsIn w hi v2 qs) (he : fsts ps = fsts qs) (hhi : hi ≤ w.heap.size) (hn : tot ps ≤ 1048576) :
    Calls Tryz.prog 10 #[v1, v2] w fun e w' => e = .returned (.bool true) ∧ Below w.heap.size w w' := by
  have hnl := tot_len ps
  have hel : ps.length = qs.length := by have := congrArg List.length he; simpa [fsts] using this
  obtain ⟨a1, c1, rfl⟩ := owns_lenS h1.row
  obtain ⟨a2, c2, rfl⟩ := owns_lenS h2.row
  have HV := hide h1
  have HW := hide h2
  have HE := hide he
  have hei : (ps.length : Int) = (qs.length : Int) := by omega
  have HEL := hide hel
  clear h1 h2 he hel
  go_enter Tryz.func10, Tryz.ntmps10
  go_wp2
  go_loopw [5] (fun i wr => ∃ (k : Nat), k ≤ ps.length ∧ i = .int .i64 k ∧ Below w.heap.size w wr) (fun i _ => ps.length - (intOf i).toNat)
  case atStart => exact ⟨0, by omega, rfl, Below.refl _ _⟩
  case round =>
    obtain ⟨k, hk, rfl, hnx⟩ := hrel
    have hsz := hnx.size
    by_cases hlt : k < ps.length
    · obtain ⟨p, hp⟩ : ∃ p, ps[k]? = some p := ⟨ps[k], List.getElem?_eq_getElem hlt⟩
      obtain ⟨q, hq⟩ : ∃ q, qs[k]? = some q := ⟨qs[k]'(by have := HEL.out; omega), List.getElem?_eq_getElem (by have := HEL.out; omega)⟩
      have hpq : p.1 = q.1 := by
        have e1 := fsts_at hp
        have e2 := fsts_at hq
        rw [HE.out, e2] at e1
        exact (Option.some.inj e1).symm
      obtain ⟨b, off, cap', hve, hbb, c0, c1, c2, c3, c4, c5, c6, c7, hn1⟩ := HV.out.at.cells k p hp
      cases hve
      obtain ⟨b2, off2, cap2, hve2, hbb2, d0, d1, d2, d3, d4, d5, d6, d7, hn2⟩ := HW.out.at.cells k q hq
      cases hve2
      rw [← hnx.cell (p := ⟨b, off + k * 8, none⟩) (Nat.lt_of_lt_of_le hbb hhi)] at c0
      rw [← hnx.cell (p := ⟨b, off + k * 8 + 1, none⟩) (Nat.lt_of_lt_of_le hbb hhi)] at c1
      rw [← hnx.cell (p := ⟨b, off + k * 8 + 2, none⟩) (Nat.lt_of_lt_of_le hbb hhi)] at c2
      rw [← hnx.cell (p := ⟨b, off + k * 8 + 3, none⟩) (Nat.lt_of_lt_of_le hbb hhi)] at c3
      rw [← hnx.cell (p := ⟨b, off + k * 8 + 4, none⟩) (Nat.lt_of_lt_of_le hbb hhi)] at c4
      rw [← hnx.cell (p := ⟨b, off + k * 8 + 5, none⟩) (Nat.lt_of_lt_of_le hbb hhi)] at c5
      rw [← hnx.cell (p := ⟨b, off + k * 8 + 6, none⟩) (Nat.lt_of_lt_of_le hbb hhi)] at c6
      rw [← hnx.cell (p := ⟨b, off + k * 8 + 7, none⟩) (Nat.lt_of_lt_of_le hbb hhi)] at c7
      rw [← hnx.cell (p := ⟨b2, off2 + k * 8, none⟩) (Nat.lt_of_lt_of_le hbb2 hhi)] at d0
      rw [← hnx.cell (p := ⟨b2, off2 + k * 8 + 1, none⟩) (Nat.lt_of_lt_of_le hbb2 hhi)] at d1
      rw [← hnx.cell (p := ⟨b2, off2 + k * 8 + 2, none⟩) (Nat.lt_of_lt_of_le hbb2 hhi)] at d2
      rw [← hnx.cell (p := ⟨b2, off2 + k * 8 + 3, none⟩) (Nat.lt_of_lt_of_le hbb2 hhi)] at d3
      rw [← hnx.cell (p := ⟨b2, off2 + k * 8 + 4, none⟩) (Nat.lt_of_lt_of_le hbb2 hhi)] at d4
      rw [← hnx.cell (p := ⟨b2, off2 + k * 8 + 5, none⟩) (Nat.lt_of_lt_of_le hbb2 hhi)] at d5
      rw [← hnx.cell (p := ⟨b2, off2 + k * 8 + 6, none⟩) (Nat.lt_of_lt_of_le hbb2 hhi)] at d6
      rw [← hnx.cell (p := ⟨b2, off2 + k * 8 + 7, none⟩) (Nat.lt_of_lt_of_le hbb2 hhi)] at d7
      have hb1 : b < wr.heap.size := by omega
      have hb2 : b2 < wr.heap.size := by omega
      have hki : (0 : Int) ≤ (k : Int) := by omega
      have hkj : (k : Int) < (ps.length : Int) := by omega
      have hkq : (k : Int) < (qs.length : Int) := by omega
      have HSM := hide (fun W (hb : Below w.heap.size w W) => same_any p.1 p.2 q.2 W ((RowAt.later hn1 hb hhi).more (by have := hb.size; omega)) ((RowAt.later (B := hi) (by rw [hpq]; exact hn2) hb hhi).more (by have := hb.size; omega)) (by have := tot_mem (List.mem_of_getElem? hp); omega))
      unfold recC at HSM
      rw [← hpq] at d0 d1 d2 d3 d4 d6 d7
      have hnd : Below w.heap.size w wr.drew := hnx.drew
      clear hp hq hpq hn1 hn2 hei
      go_wp2
      go_region_held3 (fun W => W.cell? ⟨b, off + k * 8, none⟩ = some (.int .i64 p.1.area) ∧ W.cell? ⟨b, off + k * 8 + 1, none⟩ = some (.int .i64 p.1.kind) ∧ W.cell? ⟨b, off + k * 8 + 2, none⟩ = some (.int .i64 p.1.owner) ∧ W.cell? ⟨b, off + k * 8 + 3, none⟩ = some (.int .i64 p.1.key) ∧ W.cell? ⟨b, off + k * 8 + 4, none⟩ = some (.int .i64 p.1.seq) ∧ W.cell? ⟨b, off + k * 8 + 5, none⟩ = some (p.2) ∧ W.cell? ⟨b, off + k * 8 + 6, none⟩ = some (.int .i64 p.1.cost) ∧ W.cell? ⟨b, off + k * 8 + 7, none⟩ = some (.bool p.1.far) ∧ W.cell? ⟨b2, off2 + k * 8, none⟩ = some (.int .i64 p.1.area) ∧ W.cell? ⟨b2, off2 + k * 8 + 1, none⟩ = some (.int .i64 p.1.kind) ∧ W.cell? ⟨b2, off2 + k * 8 + 2, none⟩ = some (.int .i64 p.1.owner) ∧ W.cell? ⟨b2, off2 + k * 8 + 3, none⟩ = some (.int .i64 p.1.key) ∧ W.cell? ⟨b2, off2 + k * 8 + 4, none⟩ = some (.int .i64 p.1.seq) ∧ W.cell? ⟨b2, off2 + k * 8 + 5, none⟩ = some (q.2) ∧ W.cell? ⟨b2, off2 + k * 8 + 6, none⟩ = some (.int .i64 p.1.cost) ∧ W.cell? ⟨b2, off2 + k * 8 + 7, none⟩ = some (.bool p.1.far)) (first | go_keep | (refine ⟨?_, ?_, ?_, ?_, ?_, ?_, ?_, ?_, ?_, ?_, ?_, ?_, ?_, ?_, ?_, ?_⟩ <;> (rw [hbc.cell (by assumption)]; assumption))) (first | (go_at_call 25; refine (HSM.out _ hnd).mono ?_; rintro e w1 ⟨rfl, hbc⟩))
      go_wp2
      go_roundw
      case rel => exact ⟨k + 1, by omega, by go_num, hnd.trans (hbc.mono hsz)⟩
      case measure => simp [intOf]; omega
    · go_wp2
      go_ret
      exact ⟨rfl, hnx⟩
end Go.Proofs.YtchmmekhfcojgaaGreatDoor
namespace Go.Proofs.YtchmmekhfcojgaaGreatDoor
open Go.RowKit

set_option linter.unusedSimpArgs false

end Go.Proofs.YtchmmekhfcojgaaGreatDoor
namespace Go.Proofs.YtchmmekhfcojgaaGreatDoor
open Go.RowKit

theorem same_symm {x y : RecD} (h : sameKeyB x y = true) : sameKeyB y x = true := by
  unfold sameKeyB at *
  simp only [Bool.and_eq_true, beq_iff_eq] at *
  omega

theorem same_trans {x y z : RecD} (h : sameKeyB x y = true) (h2 : sameKeyB y z = true) : sameKeyB x z = true := by
  unfold sameKeyB at *
  simp only [Bool.and_eq_true, beq_iff_eq] at *
  omega

theorem same_refl (x : RecD) : sameKeyB x x = true := by simp [sameKeyB]

theorem bef_not_same {x y : RecD} (h : beforeB x y = true) : sameKeyB x y = false := by
  cases hs : sameKeyB x y with
  | false => rfl
  | true => rw [(bef_irrefl_same hs).1] at h; cases h

/-- of one key there is one -/
theorem asc_uniq {xs : List RecD} (h : Asc xs) {x y : RecD} (hx : x ∈ xs) (hy : y ∈ xs) (hs : sameKeyB x y = true) : x = y := by
  unfold Asc at h
  rw [List.pairwise_iff_getElem] at h
  obtain ⟨i, hi, ei⟩ := List.getElem_of_mem hx
  obtain ⟨j, hj, ej⟩ := List.getElem_of_mem hy
  rcases Nat.lt_trichotomy i j with hij | hij | hij
  · have h1 := h i j hi hj hij
    rw [ei, ej] at h1
    rw [bef_not_same h1] at hs
    cases hs
  · subst hij
    rw [← ei, ← ej]
  · have h1 := h j i hj hi hij
    rw [ei, ej] at h1
    have h2 := bef_not_same h1
    rw [same_symm hs] at h2
    cases h2

theorem atZ_neg {xs : List RecD} {r : RecD} (h : atZ xs r = -1) : ∀ x ∈ xs, sameKeyB x r = false := by
  intro x hx
  unfold atZ at h
  cases e : xs.findIdx? (fun x => sameKeyB x r) with
  | none =>
    rw [List.findIdx?_eq_none_iff] at e
    simpa using e x hx
  | some i => rw [e] at h; simp only [] at h; omega

theorem takes_seq {xs : List RecD} {r x : RecD} (ha : Asc xs) (h : takesB xs r = true) (hx : x ∈ xs) (hs : sameKeyB x r = true) : x.seq < r.seq := by
  rcases atZ_cases xs r with hz | ⟨j, y, hz, hy, hys⟩
  · rw [atZ_neg hz x hx] at hs; cases hs
  · rw [takes_at (takes_ok h) hz hy] at h
    have e : x = y := asc_uniq ha hx (List.mem_of_getElem? hy) (same_trans hs (same_symm hys))
    rw [e]
    simpa using h

theorem takes_not {xs : List RecD} {r : RecD} (hr : recOkB r = true) (hl : xs.length < 150) (h : takesB xs r = false) : ∃ x ∈ xs, sameKeyB x r = true ∧ r.seq ≤ x.seq := by
  rcases atZ_cases xs r with hz | ⟨j, y, hz, hy, hys⟩
  · rw [takes_none hr hz, decide_eq_true hl] at h; cases h
  · rw [takes_at hr hz hy] at h
    exact ⟨y, List.mem_of_getElem? hy, hys, by simpa using h⟩

theorem mem_putD {xs : List RecD} {r x : RecD} : x ∈ putD xs r ↔ (x ∈ xs ∧ beforeB x r = true) ∨ x = r ∨ (x ∈ xs ∧ beforeB r x = true) := by
  unfold putD
  simp

theorem two_filters (f g : RecD → Bool) (hfg : ∀ x, f x = true → g x = false) (xs : List RecD) : (xs.filter f).length + (xs.filter g).length ≤ xs.length := by
  induction xs with
  | nil => simp
  | cons x xs ih =>
    rw [List.filter_cons, List.filter_cons, List.length_cons]
    cases hf : f x with
    | true => rw [hfg x hf]; simp; omega
    | false =>
      cases g x with
      | true => simp; omega
      | false => simp; omega

theorem len_instD (xs : List RecD) (r : RecD) : (instD xs r).length ≤ xs.length + 1 := by
  unfold instD
  split
  · unfold putD
    have h := two_filters (fun x => beforeB x r) (fun x => beforeB r x) (fun x h => before_asym h) xs
    simp only [List.length_append, List.length_cons, List.length_nil]
    omega
  · omega

/-- what comes of putting ls into a store, one by one -/
structure Made (ls a : List RecD) : Prop where
  asc : Asc a
  sub : ∀ x ∈ a, x ∈ ls
  all : ∀ y ∈ ls, ∃ x ∈ a, sameKeyB x y = true ∧ y.seq ≤ x.seq

theorem Made.nil : Made [] [] := ⟨List.Pairwise.nil, by simp, by simp⟩

theorem Made.step {ls a : List RecD} {r : RecD} (h : Made ls a) (hr : recOkB r = true) (hl : a.length < 150) : Made (ls ++ [r]) (instD a r) := by
  cases ht : takesB a r with
  | false =>
    have e : instD a r = a := by unfold instD; rw [ht]; rfl
    rw [e]
    refine ⟨h.asc, fun x hx => List.mem_append_left _ (h.sub x hx), ?_⟩
    intro y hy
    rcases List.mem_append.1 hy with h1 | h1
    · exact h.all y h1
    · have : y = r := by simpa using h1
      subst this
      exact takes_not hr hl ht
  | true =>
    have e : instD a r = putD a r := by unfold instD; rw [ht]; rfl
    rw [e]
    refine ⟨asc_putD h.asc r, ?_, ?_⟩
    · intro x hx
      rcases mem_putD.1 hx with h1 | h1 | h1
      · exact List.mem_append_left _ (h.sub x h1.1)
      · rw [h1]; simp
      · exact List.mem_append_left _ (h.sub x h1.1)
    · intro y hy
      rcases List.mem_append.1 hy with h1 | h1
      · obtain ⟨x, hx, hs, hq⟩ := h.all y h1
        rcases bef_tri x r with h2 | h2 | h2
        · exact ⟨x, mem_putD.2 (.inl ⟨hx, h2⟩), hs, hq⟩
        · have h3 := takes_seq h.asc ht hx h2
          exact ⟨r, mem_putD.2 (.inr (.inl rfl)), same_trans (same_symm h2) hs, by omega⟩
        · exact ⟨x, mem_putD.2 (.inr (.inr ⟨hx, h2⟩)), hs, hq⟩
      · have : y = r := by simpa using h1
        subst this
        exact ⟨y, mem_putD.2 (.inr (.inl rfl)), same_refl y, Int.le_refl _⟩

theorem Made.store {ls a : List RecD} (h : Made ls a) (hok : ∀ x ∈ ls, recOkB x = true) (hl : a.length ≤ 150) : storeB a = true := by
  unfold storeB
  rw [decide_eq_true hl, asc_back h.asc]
  have e : allOk recOkB a = true := all_true fun j hj => by
    unfold okAt
    rw [List.getElem?_eq_getElem hj]
    exact hok _ (h.sub _ (List.getElem_mem hj))
  rw [e]
  rfl

theorem newest_gen (r : RecD) : ∀ (xs : List RecD) (m : Int), m ≤ xs.foldl (newStep r) m ∧ (∀ x ∈ xs, sameKeyB x r = true → x.seq ≤ xs.foldl (newStep r) m) ∧ (xs.foldl (newStep r) m = m ∨ ∃ x ∈ xs, sameKeyB x r = true ∧ x.seq = xs.foldl (newStep r) m) := by
  intro xs
  induction xs with
  | nil => intro m; simp
  | cons y xs ih =>
    intro m
    rw [List.foldl_cons]
    obtain ⟨h1, h2, h3⟩ := ih (newStep r m y)
    cases hs : sameKeyB y r with
    | false =>
      rw [newStep_no hs] at *
      refine ⟨h1, ?_, ?_⟩
      · intro x hx hk
        rcases List.mem_cons.1 hx with rfl | h4
        · rw [hs] at hk; cases hk
        · exact h2 x h4 hk
      · rcases h3 with h3 | ⟨x, hx, h4⟩
        · exact .inl h3
        · exact .inr ⟨x, List.mem_cons_of_mem _ hx, h4⟩
    | true =>
      by_cases hm : m < y.seq
      · rw [newStep_new hs hm] at *
        refine ⟨by omega, ?_, ?_⟩
        · intro x hx hk
          rcases List.mem_cons.1 hx with rfl | h4
          · exact h1
          · exact h2 x h4 hk
        · rcases h3 with h3 | ⟨x, hx, h4⟩
          · exact .inr ⟨y, List.mem_cons_self .., hs, h3.symm⟩
          · exact .inr ⟨x, List.mem_cons_of_mem _ hx, h4⟩
      · rw [newStep_old hm] at *
        refine ⟨h1, ?_, ?_⟩
        · intro x hx hk
          rcases List.mem_cons.1 hx with rfl | h4
          · omega
          · exact h2 x h4 hk
        · rcases h3 with h3 | ⟨x, hx, h4⟩
          · exact .inl h3
          · exact .inr ⟨x, List.mem_cons_of_mem _ hx, h4⟩

theorem newest_eq {xs : List RecD} {r x : RecD} (hx : x ∈ xs) (hs : sameKeyB x r = true) (h0 : 0 ≤ x.seq) (hall : ∀ y ∈ xs, sameKeyB y r = true → y.seq ≤ x.seq) : newestD xs r = x.seq := by
  obtain ⟨h1, h2, h3⟩ := newest_gen r xs 0
  unfold newestD
  have h4 := h2 x hx hs
  rcases h3 with h3 | ⟨y, hy, hk, e⟩
  · omega
  · have := hall y hy hk; omega

theorem ok_seq {x : RecD} (h : recOkB x = true) : 1 ≤ x.seq := by
  unfold recOkB inB at h
  simp only [Bool.and_eq_true, decide_eq_true_eq] at h
  omega

end Go.Proofs.YtchmmekhfcojgaaGreatDoor
namespace Go.Proofs.YtchmmekhfcojgaaGreatDoor
open Go.RowKit

set_option linter.unusedSimpArgs false

end Go.Proofs.YtchmmekhfcojgaaGreatDoor
namespace Go.Proofs.YtchmmekhfcojgaaGreatDoor
open Go.RowKit

/-- what Merge makes of two right stores -/
structure Merged (A B M : List RecD) : Prop where
  made : Made (A ++ B) M
  sto : storeB M = true
  okA : storeB A = true
  okB : storeB B = true
  lenM : M.length ≤ 60

theorem made_self {A : List RecD} (h : Asc A) : Made A A := ⟨h, fun _ hx => hx, fun y hy => ⟨y, hy, same_refl y, Int.le_refl _⟩⟩

theorem newest_le {xs : List RecD} {r : RecD} {s : Int} (h0 : 0 ≤ s) (h : ∀ z ∈ xs, sameKeyB z r = true → z.seq ≤ s) : newestD xs r ≤ s := by
  obtain ⟨h1, h2, h3⟩ := newest_gen r xs 0
  unfold newestD
  rcases h3 with h3 | ⟨x, hx, hk, e⟩
  · omega
  · have := h x hx hk; omega

theorem Merged.ok {A B M : List RecD} (h : Merged A B M) : ∀ x ∈ A ++ B, recOkB x = true := by
  intro x hx
  rcases List.mem_append.1 hx with h1 | h1
  · exact (store_ok h.okA).2.1 x h1
  · exact (store_ok h.okB).2.1 x h1

theorem Merged.le {A B M : List RecD} (h : Merged A B M) {y z : RecD} (hy : y ∈ M) (hz : z ∈ A ++ B) (hs : sameKeyB z y = true) : z.seq ≤ y.seq := by
  obtain ⟨x, hx, h1, h2⟩ := h.made.all z hz
  rw [asc_uniq h.made.asc hx hy (same_trans h1 hs)] at h2
  exact h2

/-- each Seq of the merged one is the greater of the two -/
theorem Merged.most {A B M : List RecD} (h : Merged A B M) {y : RecD} (hy : y ∈ M) : (if newestD A y < newestD B y then newestD B y else newestD A y) = y.seq := by
  have h0 := ok_seq (h.ok y (h.made.sub y hy))
  have hA : newestD A y ≤ y.seq := newest_le (by omega) (fun z hz hs => h.le hy (List.mem_append_left _ hz) hs)
  have hB : newestD B y ≤ y.seq := newest_le (by omega) (fun z hz hs => h.le hy (List.mem_append_right _ hz) hs)
  rcases List.mem_append.1 (h.made.sub y hy) with h1 | h1
  · have e := newest_eq h1 (same_refl y) (by omega) (fun z hz hs => h.le hy (List.mem_append_left _ hz) hs)
    split <;> omega
  · have e := newest_eq h1 (same_refl y) (by omega) (fun z hz hs => h.le hy (List.mem_append_right _ hz) hs)
    split <;> omega

/-- a right store that takes a right record is one -/
theorem store_instD {xs : List RecD} {r : RecD} (h : storeB xs = true) (hr : recOkB r = true) (hl : xs.length < 150) : storeB (instD xs r) = true := by
  have h3 := store_ok h
  have hm := (made_self h3.2.2).step hr hl
  refine hm.store ?_ (by have := len_instD xs r; omega)
  intro x hx
  rcases List.mem_append.1 hx with h1 | h1
  · exact h3.2.1 x h1
  · have : x = r := by simpa using h1
    subst this
    exact hr
end Go.Proofs.YtchmmekhfcojgaaGreatDoor
namespace Go.Proofs.YtchmmekhfcojgaaGreatDoor
open Go.RowKit

set_option linter.unusedSimpArgs false

theorem cur_ne {W : World} {p base size n : Nat} {e : TypeId} {v : Value} {xs : List Value} {a : Option Addr} {len cap : Nat} (hc : Cur W p a len cap) (h : W.ownsRow base e size v n xs) (he : e ≠ 71) (k : Nat) (hk : v.ownBlock = some k) : some k ≠ some p := by
  obtain ⟨⟨i, hh, _, hb⟩, _⟩ := hc
  rcases h.2 with ⟨h0, _⟩ | ⟨g, cp, cur, hv, _, hg, _⟩
  · rw [h0] at hk; simp [Value.ownBlock] at hk
  · rw [hv] at hk
    simp [Value.ownBlock] at hk
    subst hk
    intro e2
    simp at e2
    subst e2
    rw [hg] at hb
    simp at hb
    exact he hb.2

/-- a list stays where only the cursor turns -/
theorem RecsIn.cur {W W' : World} {hi p : Nat} {v : Value} {ps : List RP} {a : Option Addr} {len cap : Nat} (h : RecsIn W hi v ps) (hc : Cur W p a len cap) (hg : W.grownBy W' (some p)) : RecsIn W' hi v ps where
  row := owns_keepB h.row (fun k e => hg.block k (h.row.lt k e).2 (cur_ne hc h.row (by decide) k e))
  top := h.top
  nears := fun q hq => ⟨owns_keepB (h.nears q hq).1 (fun k e => hg.block k ((h.nears q hq).1.lt k e).2 (cur_ne hc (h.nears q hq).1 (by decide) k e)), (h.nears q hq).2⟩

theorem recs_litIn (W : World) : RecsIn (W.alloc (.cells #[] 51)) (W.alloc (.cells #[] 51)).heap.size (.slice (some ⟨W.heap.size, 0, none⟩) 0 0) [] := (recs_lit W 0 (Nat.zero_le _)).in

set_option maxRecDepth 100000 in
set_option maxHeartbeats 2000000 in
theorem drawStore_any (p : Nat) (a : Option Addr) (len cap : Nat) (w : World) (hc : Cur w p a len cap) :
    Calls Tryz.prog 38 #[.pointer (some ⟨p, 0, none⟩)] w fun e w' => ∃ (v : Value) (qs : List RP), e = .returned v ∧ RecsIn w' w'.heap.size v qs ∧ storeB (fsts qs) = true ∧ qs.length ≤ 12 ∧ Cur w' p a len cap ∧ w.grownBy w' (some p) := by
  have hp := lt_of_cur hc
  have C0 := hide (cur_alloc hc (.cells #[] 51))
  have R0 := hide (recs_litIn w)
  have G0 := hide (gro_alloc (gro_refl w (some p)) (.cells #[] 51))
  clear hc
  go_enter Tryz.func38, Tryz.ntmps38
  go_wp2
  generalize w.alloc (.cells #[] 51) = w0 at *
  go_loopw [4, 3] (fun i o wr => ∃ (k : Nat) (qs : List RP) (u : Value), k ≤ 12 ∧ i = .int .i64 k ∧ o = u ∧ Hid (qs.length ≤ k) ∧ Hid (storeB (fsts qs) = true) ∧ RecsIn wr wr.heap.size u qs ∧ Cur wr p a len cap ∧ w.grownBy wr (some p)) (fun i _ _ => 13 - (intOf i).toNat)
  case atStart => exact ⟨0, [], _, by omega, rfl, rfl, hide (by simp), hide (by decide), R0.out, C0.out, G0.out⟩
  case round =>
    obtain ⟨k, qs, u, hk, rfl, rfl, HQL, HST, hown, hcr, hgr⟩ := hrel
    obtain ⟨ua, uc, rfl⟩ := owns_lenS hown.row
    have OW := hide hown
    have HCR := hide hcr
    have HGR := hide hgr
    clear hown hcr hgr
    go_wp2_with fail
    refine (below_any p a len cap 12 _ HCR.out (by omega) (by omega)).mono ?_
    rintro e w3 ⟨y, rfl, hy0, hy1, hc3, hg3⟩
    have OW3 := hide ((OW.out.cur HCR.out hg3).wide hg3.size)
    have G3 := hide (gro_same HGR.out hg3)
    have C3 := hide hc3
    clear hc3 hg3 OW HCR HGR
    by_cases hlt : (k : Int) < y
    · go_wp2_with fail
      refine (recR_any p a len cap _ C3.out).mono ?_
      rintro e w4 ⟨x, n1, rfl, ho4, hl4, hok4, hc4, hg4⟩
      have OW4 := (OW3.out.cur C3.out hg4).wide hg4.size
      have hst := store_ok HST.out
      have hq := HQL.out
      have hfl : (fsts qs).length = qs.length := by simp [fsts]
      have htq : tot qs ≤ 1048576 := by rw [tot_D]; have := store_tot HST.out; omega
      have HIN := sinst_any (.slice ua qs.length uc) qs w4.heap.size (x, n1) w4 OW4 (Nat.le_refl _) htq ⟨owns_baseS ho4 (Nat.zero_le _), fun k hk => (ho4.lt k hk).2⟩ (by show x.near.length ≤ 1048576; omega)
      have HN := hide (show storeB (fsts (instL qs (x, n1))) = true by rw [instL_fsts]; exact store_instD HST.out hok4 (by omega))
      have HLn := hide (show (instL qs (x, n1)).length ≤ k + 1 by
        have e1 : (fsts (instL qs (x, n1))).length = (instL qs (x, n1)).length := by simp [fsts]
        rw [instL_fsts] at e1
        have h5 := len_instD (fsts qs) x
        simp only [] at e1
        omega)
      have G4 := gro_same G3.out hg4
      obtain ⟨na, nc, rfl⟩ := owns_lenS ho4
      generalize instL qs (x, Value.slice na x.near.length nc) = qn at *
      obtain ⟨TT, hTT⟩ : ∃ T, T = takesB (fsts qs) (x, Value.slice na x.near.length nc).1 := ⟨_, rfl⟩
      rw [← hTT] at HIN
      have HI := hide HIN
      have HC4 := hide hc4
      have HG4 := hide G4
      clear HIN hst hok4 ho4 hc4 hg4 G4 OW4 OW3 G3 C3 HST HQL htq hfl hq hTT
      unfold recC at *
      go_wp2_with fail
      refine HI.out.mono ?_
      rintro e w5 ⟨x5, rfl, o5, b5⟩
      obtain ⟨x5a, x5c, rfl⟩ := owns_lenS o5.row
      have O5 := hide o5
      have C5 := hide (HC4.out.grown (grown_of_below b5) (fun b _ => by simp))
      have G5 := hide (gro_step HG4.out (grown_of_below b5) (fun k e => by cases e))
      clear o5 b5 HC4 HG4 HI
      go_wp2
      go_roundw
      case rel => exact ⟨k + 1, qn, _, by omega, by go_num, rfl, HLn, HN, O5.out, C5.out, G5.out⟩
      case measure => simp [intOf]; omega
    · go_wp2
      go_ret
      first
        | exact ⟨_, qs, rfl, OW3.out, HST.out, by have := HQL.out; omega, C3.out, G3.out⟩
        | exact ⟨_, rfl, qs, OW3.out, HST.out, by have := HQL.out; omega, C3.out, G3.out⟩

end Go.Proofs.YtchmmekhfcojgaaGreatDoor
namespace Go.Proofs.YtchmmekhfcojgaaGreatDoor
open Go.RowKit

set_option linter.unusedSimpArgs false

theorem asc_heads {S : List RecD} (h : Asc S) : Asc (S.map headD) := by
  unfold Asc at *
  rw [List.pairwise_map]
  exact h

theorem recOk_head {x : RecD} (h : recOkB x = true) : recOkB (headD x) = true := by
  by_cases k3 : x.kind = 3
  · rw [headD_three k3]
    unfold recOkB at h ⊢
    simp only [] at h ⊢
    rw [if_neg (by omega), if_neg (by omega), if_pos k3] at h ⊢
    simp only [Bool.and_eq_true] at h ⊢
    exact ⟨h.1, ⟨h.2.1.1, rfl⟩, rfl⟩
  · rw [headD_else k3]
    unfold recOkB at h ⊢
    simp only [] at h ⊢
    by_cases k1 : x.kind = 1
    · rw [if_pos k1] at h ⊢
      simp only [Bool.and_eq_true] at h ⊢
      exact ⟨h.1, ⟨⟨h.2.1.1.1, rfl⟩, rfl⟩, rfl⟩
    · rw [if_neg k1] at h ⊢
      by_cases k2 : x.kind = 2
      · rw [if_pos k2] at h ⊢
        simp only [Bool.and_eq_true] at h ⊢
        exact ⟨h.1, ⟨⟨h.2.1.1.1, rfl⟩, rfl⟩, rfl⟩
      · rw [if_neg k2, if_neg k3] at h
        simp at h

theorem headsB_map (S : List RecD) : headsB (S.map headD) = true := by
  unfold headsB allOk
  refine all_true fun j hj => ?_
  unfold okAt
  rw [List.getElem?_map]
  cases S[j]? with
  | none => rfl
  | some y =>
    simp only [Option.map_some]
    rw [show headD (headD y) = headD y from rfl]
    generalize headD y = z
    unfold sameBodyB sameKeyB
    simp

theorem scope_map (a : Int) (L : List RecD) : allOk (inScope a) ((L.filter (inScope a)).map headD) = true := by
  unfold allOk
  refine all_true fun j hj => ?_
  unfold okAt
  rw [List.getElem?_map]
  cases e : (L.filter (inScope a))[j]? with
  | none => rfl
  | some y =>
    simp only [Option.map_some]
    exact (List.mem_filter.1 (List.mem_of_getElem? e)).2

theorem store_scope {L : List RecD} (h : storeB L = true) (a : Int) : storeB ((L.filter (inScope a)).map headD) = true := by
  have h3 := store_ok h
  refine (made_self (asc_heads (asc_filter h3.2.2 (inScope a)))).store ?_ ?_
  · intro x hx
    obtain ⟨y, hy, rfl⟩ := List.mem_map.1 hx
    exact recOk_head (h3.2.1 y (List.mem_filter.1 hy).1)
  · have := List.length_filter_le (inScope a) L
    simp only [List.length_map]
    omega

end Go.Proofs.YtchmmekhfcojgaaGreatDoor
