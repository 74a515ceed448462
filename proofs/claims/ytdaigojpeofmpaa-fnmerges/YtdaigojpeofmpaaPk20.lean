/-
  The law FnMerges answers true at every argument, and each argument reads afterwards as it read before; no condition. (Here: from the walk to the given statement.)
  Two stores merged: the plain mathematics.
  spec.l05Store, DrawStores: right stores.
  laws.FnMerges: its walk.
-/
import Derived.Test.YtdaigojpeofmpaaPk19
import Derived.Test.YtdaigojpeofmpaaPk5
import Derived.ProofKit
import Derived.OpenShut
import Derived.ShutString
import Derived.ChangeOld
namespace Go.Proofs.Ytdaigojpeofmpaa
open Go.RowKit

/-- what Merge makes of two right stores -/
structure Merged (A B M : List RecD) : Prop where
  made : Made (A ++ B) M
  sto : storeB M = true
  okA : storeB A = true
  okB : storeB B = true
  lenM : M.length ≤ 60

theorem made_self {A : List RecD} (h : Asc A) : Made A A := ⟨h, fun _ hx => hx, fun y hy => ⟨y, hy, same_refl y, Int.le_refl _⟩⟩

theorem made_fold {A B : List RecD} (hA : storeB A = true) (hB : ∀ x ∈ B, recOkB x = true) (hl : A.length + B.length ≤ 60) : Made (A ++ B) (B.foldl instD A) ∧ (B.foldl instD A).length ≤ A.length + B.length := by
  have hA3 := store_ok hA
  have key : ∀ n, n ≤ B.length → Made (A ++ B.take n) ((B.take n).foldl instD A) ∧ ((B.take n).foldl instD A).length ≤ A.length + n := by
    intro n
    induction n with
    | zero => intro _; simpa using made_self hA3.2.2
    | succ n ih =>
      intro hn
      obtain ⟨h1, h2⟩ := ih (by omega)
      rw [List.take_succ_eq_append_getElem (by omega), List.foldl_append, ← List.append_assoc]
      have h3 := len_instD ((B.take n).foldl instD A) B[n]
      refine ⟨h1.step (hB _ (List.getElem_mem _)) (by omega), ?_⟩
      show (instD ((B.take n).foldl instD A) B[n]).length ≤ A.length + (n + 1)
      omega
  have h := key B.length (Nat.le_refl _)
  rw [List.take_length] at h
  exact h

theorem merged_of {A B : List RecD} (hA : storeB A = true) (hB : storeB B = true) (hl : A.length + B.length ≤ 60) : Merged A B (mergeD A B) := by
  have hB3 := store_ok hB
  have hA3 := store_ok hA
  have e : mergeD A B = B.foldl instD A := by unfold mergeD; rw [hA]; rfl
  rw [e]
  obtain ⟨h1, h2⟩ := made_fold hA hB3.2.1 hl
  refine ⟨h1, h1.store ?_ (by omega), hA, hB, by omega⟩
  intro x hx
  rcases List.mem_append.1 hx with h | h
  · exact hA3.2.1 x h
  · exact hB3.2.1 x h

theorem newer_false {ls a : List RecD} (h : Made ls a) {x : RecD} (hx : x ∈ ls) : newerB a x = false := by
  obtain ⟨y, hy, hs, hq⟩ := h.all x hx
  unfold newerB
  rcases atZ_cases a x with hz | ⟨j, z, hz, hzj, hzs⟩
  · rw [atZ_neg hz y hy] at hs; cases hs
  · rw [hz, if_neg (by omega)]
    have e : z = y := asc_uniq h.asc (List.mem_of_getElem? hzj) hy (same_trans hzs (same_symm hs))
    simp [hzj, e]
    omega

theorem newer_empty {ls a xs : List RecD} (h : Made ls a) (hx : ∀ x ∈ xs, x ∈ ls) : xs.filter (newerB a) = [] := by
  rw [List.filter_eq_nil_iff]
  intro x hm
  rw [newer_false h (hx x hm)]
  simp

theorem newest_le {xs : List RecD} {r : RecD} {s : Int} (h0 : 0 ≤ s) (h : ∀ z ∈ xs, sameKeyB z r = true → z.seq ≤ s) : newestD xs r ≤ s := by
  obtain ⟨h1, h2, h3⟩ := newest_gen r xs 0
  unfold newestD
  rcases h3 with h3 | ⟨x, hx, hk, e⟩
  · omega
  · have := h x hx hk; omega

theorem Merged.ok {A B M : List RecD} (h : Merged A B M) : ∀ x ∈ A ++ B, recOkB x = true := by
  intro x hx
  rcases List.mem_append.1 hx with h1 | h1
  · exact (store_ok h.okA).2.1 x h1
  · exact (store_ok h.okB).2.1 x h1

theorem Merged.le {A B M : List RecD} (h : Merged A B M) {y z : RecD} (hy : y ∈ M) (hz : z ∈ A ++ B) (hs : sameKeyB z y = true) : z.seq ≤ y.seq := by
  obtain ⟨x, hx, h1, h2⟩ := h.made.all z hz
  rw [asc_uniq h.made.asc hx hy (same_trans h1 hs)] at h2
  exact h2

/-- each Seq of the merged one is the greater of the two -/
theorem Merged.most {A B M : List RecD} (h : Merged A B M) {y : RecD} (hy : y ∈ M) : (if newestD A y < newestD B y then newestD B y else newestD A y) = y.seq := by
  have h0 := ok_seq (h.ok y (h.made.sub y hy))
  have hA : newestD A y ≤ y.seq := newest_le (by omega) (fun z hz hs => h.le hy (List.mem_append_left _ hz) hs)
  have hB : newestD B y ≤ y.seq := newest_le (by omega) (fun z hz hs => h.le hy (List.mem_append_right _ hz) hs)
  rcases List.mem_append.1 (h.made.sub y hy) with h1 | h1
  · have e := newest_eq h1 (same_refl y) (by omega) (fun z hz hs => h.le hy (List.mem_append_left _ hz) hs)
    split <;> omega
  · have e := newest_eq h1 (same_refl y) (by omega) (fun z hz hs => h.le hy (List.mem_append_right _ hz) hs)
    split <;> omega

/-- what is newer is newer than the newest -/
theorem newer_newest {A : List RecD} {x : RecD} (hA : storeB A = true) (hx : recOkB x = true) (h : newerB A x = true) : newestD A x < x.seq := by
  have h3 := store_ok hA
  have h0 := ok_seq hx
  unfold newerB at h
  rcases atZ_cases A x with hz | ⟨j, y, hz, hy, hs⟩
  · rw [newest_none (atZ_neg hz)]; omega
  · rw [hz, if_neg (by omega)] at h
    have hm := List.mem_of_getElem? hy
    have h1 := ok_seq (h3.2.1 y hm)
    rw [newest_eq hm hs (by omega) (fun z hz2 hk => by rw [asc_uniq h3.2.2 hz2 hm (same_trans hk (same_symm hs))]; exact Int.le_refl _)]
    simpa [hy] using h

theorem takes_stale {M : List RecD} {x y : RecD} (hM : Asc M) (hy : y ∈ M) (hs : sameKeyB y x = true) (hq : x.seq ≤ y.seq) : takesB M x = false := by
  cases h : takesB M x with
  | false => rfl
  | true => have := takes_seq hM h hy hs; omega

theorem Merged.again {A B M : List RecD} (h : Merged A B M) : mergeD M B = M := by
  have key : ∀ (xs : List RecD), (∀ x ∈ xs, x ∈ B) → xs.foldl instD M = M := by
    intro xs
    induction xs with
    | nil => intro _; rfl
    | cons x xs ih =>
      intro hx
      obtain ⟨y, hy, hs, hq⟩ := h.made.all x (List.mem_append_right _ (hx x (List.mem_cons_self ..)))
      have e : instD M x = M := by unfold instD; rw [takes_stale h.made.asc hy hs hq]; rfl
      rw [List.foldl_cons, e]
      exact ih (fun z hz => hx z (List.mem_cons_of_mem _ hz))
  unfold mergeD
  rw [h.sto]
  exact key B (fun x hx => hx)

/-- how many are of an area -/
def cntA (xs : List RecD) (k : Int) : Nat := (xs.filter (fun x => x.area == k)).length

theorem cntA_scope (xs : List RecD) (k : Int) : cntA (xs.filter (inScope k)) k = cntA xs k := by
  unfold cntA
  rw [List.filter_filter]
  congr 1
  apply List.filter_congr
  intro x _
  unfold inScope
  cases x.area == k <;> simp

theorem ok_area {x : RecD} (h : recOkB x = true) : x.area = 0 ∨ x.area = 1 ∨ x.area = 2 ∨ x.area = 9 := by
  unfold recOkB inB at h
  simp only [Bool.and_eq_true, decide_eq_true_eq] at h
  have h2 := h.2
  split at h2
  · simp only [Bool.and_eq_true, decide_eq_true_eq] at h2
    omega
  · split at h2
    · simp only [Bool.and_eq_true, decide_eq_true_eq] at h2
      omega
    · split at h2
      · simp only [Bool.and_eq_true, beq_iff_eq] at h2
        omega
      · cases h2

theorem cnt_all (xs : List RecD) (h : ∀ x ∈ xs, recOkB x = true) : cntA xs 0 + cntA xs 1 + cntA xs 2 + (xs.filter (inScope 9)).length = xs.length := by
  induction xs with
  | nil => rfl
  | cons x xs ih =>
    have h1 := ih (fun y hy => h y (List.mem_cons_of_mem _ hy))
    have h2 := ok_area (h x (List.mem_cons_self ..))
    unfold cntA at h1 ⊢
    unfold inScope at h1 ⊢
    simp only [Bool.or_self] at h1 ⊢
    simp only [List.filter_cons, List.length_cons]
    rcases h2 with e | e | e | e <;> (rw [e]; simp; omega)

theorem cntA_take {ps : List RP} {k : Nat} {p : RP} (a : Int) (h : ps[k]? = some p) : cntA (fsts (ps.take (k + 1))) a = cntA (fsts (ps.take k)) a + (if p.1.area = a then 1 else 0) := by
  rw [show fsts (ps.take (k + 1)) = fsts (ps.take k) ++ [p.1] from map_take h]
  unfold cntA
  rw [List.filter_append, List.length_append]
  congr 1
  by_cases e : p.1.area = a <;> simp [e]

theorem cntA_le (xs : List RecD) (k : Int) : cntA xs k ≤ xs.length := List.length_filter_le _ _

/-- a right store that takes a right record is one -/
theorem store_instD {xs : List RecD} {r : RecD} (h : storeB xs = true) (hr : recOkB r = true) (hl : xs.length < 150) : storeB (instD xs r) = true := by
  have h3 := store_ok h
  have hm := (made_self h3.2.2).step hr hl
  refine hm.store ?_ (by have := len_instD xs r; omega)
  intro x hx
  rcases List.mem_append.1 hx with h1 | h1
  · exact h3.2.1 x h1
  · have : x = r := by simpa using h1
    subst this
    exact hr
end Go.Proofs.Ytdaigojpeofmpaa
namespace Go.Proofs.Ytdaigojpeofmpaa
open Go.RowKit

set_option linter.unusedSimpArgs false

theorem cur_ne {W : World} {p base size n : Nat} {e : TypeId} {v : Value} {xs : List Value} {a : Option Addr} {len cap : Nat} (hc : Cur W p a len cap) (h : W.ownsRow base e size v n xs) (he : e ≠ 122) (k : Nat) (hk : v.ownBlock = some k) : some k ≠ some p := by
  obtain ⟨⟨i, hh, _, hb⟩, _⟩ := hc
  rcases h.2 with ⟨h0, _⟩ | ⟨g, cp, cur, hv, _, hg, _⟩
  · rw [h0] at hk; simp [Value.ownBlock] at hk
  · rw [hv] at hk
    simp [Value.ownBlock] at hk
    subst hk
    intro e2
    simp at e2
    subst e2
    rw [hg] at hb
    simp at hb
    exact he hb.2

/-- a list stays where only the cursor turns -/
theorem RecsIn.cur {W W' : World} {hi p : Nat} {v : Value} {ps : List RP} {a : Option Addr} {len cap : Nat} (h : RecsIn W hi v ps) (hc : Cur W p a len cap) (hg : W.grownBy W' (some p)) : RecsIn W' hi v ps where
  row := owns_keepB h.row (fun k e => hg.block k (h.row.lt k e).2 (cur_ne hc h.row (by decide) k e))
  top := h.top
  nears := fun q hq => ⟨owns_keepB (h.nears q hq).1 (fun k e => hg.block k ((h.nears q hq).1.lt k e).2 (cur_ne hc (h.nears q hq).1 (by decide) k e)), (h.nears q hq).2⟩

theorem recs_litIn (W : World) : RecsIn (W.alloc (.cells #[] 56)) (W.alloc (.cells #[] 56)).heap.size (.slice (some ⟨W.heap.size, 0, none⟩) 0 0) [] := (recs_lit W 0 (Nat.zero_le _)).in

set_option maxRecDepth 100000 in
set_option maxHeartbeats 2000000 in
theorem drawStore_any (p : Nat) (a : Option Addr) (len cap : Nat) (w : World) (hc : Cur w p a len cap) :
    Calls Try.prog 48 #[.pointer (some ⟨p, 0, none⟩)] w fun e w' => ∃ (v : Value) (qs : List RP), e = .returned v ∧ RecsIn w' w'.heap.size v qs ∧ storeB (fsts qs) = true ∧ qs.length ≤ 12 ∧ Cur w' p a len cap ∧ w.grownBy w' (some p) := by
  have hp := lt_of_cur hc
  have C0 := hide (cur_alloc hc (.cells #[] 56))
  have R0 := hide (recs_litIn w)
  have G0 := hide (gro_alloc (gro_refl w (some p)) (.cells #[] 56))
  clear hc
  go_enter Try.func48, Try.ntmps48
  go_wp2
  generalize w.alloc (.cells #[] 56) = w0 at *
  go_loopw [4, 3] (fun i o wr => ∃ (k : Nat) (qs : List RP) (u : Value), k ≤ 12 ∧ i = .int .i64 k ∧ o = u ∧ Hid (qs.length ≤ k) ∧ Hid (storeB (fsts qs) = true) ∧ RecsIn wr wr.heap.size u qs ∧ Cur wr p a len cap ∧ w.grownBy wr (some p)) (fun i _ _ => 13 - (intOf i).toNat)
  case atStart => exact ⟨0, [], _, by omega, rfl, rfl, hide (by simp), hide (by decide), R0.out, C0.out, G0.out⟩
  case round =>
    obtain ⟨k, qs, u, hk, rfl, rfl, HQL, HST, hown, hcr, hgr⟩ := hrel
    obtain ⟨ua, uc, rfl⟩ := owns_lenS hown.row
    have OW := hide hown
    have HCR := hide hcr
    have HGR := hide hgr
    clear hown hcr hgr
    go_wp2_with fail
    refine (below_any p a len cap 12 _ HCR.out (by omega) (by omega)).mono ?_
    rintro e w3 ⟨y, rfl, hy0, hy1, hc3, hg3⟩
    have OW3 := hide ((OW.out.cur HCR.out hg3).wide hg3.size)
    have G3 := hide (gro_same HGR.out hg3)
    have C3 := hide hc3
    clear hc3 hg3 OW HCR HGR
    by_cases hlt : (k : Int) < y
    · go_wp2_with fail
      refine (recR_any p a len cap _ C3.out).mono ?_
      rintro e w4 ⟨x, n1, rfl, ho4, hl4, hok4, hc4, hg4⟩
      have OW4 := (OW3.out.cur C3.out hg4).wide hg4.size
      have hst := store_ok HST.out
      have hq := HQL.out
      have hfl : (fsts qs).length = qs.length := by simp [fsts]
      have htq : tot qs ≤ 1048576 := by rw [tot_D]; have := store_tot HST.out; omega
      have HIN := sinst_any (.slice ua qs.length uc) qs w4.heap.size (x, n1) w4 OW4 (Nat.le_refl _) htq ⟨owns_baseS ho4 (Nat.zero_le _), fun k hk => (ho4.lt k hk).2⟩ (by show x.near.length ≤ 1048576; omega)
      have HN := hide (show storeB (fsts (instL qs (x, n1))) = true by rw [instL_fsts]; exact store_instD HST.out hok4 (by omega))
      have HLn := hide (show (instL qs (x, n1)).length ≤ k + 1 by
        have e1 : (fsts (instL qs (x, n1))).length = (instL qs (x, n1)).length := by simp [fsts]
        rw [instL_fsts] at e1
        have h5 := len_instD (fsts qs) x
        simp only [] at e1
        omega)
      have G4 := gro_same G3.out hg4
      obtain ⟨na, nc, rfl⟩ := owns_lenS ho4
      generalize instL qs (x, Value.slice na x.near.length nc) = qn at *
      obtain ⟨TT, hTT⟩ : ∃ T, T = takesB (fsts qs) (x, Value.slice na x.near.length nc).1 := ⟨_, rfl⟩
      rw [← hTT] at HIN
      have HI := hide HIN
      have HC4 := hide hc4
      have HG4 := hide G4
      clear HIN hst hok4 ho4 hc4 hg4 G4 OW4 OW3 G3 C3 HST HQL htq hfl hq hTT
      unfold recC at *
      go_wp2_with fail
      refine HI.out.mono ?_
      rintro e w5 ⟨x5, rfl, o5, b5⟩
      obtain ⟨x5a, x5c, rfl⟩ := owns_lenS o5.row
      have O5 := hide o5
      have C5 := hide (HC4.out.grown (grown_of_below b5) (fun b _ => by simp))
      have G5 := hide (gro_step HG4.out (grown_of_below b5) (fun k e => by cases e))
      clear o5 b5 HC4 HG4 HI
      go_wp2
      go_roundw
      case rel => exact ⟨k + 1, qn, _, by omega, by go_num, rfl, HLn, HN, O5.out, C5.out, G5.out⟩
      case measure => simp [intOf]; omega
    · go_wp2
      go_ret
      first
        | exact ⟨_, qs, rfl, OW3.out, HST.out, by have := HQL.out; omega, C3.out, G3.out⟩
        | exact ⟨_, rfl, qs, OW3.out, HST.out, by have := HQL.out; omega, C3.out, G3.out⟩

set_option maxRecDepth 100000 in
set_option maxHeartbeats 2000000 in
theorem drawStores_any (a : Option Addr) (len cap : Nat) (w : World) (hc : Code w a len w.heap.size) :
    Calls Try.prog 19 #[.slice a len cap] w fun e w' => ∃ (va vb : Value) (qa qb : List RP), e = .returned (.tuple #[va, vb]) ∧ RecsIn w' w'.heap.size va qa ∧ RecsIn w' w'.heap.size vb qb ∧ storeB (fsts qa) = true ∧ storeB (fsts qb) = true ∧ qa.length ≤ 12 ∧ qb.length ≤ 12 ∧ Below w.heap.size w w' := by
  have HC := hide hc
  clear hc
  go_enter Try.func19, Try.ntmps19
  go_wp2_with fail
  refine (new_any a len cap w HC.out).mono ?_
  rintro e w1 ⟨rfl, hc1, hb1⟩
  have C1 := hide hc1
  clear hc1 HC
  go_wp2_with fail
  refine (drawStore_any w.heap.size a len cap w1 C1.out).mono ?_
  rintro e w2 ⟨va, qa, rfl, oa, sa, la, hc2, hg2⟩
  obtain ⟨xa, xc, rfl⟩ := owns_lenS oa.row
  have B2 : Below w.heap.size w w2 := hb1.grown hg2 hb1.size (fun k hk => by simp at hk; omega)
  have OA := hide oa
  have SA := hide sa
  have LA := hide la
  have C2 := hide hc2
  clear oa sa la hc2 hg2 C1 hb1
  go_wp2_with fail
  refine (drawStore_any w.heap.size a len cap w2 C2.out).mono ?_
  rintro e w3 ⟨vb, qb, rfl, ob, sb, lb, hc3, hg3⟩
  obtain ⟨ya, yc, rfl⟩ := owns_lenS ob.row
  have B3 : Below w.heap.size w w3 := B2.grown hg3 B2.size (fun k hk => by simp at hk; omega)
  have OA3 := hide ((OA.out.cur C2.out hg3).wide hg3.size)
  have OB := hide ob
  have SB := hide sb
  have LB := hide lb
  clear ob sb lb hc3 hg3 OA C2
  go_wp2
  go_returns
  exact ⟨_, _, qa, qb, rfl, OA3.out, OB.out, SA.out, SB.out, LA.out, LB.out, B3⟩
end Go.Proofs.Ytdaigojpeofmpaa
namespace Go.Proofs.Ytdaigojpeofmpaa
open Go.RowKit

set_option linter.unusedSimpArgs false

/-- how many are of the first k areas -/
def sumA (xs : List RecD) : Nat → Nat
  | 0 => 0
  | k + 1 => sumA xs k + cntA xs (k : Int)

theorem fsts_nil {qs : List RP} (h : fsts qs = []) : qs = [] := by simpa [fsts] using h

theorem sumA_three (xs : List RecD) (h : ∀ x ∈ xs, recOkB x = true) : sumA xs 3 + (xs.filter (inScope 9)).length = xs.length := by
  have h1 := cnt_all xs h
  have e : sumA xs 3 = 0 + cntA xs 0 + cntA xs 1 + cntA xs 2 := rfl
  omega

set_option maxRecDepth 100000 in
set_option maxHeartbeats 8000000 in
theorem fnMerges_walk (a : Option Addr) (len cap : Nat) (w : World) (hw : len ≤ 1048576 → Code w a len w.heap.size) :
    Calls Try.prog 5 #[.slice a len cap] w fun e w' => e = .returned (.bool true) ∧ Below w.heap.size w w' := by
  have HW := hide hw
  clear hw
  by_cases hlen : len ≤ 1048576
  case neg =>
    have HBIG := hide (big_any a len cap)
    rw [decide_eq_true (show (1048576 : Int) < (len : Int) by omega)] at HBIG
    go_enter Try.func5, Try.ntmps5
    go_wp2_with fail
    refine (HBIG.out _).mono ?_
    rintro e w1 ⟨rfl, rfl⟩
    go_wp2
    go_ret
    exact ⟨rfl, Below.refl _ _⟩
  have HBIG := hide (big_any a len cap)
  rw [decide_eq_false (show ¬ (1048576 : Int) < (len : Int) by omega)] at HBIG
  have HCODE := hide (HW.out hlen)
  clear HW
  go_enter Try.func5, Try.ntmps5
  go_wp2_with fail
  refine (HBIG.out _).mono ?_
  rintro e w1 ⟨rfl, rfl⟩
  go_wp2_with fail
  refine (drawStores_any a len cap _ HCODE.out).mono ?_
  rintro e w1 ⟨va, vb, qa, qb, rfl, oa, ob, sa, sb, la, lb, b1⟩
  obtain ⟨xa, xac, rfl⟩ := owns_lenS oa.row
  obtain ⟨xb, xbc, rfl⟩ := owns_lenS ob.row
  have hs1 := b1.size
  have hla : (fsts qa).length = qa.length := by simp [fsts]
  have hlb : (fsts qb).length = qb.length := by simp [fsts]
  have hMG := merged_of sa sb (by omega)
  have hta : tot qa ≤ 1050 := by rw [tot_D]; exact store_tot sa
  have htb : tot qb ≤ 1050 := by rw [tot_D]; exact store_tot sb
  have HIM := hide (imerge_any (.slice xa qa.length xac) (.slice xb qb.length xbc) qa qb w1.heap.size w1 oa ob (Nat.le_refl _) (by omega))
  have HNA := hide (fun (p : RP) W (hb : Below w1.heap.size w1 W) => newest_any (.slice xa qa.length xac) qa w1.heap.size p W (oa.below hb (Nat.le_refl _)) hb.size (by omega))
  have HNB := hide (fun (p : RP) W (hb : Below w1.heap.size w1 W) => newest_any (.slice xb qb.length xbc) qb w1.heap.size p W (ob.below hb (Nat.le_refl _)) hb.size (by omega))
  have HBA := hide (fun W (hb : Below w1.heap.size w1 W) => inewerI_any (.slice xb qb.length xbc) (.slice xa qa.length xac) qb qa w1.heap.size W (ob.below hb (Nat.le_refl _)) hb.size (oa.below hb (Nat.le_refl _)) (by omega) (by omega))
  have HOA := hide oa
  have HOB := hide ob
  obtain ⟨A, hA⟩ : ∃ A, A = fsts qa := ⟨_, rfl⟩
  obtain ⟨B, hB⟩ : ∃ B, B = fsts qb := ⟨_, rfl⟩
  obtain ⟨M, hM⟩ : ∃ M, M = mergeD (fsts qa) (fsts qb) := ⟨_, rfl⟩
  rw [← hM] at hMG HIM
  rw [← hA, ← hB] at hMG
  rw [← hA] at HNA HBA
  rw [← hB] at HNB HBA
  have HMG := hide hMG
  have HA := hide hA
  have HB := hide hB
  clear hMG hM hA hB oa ob sa sb HBIG HCODE hla hlb
  go_wp2_with fail
  refine HIM.out.mono ?_
  rintro e w2 ⟨xm, qm, rfl, fm, om, b2⟩
  obtain ⟨xma, xmc, rfl⟩ := owns_lenS om.row
  have b2s := b2.size
  have htm : tot qm ≤ 1050 := by rw [tot_D, fm]; exact store_tot HMG.out.sto
  have hlm := tot_len qm
  have FM := hide fm
  have OM := hide om
  have HSO := istoreOk_any (.slice xma qm.length xmc) qm w2 (by omega) om.at
  rw [fm, HMG.out.sto] at HSO
  have HSO := hide HSO
  have HNM := hide (fun (v : Value) (q : List RP) W (hv : RecsIn w1 w1.heap.size v q) (ht : tot q ≤ 1050) (hx : ∀ x ∈ fsts q, x ∈ A ++ B) (hb : Below w2.heap.size w2 W) => by
    have h := inewerI_any v (.slice xma qm.length xmc) q qm w2.heap.size W ((hv.below (b2.trans (hb.mono b2s)) (Nat.le_refl _)).wide b2s) hb.size ((om.below hb (Nat.le_refl _)).in) (by omega) (by omega)
    rw [fm, newer_empty HMG.out.made hx] at h
    exact h)
  clear fm om HIM
  go_wp2_with fail
  refine HSO.out.mono ?_
  rintro e w3 ⟨rfl, b3⟩
  have b3s := b3.size
  go_wp2_with fail
  refine (HNM.out (.slice xa qa.length xac) qa w3 HOA.out hta (by rw [← HA.out]; exact fun x hx => List.mem_append_left _ hx) b3).mono ?_
  rintro e w4 ⟨x4, q4, rfl, f4, o4, b4⟩
  obtain rfl := fsts_nil f4
  obtain ⟨x4a, x4c, rfl⟩ := owns_lenS o4.row
  have b4s := b4.size
  have B4 : Below w2.heap.size w2 w4 := b3.trans (b4.mono b3s)
  clear f4 o4 b3 b4
  go_wp2_with fail
  refine (HNM.out (.slice xb qb.length xbc) qb w4 HOB.out htb (by rw [← HB.out]; exact fun x hx => List.mem_append_right _ hx) B4).mono ?_
  rintro e w5 ⟨x5, q5, rfl, f5, o5, b5⟩
  obtain rfl := fsts_nil f5
  obtain ⟨x5a, x5c, rfl⟩ := owns_lenS o5.row
  have b5s := b5.size
  have B5 : Below w2.heap.size w2 w5 := B4.trans (b5.mono (by omega))
  have OM5 := hide ((OM.out.below B5 (Nat.le_refl _)).wide (Nat.le_refl _) (show w2.heap.size ≤ w5.heap.size by omega))
  have B15 : Below w1.heap.size w1 w5 := b2.trans (B5.mono b2s)
  clear f5 o5 b5 B4 HSO HNM OM B5
  go_wp2
  go_loopw [6] (fun i wr => ∃ (k : Nat), k ≤ qm.length ∧ i = .int .i64 k ∧ Below w5.heap.size w5 wr) (fun i _ => qm.length - (intOf i).toNat)
  case atStart => exact ⟨0, by omega, rfl, Below.refl _ _⟩
  case round =>
    obtain ⟨k, hk, rfl, hnx⟩ := hrel
    have hsz := hnx.size
    have B1R : Below w1.heap.size w1 wr := B15.trans (hnx.mono B15.size)
    by_cases hlt : k < qm.length
    · have hki : (0 : Int) ≤ (k : Int) := by omega
      have hkj : (k : Int) < (qm.length : Int) := by omega
      obtain ⟨p, hp⟩ : ∃ p, qm[k]? = some p := ⟨qm[k], List.getElem?_eq_getElem hlt⟩
      have hpm : p.1 ∈ M := by rw [← FM.out]; exact List.mem_of_getElem? (fsts_at hp)
      have hmost := HMG.out.most hpm
      obtain ⟨b, off, cpx, hve, hbb, c0, c1, c2, c3, c4, c5, c6, c7, hnr⟩ := OM5.out.at.cells k p hp
      cases hve
      obtain ⟨pa, pc, hpn⟩ := NearsAt.shape hnr
      rw [hpn] at c5
      rw [← hnx.cell (p := ⟨b, off + k * 8, none⟩) hbb] at c0
      rw [← hnx.cell (p := ⟨b, off + k * 8 + 1, none⟩) hbb] at c1
      rw [← hnx.cell (p := ⟨b, off + k * 8 + 2, none⟩) hbb] at c2
      rw [← hnx.cell (p := ⟨b, off + k * 8 + 3, none⟩) hbb] at c3
      rw [← hnx.cell (p := ⟨b, off + k * 8 + 4, none⟩) hbb] at c4
      rw [← hnx.cell (p := ⟨b, off + k * 8 + 5, none⟩) hbb] at c5
      rw [← hnx.cell (p := ⟨b, off + k * 8 + 6, none⟩) hbb] at c6
      rw [← hnx.cell (p := ⟨b, off + k * 8 + 7, none⟩) hbb] at c7
      have hbw : b < wr.heap.size := by omega
      have HA1 := HNA.out p
      have HB1 := HNB.out p
      unfold recC at HA1 HB1
      rw [hpn] at HA1 HB1
      by_cases hxy : newestD A p.1 < newestD B p.1
      · rw [if_pos hxy] at hmost
        rw [hmost] at HB1 hxy
        obtain ⟨X, hX⟩ : ∃ X, X = newestD A p.1 := ⟨_, rfl⟩
        rw [← hX] at HA1 hxy
        have HA2 := hide HA1
        have HB2 := hide HB1
        clear HA1 HB1 hmost hX hpn hnr hp hpm
        go_wp2_with fail
        refine (HA2.out _ B1R).mono ?_
        rintro e w6 ⟨rfl, b6⟩
        have b6s := b6.size
        rw [← b6.cell (p := ⟨b, off + k * 8, none⟩) hbw] at c0
        rw [← b6.cell (p := ⟨b, off + k * 8 + 1, none⟩) hbw] at c1
        rw [← b6.cell (p := ⟨b, off + k * 8 + 2, none⟩) hbw] at c2
        rw [← b6.cell (p := ⟨b, off + k * 8 + 3, none⟩) hbw] at c3
        rw [← b6.cell (p := ⟨b, off + k * 8 + 4, none⟩) hbw] at c4
        rw [← b6.cell (p := ⟨b, off + k * 8 + 5, none⟩) hbw] at c5
        rw [← b6.cell (p := ⟨b, off + k * 8 + 6, none⟩) hbw] at c6
        rw [← b6.cell (p := ⟨b, off + k * 8 + 7, none⟩) hbw] at c7
        have hbw6 : b < w6.heap.size := by omega
        go_wp2_with fail
        refine (HB2.out _ (B1R.trans (b6.mono B1R.size))).mono ?_
        rintro e w7 ⟨rfl, b7⟩
        have b7s := b7.size
        rw [← b7.cell (p := ⟨b, off + k * 8, none⟩) hbw6] at c0
        rw [← b7.cell (p := ⟨b, off + k * 8 + 1, none⟩) hbw6] at c1
        rw [← b7.cell (p := ⟨b, off + k * 8 + 2, none⟩) hbw6] at c2
        rw [← b7.cell (p := ⟨b, off + k * 8 + 3, none⟩) hbw6] at c3
        rw [← b7.cell (p := ⟨b, off + k * 8 + 4, none⟩) hbw6] at c4
        rw [← b7.cell (p := ⟨b, off + k * 8 + 5, none⟩) hbw6] at c5
        rw [← b7.cell (p := ⟨b, off + k * 8 + 6, none⟩) hbw6] at c6
        rw [← b7.cell (p := ⟨b, off + k * 8 + 7, none⟩) hbw6] at c7
        go_wp2
        go_roundw
        case rel => exact ⟨k + 1, by omega, by go_num, hnx.trans ((b6.trans (b7.mono b6s)).mono hsz)⟩
        case measure => simp [intOf]; omega
      · rw [if_neg hxy] at hmost
        rw [hmost] at HA1 hxy
        obtain ⟨X, hX⟩ : ∃ X, X = newestD B p.1 := ⟨_, rfl⟩
        rw [← hX] at HB1 hxy
        have HA2 := hide HA1
        have HB2 := hide HB1
        clear HA1 HB1 hmost hX hpn hnr hp hpm
        go_wp2_with fail
        refine (HA2.out _ B1R).mono ?_
        rintro e w6 ⟨rfl, b6⟩
        have b6s := b6.size
        rw [← b6.cell (p := ⟨b, off + k * 8, none⟩) hbw] at c0
        rw [← b6.cell (p := ⟨b, off + k * 8 + 1, none⟩) hbw] at c1
        rw [← b6.cell (p := ⟨b, off + k * 8 + 2, none⟩) hbw] at c2
        rw [← b6.cell (p := ⟨b, off + k * 8 + 3, none⟩) hbw] at c3
        rw [← b6.cell (p := ⟨b, off + k * 8 + 4, none⟩) hbw] at c4
        rw [← b6.cell (p := ⟨b, off + k * 8 + 5, none⟩) hbw] at c5
        rw [← b6.cell (p := ⟨b, off + k * 8 + 6, none⟩) hbw] at c6
        rw [← b6.cell (p := ⟨b, off + k * 8 + 7, none⟩) hbw] at c7
        have hbw6 : b < w6.heap.size := by omega
        go_wp2_with fail
        refine (HB2.out _ (B1R.trans (b6.mono B1R.size))).mono ?_
        rintro e w7 ⟨rfl, b7⟩
        have b7s := b7.size
        rw [← b7.cell (p := ⟨b, off + k * 8, none⟩) hbw6] at c0
        rw [← b7.cell (p := ⟨b, off + k * 8 + 1, none⟩) hbw6] at c1
        rw [← b7.cell (p := ⟨b, off + k * 8 + 2, none⟩) hbw6] at c2
        rw [← b7.cell (p := ⟨b, off + k * 8 + 3, none⟩) hbw6] at c3
        rw [← b7.cell (p := ⟨b, off + k * 8 + 4, none⟩) hbw6] at c4
        rw [← b7.cell (p := ⟨b, off + k * 8 + 5, none⟩) hbw6] at c5
        rw [← b7.cell (p := ⟨b, off + k * 8 + 6, none⟩) hbw6] at c6
        rw [← b7.cell (p := ⟨b, off + k * 8 + 7, none⟩) hbw6] at c7
        go_wp2
        go_roundw
        case rel => exact ⟨k + 1, by omega, by go_num, hnx.trans ((b6.trans (b7.mono b6s)).mono hsz)⟩
        case measure => simp [intOf]; omega
    · have hkn : ¬ (k : Int) < (qm.length : Int) := by omega
      have OM6 := hide ((OM5.out.below hnx (Nat.le_refl _)).wide (Nat.le_refl _) hsz)
      clear hnx OM5
      go_wp2_with fail
      refine (HBA.out _ B1R).mono ?_
      rintro e w6 ⟨xn, qn, rfl, fn, on, b6⟩
      obtain ⟨xna, xnc, rfl⟩ := owns_lenS on.row
      have b6s := b6.size
      have OM7 := hide ((OM6.out.below b6 (Nat.le_refl _)).wide (Nat.le_refl _) b6s)
      have B16 : Below w1.heap.size w1 w6 := B1R.trans (b6.mono B1R.size)
      have hnl : qn.length ≤ qb.length := by
        have e1 := congrArg List.length fn
        have e2 := List.length_filter_le (newerB A) B
        have e3 := congrArg List.length HB.out
        simp [fsts] at e1 e3
        omega
      have FN := hide fn
      have ON := hide on
      clear fn on b6 OM6 HBA B1R
      go_wp2
      go_loopw [10] (fun i wr => ∃ (m : Nat), m ≤ qn.length ∧ i = .int .i64 m ∧ Below w6.heap.size w6 wr) (fun i _ => qn.length - (intOf i).toNat)
      case atStart => exact ⟨0, by omega, rfl, Below.refl _ _⟩
      case round =>
        obtain ⟨m, hm, rfl, hnx⟩ := hrel
        have hsz := hnx.size
        have B1R : Below w1.heap.size w1 wr := B16.trans (hnx.mono B16.size)
        by_cases hlt : m < qn.length
        · have hki : (0 : Int) ≤ (m : Int) := by omega
          have hkj : (m : Int) < (qn.length : Int) := by omega
          obtain ⟨p, hp⟩ : ∃ p, qn[m]? = some p := ⟨qn[m], List.getElem?_eq_getElem hlt⟩
          have hpm : p.1 ∈ B.filter (newerB A) := by rw [← FN.out]; exact List.mem_of_getElem? (fsts_at hp)
          have hnw := newer_newest HMG.out.okA ((store_ok HMG.out.okB).2.1 _ (List.mem_filter.1 hpm).1) (List.mem_filter.1 hpm).2
          obtain ⟨b, off, cpx, hve, hbb, c0, c1, c2, c3, c4, c5, c6, c7, hnr⟩ := ON.out.at.cells m p hp
          cases hve
          obtain ⟨pa, pc, hpn⟩ := NearsAt.shape hnr
          rw [hpn] at c5
          rw [← hnx.cell (p := ⟨b, off + m * 8, none⟩) hbb] at c0
          rw [← hnx.cell (p := ⟨b, off + m * 8 + 1, none⟩) hbb] at c1
          rw [← hnx.cell (p := ⟨b, off + m * 8 + 2, none⟩) hbb] at c2
          rw [← hnx.cell (p := ⟨b, off + m * 8 + 3, none⟩) hbb] at c3
          rw [← hnx.cell (p := ⟨b, off + m * 8 + 4, none⟩) hbb] at c4
          rw [← hnx.cell (p := ⟨b, off + m * 8 + 5, none⟩) hbb] at c5
          rw [← hnx.cell (p := ⟨b, off + m * 8 + 6, none⟩) hbb] at c6
          rw [← hnx.cell (p := ⟨b, off + m * 8 + 7, none⟩) hbb] at c7
          have hbw : b < wr.heap.size := by omega
          have HA1 := HNA.out p
          unfold recC at HA1
          rw [hpn] at HA1
          obtain ⟨X, hX⟩ : ∃ X, X = newestD A p.1 := ⟨_, rfl⟩
          rw [← hX] at HA1 hnw
          have HA2 := hide HA1
          have hnw2 : ¬ p.1.seq ≤ X := by omega
          have BD : Below w1.heap.size w1 wr.drew := B1R.drew
          clear HA1 hX hpn hnr hp hpm
          go_wp2
          go_region_held3 (fun W => W.cell? ⟨b, off + m * 8, none⟩ = some (.int .i64 p.1.area) ∧ W.cell? ⟨b, off + m * 8 + 1, none⟩ = some (.int .i64 p.1.kind) ∧ W.cell? ⟨b, off + m * 8 + 2, none⟩ = some (.int .i64 p.1.owner) ∧ W.cell? ⟨b, off + m * 8 + 3, none⟩ = some (.int .i64 p.1.key) ∧ W.cell? ⟨b, off + m * 8 + 4, none⟩ = some (.int .i64 p.1.seq) ∧ W.cell? ⟨b, off + m * 8 + 5, none⟩ = some (.slice pa p.1.near.length pc) ∧ W.cell? ⟨b, off + m * 8 + 6, none⟩ = some (.int .i64 p.1.cost) ∧ W.cell? ⟨b, off + m * 8 + 7, none⟩ = some (.bool p.1.far)) (first | go_keep | (refine ⟨?_, ?_, ?_, ?_, ?_, ?_, ?_, ?_⟩ <;> (rw [hbc.cell (by assumption)]; assumption))) (first | (go_at_call 22; refine (HA2.out _ BD).mono ?_; rintro e w7 ⟨rfl, hbc⟩))
          go_wp2
          go_roundw
          case rel => exact ⟨m + 1, by omega, by go_num, hnx.drew.trans (hbc.mono hsz)⟩
          case measure => simp [intOf]; omega
        · have hmn : ¬ (m : Int) < (qn.length : Int) := by omega
          have OM8 := hide ((OM7.out.below hnx (Nat.le_refl _)).wide (Nat.le_refl _) hsz)
          obtain ⟨w7, hw7⟩ : ∃ W, W = wr := ⟨_, rfl⟩
          rw [← hw7] at OM8 B1R ⊢
          clear hnx OM7 hw7 hsz
          have HSC := hide (fun (k : Int) W (hb : Below w7.heap.size w7 W) => iscope_any (.slice xma qm.length xmc) qm w1.heap.size w7.heap.size k W (OM8.out.below hb (Nat.le_refl _)) hb.size (by omega))
          rw [FM.out] at HSC
          have HSL := hide (fun k => cntA_le M k)
          have hML : M.length = qm.length := by rw [← FM.out]; simp [fsts]
          have HML := hide hML
          have hM60 := HMG.out.lenM
          clear hML
          go_wp2
          go_loopw [12, 11] (fun i o wr => ∃ (k : Nat) (s : Nat), k ≤ 3 ∧ i = .int .i64 k ∧ o = .int .i64 (s : Int) ∧ Hid (s = sumA M k) ∧ s ≤ 1000 * k ∧ Below w7.heap.size w7 wr) (fun i _ _ => 4 - (intOf i).toNat)
          case atStart => exact ⟨0, 0, by omega, rfl, rfl, hide rfl, by omega, Below.refl _ _⟩
          case round =>
            obtain ⟨k, s, hk, rfl, rfl, HS, hs1k, hnx⟩ := hrel
            have hsz := hnx.size
            by_cases hlt : k < 3
            · have hk2 : (k : Int) ≤ 2 := by omega
              have hk9 : ¬ (9 : Int) = (k : Int) := by omega
              go_wp2_with fail
              refine (HSC.out (k : Int) _ hnx).mono ?_
              rintro e w8 ⟨xs, qs, rfl, fs, os, b8⟩
              obtain ⟨xsa, xsc, rfl⟩ := owns_lenS os.row
              have b8s := b8.size
              have B8 : Below w7.heap.size w7 w8 := hnx.trans (b8.mono hsz)
              have hql : qs.length ≤ 60 := by
                have e1 := congrArg List.length fs
                have e2 := List.length_filter_le (inScope (k : Int)) M
                simp [fsts] at e1
                omega
              have FS := hide fs
              have OS := hide os
              clear fs os b8 hnx
              go_wp2
              go_loopw [14, 11] (fun i o wr => ∃ (j : Nat) (t : Nat), j ≤ qs.length ∧ i = .int .i64 j ∧ o = .int .i64 (t : Int) ∧ Hid (t = s + cntA (fsts (qs.take j)) (k : Int)) ∧ t ≤ 5000 ∧ Below w8.heap.size w8 wr) (fun i _ _ => qs.length - (intOf i).toNat)
              case atStart => exact ⟨0, s, by omega, rfl, rfl, hide rfl, by omega, Below.refl _ _⟩
              case round =>
                obtain ⟨j, t, hj, rfl, rfl, HTT, ht5, hnx⟩ := hrel
                have hsz2 := hnx.size
                by_cases hjl : j < qs.length
                · have hji : (0 : Int) ≤ (j : Int) := by omega
                  have hjj : (j : Int) < (qs.length : Int) := by omega
                  obtain ⟨p, hp⟩ : ∃ p, qs[j]? = some p := ⟨qs[j], List.getElem?_eq_getElem hjl⟩
                  have hpm : p.1 ∈ M.filter (inScope (k : Int)) := by rw [← FS.out]; exact List.mem_of_getElem? (fsts_at hp)
                  have hsc := (List.mem_filter.1 hpm).2
                  have hct := cntA_take (k : Int) hp
                  obtain ⟨b, off, cpx, hve, hbb, c0, _⟩ := OS.out.at.cells j p hp
                  cases hve
                  rw [← hnx.cell (p := ⟨b, off + j * 8, none⟩) hbb] at c0
                  have hcl : cntA (fsts (qs.take (j + 1))) (k : Int) ≤ 60 := by
                    have e1 := cntA_le (fsts (qs.take (j + 1))) (k : Int)
                    simp [fsts] at e1
                    simp [fsts]
                    omega
                  by_cases hak : p.1.area = (k : Int)
                  · rw [hak] at c0
                    rw [if_pos hak] at hct
                    have HN := hide (show t + 1 = s + cntA (fsts (qs.take (j + 1))) (k : Int) by rw [hct, HTT.out]; omega)
                    have hw1 : IntKind.i64.wrap ((t : Int) + 1) = ((t + 1 : Nat) : Int) := by rw [wrap_fit _ (by omega) (by omega)]; omega
                    have ht6 : t + 1 ≤ 5000 := by have := HN.out; omega
                    clear hak hct hsc hpm hp hcl
                    go_wp2
                    go_roundw
                    case rel => exact ⟨j + 1, t + 1, by omega, by go_num, by go_num, HN, ht6, hnx⟩
                    case measure => simp [intOf]; omega
                  · have h9 : p.1.area = 9 := by
                      unfold inScope at hsc
                      simp only [Bool.or_eq_true, beq_iff_eq] at hsc
                      omega
                    rw [h9] at c0
                    rw [if_neg hak] at hct
                    have HN := hide (show t = s + cntA (fsts (qs.take (j + 1))) (k : Int) by rw [hct, HTT.out]; omega)
                    clear hak hct hsc hpm hp h9 hcl
                    go_wp2
                    go_roundw
                    case rel => exact ⟨j + 1, t, by omega, by go_num, rfl, HN, ht5, hnx⟩
                    case measure => simp [intOf]; omega
                · have hjn : ¬ (j : Int) < (qs.length : Int) := by omega
                  have HN := hide (show t = sumA M (k + 1) by
                    have e := HTT.out
                    rw [List.take_of_length_le (by omega), FS.out, cntA_scope, HS.out] at e
                    exact e)
                  have hlt2 : t ≤ 1000 * (k + 1) := by
                    have e := HN.out
                    simp only [sumA] at e
                    have e2 := HSL.out (k : Int)
                    have e3 := HS.out
                    omega
                  go_wp2
                  go_roundw
                  case rel => exact ⟨k + 1, t, by omega, by go_num, rfl, HN, hlt2, B8.trans (hnx.mono B8.size)⟩
                  case measure => simp [intOf]; omega
            · have hk3 : k = 3 := by omega
              subst hk3
              have HEND := hide (show s + (M.filter (inScope 9)).length = qm.length by
                rw [HS.out, ← HML.out]
                exact sumA_three M (store_ok HMG.out.sto).2.1)
              have BR : Below w1.heap.size w1 wr := B1R.trans (hnx.mono B1R.size)
              have OM9 := hide ((OM8.out.below hnx (Nat.le_refl _)).wide (Nat.le_refl _) hsz)
              go_wp2_with fail
              refine (HSC.out 9 _ hnx).mono ?_
              rintro e w8 ⟨x9, q9, rfl, f9, o9, b8⟩
              obtain ⟨x9a, x9c, rfl⟩ := owns_lenS o9.row
              have b8s := b8.size
              have hq9 : s + q9.length = qm.length := by
                have e1 := congrArg List.length f9
                simp [fsts] at e1
                have e2 := HEND.out
                rw [e1]
                exact e2
              have hw9 : IntKind.i64.wrap ((s : Int) + (q9.length : Int)) = (qm.length : Int) := by rw [wrap_fit _ (by omega) (by omega)]; omega
              have OMA := hide ((OM9.out.below b8 (Nat.le_refl _)).wide (Nat.le_refl _) b8s)
              have BR8 : Below w1.heap.size w1 w8 := BR.trans (b8.mono BR.size)
              have HMM := imerge_any (.slice xma qm.length xmc) (.slice xb qb.length xbc) qm qb w8.heap.size w8 OMA.out.in ((HOB.out.below BR8 (Nat.le_refl _)).wide BR8.size) (Nat.le_refl _) (by omega)
              rw [FM.out, ← HB.out, HMG.out.again] at HMM
              have HMM := hide HMM
              clear hq9 f9 o9 b8 HSC OM9 OM8 hnx
              go_wp2_with fail
              refine HMM.out.mono ?_
              rintro e w9 ⟨xc, qc, rfl, fc, oc, b9⟩
              obtain ⟨xca, xcc, rfl⟩ := owns_lenS oc.row
              have HSS := hide (sameStore_any (.slice xca qc.length xcc) (.slice xma qm.length xmc) qc qm w9.heap.size w9 oc.in ((OMA.out.below b9 (Nat.le_refl _)).wide (Nat.le_refl _) b9.size).in (fc.trans FM.out.symm) (Nat.le_refl _) (by rw [tot_D, fc, ← FM.out, ← tot_D]; omega))
              have B9 : Below w.heap.size w w9 := b1.trans ((BR8.trans (b9.mono BR8.size)).mono hs1)
              clear fc oc HMM OMA
              go_wp2_with fail
              refine HSS.out.mono ?_
              rintro e wA ⟨rfl, bA⟩
              go_wp2
              go_ret
              exact ⟨rfl, B9.trans (bA.mono B9.size)⟩
end Go.Proofs.Ytdaigojpeofmpaa
namespace Go.Proofs.Ytdaigojpeofmpaa
namespace fnMerges
open Go.ChangeShapes Go.WideShapes Go.ChangeAt Go.RowKit
open Go.ChangeMaps (open_string shut_string)
set_option linter.unusedVariables false

theorem own : ownKnob Try.prog.godebug = none := by kernel_rfl
theorem laidOut : laidOutB Try.prog = true := by kernel_rfl

set_option maxRecDepth 100000 in
theorem lifted (os : Os) (started : os.Started) (H : Type) (enc : TypeId × Value → H) :
    ReturnsInHanded {} Try.checked os 5 .any (Rows.fnMergesSpec.pre6 enc Try.prog Try.f5 Rows.fnMergesRow.domain false) (Rows.fnMergesSpec.post enc Try.prog Try.f5 false true false false) := by
  refine returnsInHanded_of_change (C := Try.checked) own started (by kernel_rfl) Try.func5
    (ChangeSpec.witness6 (enc := enc) (C := Try.checked) false ⟨#[], #[.slice none 0 0], []⟩ 8 (by kernel_rfl) (by kernel_rfl) (by kernel_rfl) (by kernel_rfl)) ?_
  intro W base args ds gs before hval0 hW hcnd _
  have hval : ∀ (j : Nat) t v, Try.f5.params[j]? = some t → args[j]? = some v → Value.okWide Try.prog W .any base t v := hval0
  have hW' := hW
  obtain ⟨p, q, hA0, hV, rfl, hfz, hnd⟩ := hW
  have hA : DataW.TrodAll enc Try.prog W 0 (fun _ => true) true Try.f5.params.toList args.toList ds p := hA0
  rw [Try.params5] at hA hval
  obtain ⟨v0, vs0, d0, ds0, p0, q0, hargs, rfl, rfl, h0, r0⟩ := trodAll_cons hA
  obtain ⟨rfl, rfl, rfl⟩ := trodAll_nil r0
  obtain rfl : args = #[v0] := by cases args; simp_all
  obtain ⟨rfl, rfl⟩ := trodVars_none hV
  obtain ⟨a0, len0, cap0, rfl⟩ := okWide_slice Try.underlying48 (hval 0 48 v0 rfl rfl)
  have k0 := h0
  have lt0 : ∀ x ∈ p0, x.block < W.heap.size := by obtain ⟨m, hm⟩ := k0; exact DataW.trod_lt m _ _ _ hm
  have w0 : len0 ≤ 1048576 → Code W a0 len0 W.heap.size := fun hl20 => by
    obtain ⟨fuel, hf⟩ := h0
    refine ⟨hl20, ?_⟩
    rcases open_ints Try.underlying48 Try.underlying5 (by kernel_rfl) hf with ⟨hcs, _⟩ | ⟨x, l, c, zs, hcs, _, hl, hm, hz, _, hcell, hwz⟩
    · simp [Value.cells] at hcs
      exact .inl hcs.2.1
    · simp [Value.cells] at hcs
      obtain ⟨rfl, rfl, rfl⟩ := hcs
      by_cases hl0 : len0 = 0
      · exact .inl hl0
      · obtain ⟨b, off, spot⟩ := x
        have hzl : zs.length = cap0 := by simpa using hz
        have hc0 := hcell 0 (by omega)
        have hspot : spot = none := by simpa [Addr.add] using World.cell?_spot hc0
        subst hspot
        have hb : b < W.heap.size := by
          have := World.block_lt_of_cell? W _ hc0
          simpa [Addr.add] using this
        refine .inr ⟨b, off, rfl, hb, fun j hj => ?_⟩
        have hjz : j < zs.length := by omega
        have hcj := hcell j hjz
        have e1 : (⟨b, off, none⟩ : Addr).add j = ⟨b, off + j, none⟩ := by
          simp only [Addr.add]
          split <;> simp_all
        have hgd : zs.getD j 0 = zs[j] := by simp [List.getElem?_eq_getElem hjz]
        have hwj := bounds_u8 (hwz (zs.getD j 0) (by rw [hgd]; exact List.getElem_mem hjz))
        rw [e1] at hcj
        exact ⟨(zs.getD j 0).toNat, by omega, by rw [hcj]; congr 2; omega⟩
  clear hA0 hval0
  refine (fnMerges_walk a0 len0 cap0 W w0).mono fun e W' ⟨he, bel⟩ => ?_
  subst he
  exact ⟨_, rfl, _, _, _, [], _, [], hW', trodAll_mk1 (shut_bool Try.underlying4 _), (trodAll_cons_mk (Below.trod laidOut (by kernel_rfl) (of_decide_eq_true (by kernel_rfl)) k0 bel lt0) trodAll_mk0), rfl, bel.frame _, fun h => by cases h⟩

theorem over : Rows.fnMergesRow.holds Try.pinned (OpenSpec.ofChange Rows.fnMergesSpec) :=
  OpenClaim.holds_of_wide 5 Try.f5 rfl rfl rfl rfl rfl rfl rfl ⟨rfl, rfl, rfl, rfl, rfl⟩ rfl rfl rfl rfl rfl (by kernel_rfl) Try.func5 (by kernel_rfl)
    (of_decide_eq_true (by kernel_rfl)) (by unfold Func.isWrapper; first | (rw [if_pos (by decide +kernel)]; kernel_rfl) | (rw [if_neg (by decide +kernel)]; exact ⟨rfl, rfl⟩))
    (fun os started H enc _ => lifted os started H enc)
end fnMerges

theorem fnMerges_proved : Rows.FnMergesSaid := fnMerges.over
#print axioms fnMerges_proved
end Go.Proofs.Ytdaigojpeofmpaa
