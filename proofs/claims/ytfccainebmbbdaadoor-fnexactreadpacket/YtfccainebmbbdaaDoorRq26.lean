/-
  The bytes of a packet.
  Two small laws on rows (cut out of RdN).
  The developers' reader of fields: near: its contract.
  The program's reader of packets: what it reads, or its fault.
-/
import Derived.Test.YtfccainebmbbdaaDoorRq23
import Derived.Test.YtfccainebmbbdaaDoorRq24
import Derived.Test.YtfccainebmbbdaaDoorRq25
import Derived.Test.YtfccainebmbbdaaDoorRq1
import Derived.Test.YtfccainebmbbdaaDoorRq4
import Derived.Deep.RegionHeld3
import Derived.Deep.QuietTactic
import Derived.BigQuiet
import Derived.Test.YtfccainebmbbdaaDoorRq3
namespace Go.Proofs.YtfccainebmbbdaaDoor
open Go.RowKit

set_option linter.unusedSimpArgs false

theorem varL_pow : ∀ (k n : Nat), n < 128 ^ (k + 1) → (varL n).length ≤ k + 1
  | 0, n, h => by rw [varL_small (by omega)]; simp
  | k + 1, n, h => by
    by_cases hn : 127 < n
    · rw [varL_big hn]
      have h1 : n / 128 < 128 ^ (k + 1) := Nat.div_lt_of_lt_mul (by rw [Nat.pow_succ] at h; omega)
      have := varL_pow k (n / 128) h1
      simp only [List.length_cons]
      omega
    · rw [varL_small (by omega)]; simp

theorem varL_five {n : Nat} (h : n ≤ 1000000000) : (varL n).length ≤ 5 := varL_pow 4 n (by omega)

theorem nearsL_six {ns : List Nr} (h : ∀ n ∈ ns, (1 ≤ n.to ∧ n.to ≤ 6) ∧ (1 ≤ n.c ∧ n.c ≤ 1000)) : (nearsL ns).length ≤ 6 * ns.length := by
  induction ns with
  | nil => simp [nearsL]
  | cons n ns ih =>
    have h1 := ih (fun m hm => h m (List.mem_cons_of_mem _ hm))
    have h2 := h n (List.mem_cons_self ..)
    have h3 := varL_five (n := n.c.toNat) (by omega)
    simp only [nearsL, List.flatMap_cons, List.length_append, nearL, List.length_cons] at h1 ⊢
    omega

theorem recL_len {x : RecD} (h : recOkB x = true) : (recL x).length ≤ 60 := by
  have hb := recOk_bounds h
  have hn := recOk_near h
  have h1 := nearsL_six hb.near
  have h2 := varL_five (n := x.seq.toNat) (by have := hb.seq; omega)
  have h3 := varL_five (n := x.near.length) (by omega)
  have h4 := varL_five (n := x.cost.toNat) (by have := hb.cost; omega)
  have h5 : (farL x.far).length = 1 := by unfold farL; split <;> rfl
  simp only [recL, headL, List.length_append, List.length_cons, List.length_nil]
  omega

/-- a record's text with its length ahead -/
def shortL (r : RecD) : List UInt8 := varL (recL r).length ++ recL r

theorem shortL_len {x : RecD} (h : recOkB x = true) : (shortL x).length ≤ 65 := by
  have h1 := recL_len h
  have h2 := varL_five (n := (recL x).length) (by omega)
  simp only [shortL, List.length_append]
  omega

def shortsL (xs : List RecD) : List UInt8 := xs.flatMap shortL

theorem shortsL_len {xs : List RecD} (h : ∀ x ∈ xs, recOkB x = true) : (shortsL xs).length ≤ 65 * xs.length := by
  induction xs with
  | nil => simp [shortsL]
  | cons x xs ih =>
    have h1 := ih (fun m hm => h m (List.mem_cons_of_mem _ hm))
    have h2 := shortL_len (h x (List.mem_cons_self ..))
    simp only [shortsL, List.flatMap_cons, List.length_append, List.length_cons] at h1 ⊢
    omega

theorem shortsL_succ {xs : List RecD} {k : Nat} {r : RecD} (h : xs[k]? = some r) : shortsL (xs.take (k + 1)) = shortsL (xs.take k) ++ shortL r := by
  obtain ⟨hk, e⟩ := List.getElem?_eq_some_iff.1 h
  rw [List.take_succ_eq_append_getElem hk, e]
  simp [shortsL]

def oneL (x : PkD) : List UInt8 := [byB x.kind, byB x.src, byB x.dst, byB x.area]

def pkL (x : PkD) (xs : List RecD) : List UInt8 := oneL x ++ varL x.heard.length ++ x.heard.map byB ++ varL xs.length ++ shortsL xs

def ptV (x : PkD) (xs : List RecD) : Value := if pkB x xs = true then .tuple #[.string (bs (pkL x xs) ++ bs (fourL (sumS (bs (pkL x xs))))), .bool true] else .tuple #[.string (bs []), .bool false]

structure PkBounds (x : PkD) (xs : List RecD) : Prop where
  kind : 1 ≤ x.kind ∧ x.kind ≤ 3
  src : 1 ≤ x.src ∧ x.src ≤ 6
  dst : 1 ≤ x.dst ∧ x.dst ≤ 6
  area : 0 ≤ x.area ∧ x.area ≤ 2
  few : x.heard.length ≤ 6
  heard : ∀ z ∈ x.heard, 1 ≤ z ∧ z ≤ 6
  list : xs.length ≤ 150
  recs : ∀ r ∈ xs, recOkB r = true

theorem nodes_in {h : List Int} (hn : nodesB h = true) : ∀ z ∈ h, 1 ≤ z ∧ z ≤ 6 := by
  unfold nodesB at hn
  simp only [Bool.and_eq_true] at hn
  intro z hz
  obtain ⟨i, hi, e⟩ := List.getElem_of_mem hz
  have h1 := allOk_at hn.1 i hi
  rw [e] at h1
  simpa [inB] using h1

theorem nodes_few {h : List Int} (hn : nodesB h = true) : h.length ≤ 6 := by
  have hin := nodes_in hn
  unfold nodesB at hn
  simp only [Bool.and_eq_true] at hn
  have hb : ∀ i (hi : i < h.length), (i : Int) + 1 ≤ h[i] := by
    intro i
    induction i with
    | zero =>
      intro hi
      have := hin h[0] (List.getElem_mem hi)
      omega
    | succ i ih =>
      intro hi
      have h1 := ih (by omega)
      have h2 := List.all_eq_true.1 hn.2 (i + 1) (List.mem_range.2 hi)
      rw [ascAt_eq (List.getElem?_eq_getElem (by omega)) (List.getElem?_eq_getElem hi)] at h2
      simp only [decide_eq_true_eq] at h2
      have h3 := cmpN_neg.1 h2
      omega
  cases Nat.lt_or_ge 6 h.length with
  | inr h0 => exact h0
  | inl h0 =>
    have h1 := hb 6 h0
    have h2 := hin h[6] (List.getElem_mem h0)
    omega

theorem store_all {xs : List RecD} (h : storeB xs = true) : xs.length ≤ 150 ∧ ∀ r ∈ xs, recOkB r = true := by
  unfold storeB at h
  simp only [Bool.and_eq_true, decide_eq_true_eq] at h
  refine ⟨h.1.1, fun x hx => ?_⟩
  obtain ⟨i, hi, e⟩ := List.getElem_of_mem hx
  rw [← e]
  exact allOk_at h.1.2 i hi

theorem pk_bounds {x : PkD} {xs : List RecD} (h : pkB x xs = true) : PkBounds x xs := by
  unfold pkB at h
  simp only [Bool.and_eq_true] at h
  obtain ⟨h1, h2, _, h3, h4⟩ := h
  rw [inB_iff] at h1 h2 h3
  by_cases k1 : x.kind = 1
  · rw [said_one k1] at h4
    simp only [Bool.and_eq_true, beq_iff_eq] at h4
    have e0 : xs = [] := List.eq_nil_of_length_eq_zero h4.2
    exact ⟨by omega, h1, h2, h3, nodes_few h4.1, nodes_in h4.1, by rw [e0]; simp, by rw [e0]; simp⟩
  · by_cases k2 : x.kind = 2
    · rw [said_two k2] at h4
      simp only [Bool.and_eq_true, beq_iff_eq] at h4
      have e0 : x.heard = [] := List.eq_nil_of_length_eq_zero h4.1
      have h5 := h4.2.1
      unfold toldB at h5
      simp only [Bool.and_eq_true] at h5
      exact ⟨by omega, h1, h2, h3, by rw [e0]; simp, by rw [e0]; simp, (store_all h5.2).1, (store_all h5.2).2⟩
    · by_cases k3 : x.kind = 3
      · rw [said_three k3] at h4
        simp only [Bool.and_eq_true, beq_iff_eq] at h4
        have e0 : x.heard = [] := List.eq_nil_of_length_eq_zero h4.1
        have h5 := h4.2
        unfold toldB at h5
        simp only [Bool.and_eq_true] at h5
        exact ⟨by omega, h1, h2, h3, by rw [e0]; simp, by rw [e0]; simp, (store_all h5.2).1, (store_all h5.2).2⟩
      · rw [said_none k1 k2 k3] at h4
        cases h4

theorem pkL_len {x : PkD} {xs : List RecD} (h : PkBounds x xs) : (pkL x xs).length ≤ 10000 := by
  have h1 := shortsL_len h.recs
  have h2 := varL_five (n := x.heard.length) (by have := h.few; omega)
  have h3 := varL_five (n := xs.length) (by have := h.list; omega)
  have h4 := h.few
  have h5 := h.list
  simp only [pkL, oneL, List.length_append, List.length_cons, List.length_nil, List.length_map]
  omega
end Go.Proofs.YtfccainebmbbdaaDoor
namespace Go.Proofs.YtfccainebmbbdaaDoor
open Go.RowKit

theorem kept_other {w w' : World} {base size p : Nat} {e : TypeId} {v : Value} {n : Nat} {xs : List Value} (h : w.ownsRow base e size v n xs) (hg : w.grownBy w' (some p)) (hp : p < base) : w'.ownsRow base e size v n xs := h.kept hg (by
  rcases h.2 with ⟨e, _⟩ | ⟨g, cp, cur, e, hb, _⟩
  · exact .inl (by rw [e]; rfl)
  · refine .inr ?_
    rw [e]
    intro h
    simp [Value.ownBlock] at h
    omega)

theorem nrE_one (a : Nr) : ∀ u ∈ nrE a, u.oneCell' = true := by
  intro u hu
  simp [nrE] at hu
  rcases hu with rfl | rfl <;> rfl

end Go.Proofs.YtfccainebmbbdaaDoor
namespace Go.Proofs.YtfccainebmbbdaaDoor
open Go.RowKit

/-- old blocks but z stay, where an append turned a row of the call's own -/
theorem grown_app {w wr w' : World} {z base : Nat} {o : Obj} {v : Value} {e : TypeId} {size n : Nat} {xs : List Value} (h : w.grownBy wr (some z)) (hg : (wr.alloc o).grownBy w' v.ownBlock) (ho : wr.ownsRow base e size v n xs) (hb : base = w.heap.size) : w.grownBy w' (some z) := by
  refine ⟨hg.os.trans h.os, hg.tape.trans h.tape, hg.output.trans h.output, ?_, fun k hk hr => ?_⟩
  · have h1 := h.size
    have h2 := hg.size
    simp at h2
    omega
  · have hkr : k < wr.heap.size := Nat.lt_of_lt_of_le hk h.size
    rw [hg.block k (by simp; omega) (fun e => by have := (ho.lt k e.symm).1; omega), Below.heap_alloc _ _ _ hkr]
    exact h.block k hk hr

theorem rd_app {wr w' : World} {z base p : Nat} {t : TypeId} {s : ByteArray} {b : Bool} {o : Obj} {v : Value} {e : TypeId} {size n : Nat} {xs : List Value} (h : RdAt wr z t s p b) (hg : (wr.alloc o).grownBy w' v.ownBlock) (ho : wr.ownsRow base e size v n xs) (hz : z < base) : RdAt w' z t s p b := by
  have hl := lt_of_heap h
  have : w'.heap[z]? = wr.heap[z]? := by
    rw [hg.block z (by simp; omega) (fun e => by have := (ho.lt z e.symm).1; omega), Below.heap_alloc _ _ _ hl]
  exact this.trans h

set_option maxRecDepth 100000 in
set_option maxHeartbeats 1000000 in
theorem nearI_any (z p : Nat) (s : ByteArray) (b : Bool) (w : World) (hs : s.size ≤ 1048576) (hp : p ≤ s.size) (h : RdAt w z 66 s p b) :
    Calls Tryd.prog 77 #[.pointer (some ⟨z, 0, none⟩)] w fun e w' => ∃ u : Value, e = .returned u ∧ w'.ownsRow w.heap.size 55 2 u (nearA s (varR s p b).p (varR s p b).b (varR s p b).v.toNat).l.length (flat nrE (nearA s (varR s p b).p (varR s p b).b (varR s p b).v.toNat).l) ∧ RdAt w' z 66 s (nearA s (varR s p b).p (varR s p b).b (varR s p b).v.toNat).p (nearA s (varR s p b).p (varR s p b).b (varR s p b).v.toNat).b ∧ w.grownBy w' (some z) := by
  have hz := lt_of_heap h
  have H1 := hide (numI_any z p s b w hs hp h)
  have HO := hide (fun q c W => oneI_any z q s c W hs)
  have HN := hide (fun q c W => numI_any z q s c W hs)
  have hq := varR_le (b := b) hp
  have hr := varR_range (b := b) hp
  clear h
  generalize varR s p b = r0 at H1 hq hr ⊢
  obtain ⟨n0, q0, c0⟩ := r0
  simp only [] at H1 hq hr ⊢
  obtain ⟨n, rfl⟩ : ∃ m : Nat, n0 = (m : Int) := ⟨n0.toNat, by omega⟩
  have hn : n ≤ 1000000000 := by omega
  rw [Int.toNat_natCast]
  clear hr
  go_enter Tryd.func77, Tryd.ntmps77
  go_wp2_with fail
  refine H1.out.mono ?_
  rintro e w1 ⟨rfl, hh1, hg1⟩
  have HH1 := hide hh1
  clear hh1 H1
  go_wp2
  go_loopw [3, 4] (fun u i wr => ∃ (k : Nat) (r : RdL), k ≤ n ∧ i = .int .i64 ((n : Int) - (k : Int)) ∧ r = nearA s q0 c0 k ∧ wr.ownsRow w.heap.size 55 2 u r.l.length (flat nrE r.l) ∧ RdAt wr z 66 s r.p r.b ∧ w.grownBy wr (some z)) (fun _ i _ => (intOf i).toNat)
  case atStart => exact ⟨0, ⟨[], q0, c0⟩, by omega, by simp, rfl, ⟨by simp [flat], .inl ⟨rfl, rfl⟩⟩, HH1.out, hg1⟩
  case round =>
    clear hg1 HH1
    obtain ⟨k, r, hk, rfl, hrr, hown, hrd, hg⟩ := hrel
    have hle := nearA_le (b := c0) hq k
    have hsz := (nearA_size (b := c0) hq k).1
    rw [← hrr] at hle hsz
    have HRR := hide hrr
    have OW := hide hown
    have c2 := cells_at hrd 2
    simp at c2
    have RD := hide hrd
    have hzw := hg.size
    clear hown hrd hrr
    obtain ⟨l, q, c⟩ := r
    simp only [] at *
    by_cases hkn : k < n
    · have hk0 : (0 : Int) < (n : Int) - (k : Int) := by omega
      cases c
      · have HST := hide (nearA_good (s := s) (p := q0) (b := c0) (k := k) (by rw [← HRR.out]))
        rw [← HRR.out] at HST
        simp only [] at HST
        go_wp2_with fail
        refine (HO.out q false _ hle RD.out).mono ?_
        rintro e w2 ⟨rfl, hh2, hg2⟩
        have hle2 := oneR_le (b := false) hle
        have hrt := oneR_range s q false
        have ow2 := kept_other OW.out hg2 hz
        generalize oneR s q false = r1 at HST hh2 hle2 hrt ⊢
        obtain ⟨t1, q1, c1⟩ := r1
        simp only [] at HST hh2 hle2 hrt ⊢
        have OW2 := hide ow2
        have RD2 := hide hh2
        have G2 := hide (grown_trans hg hg2)
        clear ow2 hh2 hg2 OW RD hg c2
        go_wp2_with fail
        refine (HN.out q1 c1 _ hle2 RD2.out).mono ?_
        rintro e w3 ⟨rfl, hh3, hg3⟩
        have ow3 := kept_other OW2.out hg3 hz
        generalize varR s q1 c1 = r2 at HST hh3 ⊢
        obtain ⟨t2, q2, c2⟩ := r2
        simp only [] at HST hh3 ⊢
        have hs3 : w.heap.size ≤ w3.heap.size := Nat.le_trans G2.out.size hg3.size
        have OW3 := hide ow3
        have RD3 := hide hh3
        have G3 := hide (grown_trans G2.out hg3)
        clear ow3 hh3 hg3 OW2 RD2 G2
        go_wp2_with (first
          | (at_builtin; refine wpList_append_struct nrE_len (by omega) nrE_one (by omega) _ rfl _ _ 37 rfl w.heap.size 55 Tryd.underlying37 (nrV nr0) rfl Tryd.infoNr u3 l ⟨t1, t2⟩ rfl (OW3.out.alloc _) ⟨w3.heap.size, 0, none⟩ 1 rfl (news_struct (cs := nrE ⟨t1, t2⟩)) (by omega) (by simp; omega) ?_))
        intro v' w4 l' hl' hown' hgrow
        have RD4 := hide (rd_app RD3.out hgrow OW3.out hz)
        have G4 := hide (grown_app G3.out hgrow OW3.out rfl)
        have OW4 := hide hown'
        clear hown' hgrow
        go_wp2
        go_roundw
        case rel => exact ⟨k + 1, ⟨l', q2, c2⟩, by omega, by simp; omega, by rw [HST.out, hl'.out], OW4.out, RD4.out, G4.out⟩
        case measure => simp [intOf]; omega
      · have HB := hide (nearA_bad (s := s) (p := q0) (b := c0) (k := k) (by rw [← HRR.out]) (n - k))
        go_wp2
        go_ret
        have e := HB.out
        rw [show k + (n - k) = n by omega] at e
        rw [e, ← HRR.out]
        exact ⟨_, rfl, OW.out, RD.out, hg⟩
    · have hkn' : k = n := by omega
      have hk0 : ¬ (0 : Int) < (n : Int) - (k : Int) := by omega
      have HKN := hide hkn'
      clear hkn'
      go_wp2
      go_ret
      rw [← HKN.out, ← HRR.out]
      exact ⟨_, rfl, OW.out, RD.out, hg⟩
end Go.Proofs.YtfccainebmbbdaaDoor
namespace Go.Proofs.YtfccainebmbbdaaDoor
open Go.RowKit

set_option linter.unusedSimpArgs false

/-- what the reader panics with -/
abbrev fault : List PanicEntry := [{ v := .iface 63 (.agg #[]), recovered := false }]

theorem hold_yes (z : Nat) (w : World) : Calls Tryd.prog 40 #[.pointer (some ⟨z, 0, none⟩), .bool true] w fun e w' => e = .returned (.tuple #[]) ∧ w = w' := by
  go_enter Tryd.func40, Tryd.ntmps40
  go_wp2
  go_returns
  exact ⟨rfl, rfl⟩

theorem hold_no (z : Nat) (w : World) : Calls Tryd.prog 40 #[.pointer (some ⟨z, 0, none⟩), .bool false] w fun e w' => e = .panicked fault ∧ w = w' := by
  go_enter Tryd.func40, Tryd.ntmps40
  go_wp2
  exact ⟨rfl, rfl, rfl⟩

/-- one value is read, or the reader faults -/
def Gave (b : Bool) (v : Int) (e : Ending) : Prop := (b = false ∧ e = .returned (.int .i64 v)) ∨ (b = true ∧ e = .panicked fault)

set_option maxRecDepth 100000 in
set_option maxHeartbeats 1000000 in
theorem oneP_any (z p : Nat) (s : ByteArray) (w : World) (hs : s.size ≤ 1048576) (hp : p ≤ s.size) (h : RdAt w z 68 s p false) :
    Calls Tryd.prog 37 #[.pointer (some ⟨z, 0, none⟩)] w fun e w' => Gave (oneR s p false).b (oneR s p false).v e ∧ RdAt w' z 68 s (oneR s p false).p (oneR s p false).b ∧ w.grownBy w' (some z) := by
  have HO := hide (oneJ_any 68 z p s false w hs hp h)
  have hz := lt_of_heap h
  obtain ⟨⟨v, p', b⟩, he⟩ : ∃ r, oneR s p false = r := ⟨_, rfl⟩
  rw [he] at HO ⊢
  simp only [] at HO ⊢
  clear h
  go_enter Tryd.func37, Tryd.ntmps37
  go_wp2_with fail
  refine HO.out.mono ?_
  rintro e w1 ⟨rfl, r1, g1⟩
  have c2 := cells_at r1 2
  simp at c2
  have R1 := hide r1
  have G1 := hide g1
  have HY := hide (hold_yes z)
  have HN := hide (hold_no z)
  clear r1 g1 HO he
  cases b
  · go_wp2_with fail
    refine (HY.out _).mono ?_
    rintro e w2 ⟨rfl, rfl⟩
    go_wp2
    go_ret
    exact ⟨.inl ⟨rfl, rfl⟩, R1.out, G1.out⟩
  · go_wp2_with fail
    refine (HN.out _).mono ?_
    rintro e w2 ⟨rfl, rfl⟩
    go_wp2
    exact ⟨rfl, .inr ⟨rfl, rfl⟩, R1.out, G1.out⟩

set_option maxRecDepth 100000 in
set_option maxHeartbeats 1000000 in
theorem numP_any (z p : Nat) (s : ByteArray) (w : World) (hs : s.size ≤ 1048576) (hp : p ≤ s.size) (h : RdAt w z 68 s p false) :
    Calls Tryd.prog 56 #[.pointer (some ⟨z, 0, none⟩)] w fun e w' => Gave (varR s p false).b (varR s p false).v e ∧ RdAt w' z 68 s (varR s p false).p (varR s p false).b ∧ w.grownBy w' (some z) := by
  have HO := hide (numJ_any 68 z p s false w hs hp h)
  have hz := lt_of_heap h
  obtain ⟨⟨v, p', b⟩, he⟩ : ∃ r, varR s p false = r := ⟨_, rfl⟩
  rw [he] at HO ⊢
  simp only [] at HO ⊢
  clear h
  go_enter Tryd.func56, Tryd.ntmps56
  go_wp2_with fail
  refine HO.out.mono ?_
  rintro e w1 ⟨rfl, r1, g1⟩
  have c2 := cells_at r1 2
  simp at c2
  have R1 := hide r1
  have G1 := hide g1
  have HY := hide (hold_yes z)
  have HN := hide (hold_no z)
  clear r1 g1 HO he
  cases b
  · go_wp2_with fail
    refine (HY.out _).mono ?_
    rintro e w2 ⟨rfl, rfl⟩
    go_wp2
    go_ret
    exact ⟨.inl ⟨rfl, rfl⟩, R1.out, G1.out⟩
  · go_wp2_with fail
    refine (HN.out _).mono ?_
    rintro e w2 ⟨rfl, rfl⟩
    go_wp2
    exact ⟨rfl, .inr ⟨rfl, rfl⟩, R1.out, G1.out⟩

/-- so many bytes, one behind another -/
def hearA (s : ByteArray) (p : Nat) : Nat → Option (List Int × Nat)
  | 0 => some ([], p)
  | k + 1 => (hearA s p k).bind fun x => if (oneR s x.2 false).b then none else some (x.1 ++ [(oneR s x.2 false).v], (oneR s x.2 false).p)

theorem hearA_none {s : ByteArray} {p k : Nat} (h : hearA s p k = none) : ∀ m, hearA s p (k + m) = none
  | 0 => h
  | m + 1 => by
    show (hearA s p (k + m)).bind _ = none
    rw [hearA_none h m]
    rfl

theorem hearA_bad {s : ByteArray} {p k q : Nat} {l : List Int} (h : hearA s p k = some (l, q)) (hb : (oneR s q false).b = true) : hearA s p (k + 1) = none := by
  show (hearA s p k).bind _ = none
  rw [h]
  simp [hb]

theorem hearA_good {s : ByteArray} {p k q : Nat} {l : List Int} (h : hearA s p k = some (l, q)) (hb : (oneR s q false).b = false) : hearA s p (k + 1) = some (l ++ [(oneR s q false).v], (oneR s q false).p) := by
  show (hearA s p k).bind _ = _
  rw [h]
  simp [hb]

theorem hearA_len {s : ByteArray} {p : Nat} (hp : p ≤ s.size) : ∀ {k : Nat} {l : List Int} {q : Nat}, hearA s p k = some (l, q) → l.length = k ∧ q ≤ s.size ∧ p + k = q
  | 0, l, q, h => by
    simp only [hearA, Option.some.injEq, Prod.mk.injEq] at h
    obtain ⟨rfl, rfl⟩ := h
    exact ⟨rfl, hp, rfl⟩
  | k + 1, l, q, h => by
    cases he : hearA s p k with
    | none => have := hearA_none he 1; rw [this] at h; cases h
    | some x =>
      obtain ⟨l0, q0⟩ := x
      have h0 := hearA_len hp he
      cases hb : (oneR s q0 false).b with
      | true => rw [hearA_bad he hb] at h; cases h
      | false =>
        rw [hearA_good he hb] at h
        simp only [Option.some.injEq, Prod.mk.injEq] at h
        obtain ⟨rfl, rfl⟩ := h
        have h1 : (oneR s q0 false).p = q0 + 1 ∧ q0 < s.size := by
          unfold oneR at hb ⊢
          by_cases hl : q0 < s.size
          · simp [hl]
          · simp [hl] at hb
        refine ⟨by simp [h0.1], by omega, by omega⟩

/-- what is heard: how many, and so many bytes; or the fault -/
def heardB (b : Bool) (s : ByteArray) (p : Nat) (v : Int) : Option (List Int × Nat) := if b then none else hearA s p v.toNat

def heardR (s : ByteArray) (p : Nat) : Option (List Int × Nat) := heardB (varR s p false).b s (varR s p false).p (varR s p false).v

theorem heardB_yes {s : ByteArray} {p n : Nat} : heardB false s p (n : Int) = hearA s p n := rfl

def HeardOut (o : Option (List Int × Nat)) (s : ByteArray) (z : Nat) (w : World) (e : Ending) (w' : World) : Prop :=
  w.grownBy w' (some z) ∧ ((o = none ∧ e = .panicked fault) ∨ ∃ u l q, o = some (l, q) ∧ e = .returned u ∧ w'.ownsRow w.heap.size 3 1 u l.length (flat intE l) ∧ RdAt w' z 68 s q false)

set_option maxRecDepth 100000 in
set_option maxHeartbeats 2000000 in
theorem heardP_any (z p : Nat) (s : ByteArray) (w : World) (hs : s.size ≤ 1048576) (hp : p ≤ s.size) (h : RdAt w z 68 s p false) :
    Calls Tryd.prog 38 #[.pointer (some ⟨z, 0, none⟩)] w fun e w' => HeardOut (heardR s p) s z w e w' := by
  have HN := hide (numP_any z p s w hs hp h)
  have hz := lt_of_heap h
  have hvp := varR_le (b := false) hp
  have hvr := varR_range (b := false) hp
  unfold heardR
  obtain ⟨⟨v, p', b⟩, he⟩ : ∃ r, varR s p false = r := ⟨_, rfl⟩
  rw [he] at HN hvp hvr ⊢
  simp only [] at HN hvp hvr ⊢
  clear h
  go_enter Tryd.func38, Tryd.ntmps38
  go_wp2_with fail
  refine HN.out.mono ?_
  rintro e w1 ⟨hg, r1, g1⟩
  rcases hg with ⟨rfl, rfl⟩ | ⟨rfl, rfl⟩
  case inr =>
    have G1 := hide g1
    clear r1 g1
    go_wp2
    exact ⟨rfl, G1.out, .inl ⟨rfl, rfl⟩⟩
  obtain ⟨n, rfl⟩ : ∃ n : Nat, v = (n : Int) := ⟨v.toNat, by omega⟩
  have R1 := hide r1
  have G1 := hide g1
  clear r1 g1 HN he
  go_wp2
  go_loopw [6, 3] (fun i o wr => ∃ (k q : Nat) (l : List Int), k ≤ n ∧ i = .int .i64 k ∧ Hid (hearA s p' k = some (l, q)) ∧ wr.ownsRow w.heap.size 3 1 o l.length (flat intE l) ∧ RdAt wr z 68 s q false ∧ w.grownBy wr (some z)) (fun i _ _ => n - (intOf i).toNat)
  case atStart => exact ⟨0, p', [], by omega, rfl, hide rfl, World.ownsRow_nil _ _ _ _, R1.out, G1.out⟩
  case round =>
    clear R1 G1
    obtain ⟨k, q, l, hk, rfl, hh, ho, hr, hg⟩ := hrel
    obtain ⟨oa, oc, rfl⟩ := owns_lenS ho
    have HLN := hide (hearA_len hvp hh.out)
    have hll : l.length ≤ 1048576 := by have := HLN.out; omega
    by_cases hlt : k < n
    · have hlt' : (k : Int) < (n : Int) := by omega
      have HO := hide (oneP_any z q s wr hs HLN.out.2.1 hr)
      have HG := hide hg
      have OW := hide ho
      have hzr := lt_of_heap hr
      have hlw : w.heap.size ≤ wr.heap.size := hg.size
      obtain ⟨⟨y, q', b⟩, he2⟩ : ∃ r, oneR s q false = r := ⟨_, rfl⟩
      rw [he2] at HO
      simp only [] at HO
      clear ho hr hg
      go_wp2_with fail
      refine HO.out.mono ?_
      rintro e w2 ⟨hgv, r2, g2⟩
      rcases hgv with ⟨rfl, rfl⟩ | ⟨rfl, rfl⟩
      · have HST := hide (show hearA s p' (k + 1) = some (l ++ [y], q') by rw [hearA_good hh.out (by rw [he2]), he2])
        have o2 := OW.out.kept g2 (.inr (fun e => by have := OW.out.lt z e; omega))
        have hs2 := g2.size
        have O2 := hide o2
        have R2 := hide r2
        have G2 := hide (grown_trans HG.out g2)
        clear o2 r2 g2 he2
        go_wp2_with (first
          | (at_builtin; refine append_struct5 intE_len (by omega) (by omega) _ rfl _ _ 22 rfl w.heap.size 3 Tryd.underlying22 (.int .i64 0) rfl Tryd.info3 _ l y (by intro u hu; simp [intE] at hu; subst hu; rfl) rfl (O2.out.alloc _) ⟨w2.heap.size, 0, none⟩ 1 rfl (news_struct (cs := intE y)) (by omega) (by simp; omega) ?_))
        intro v' w3 ho3 hg3
        obtain ⟨va, vc, rfl⟩ := owns_lenS ho3
        have R3 := hide (rd_app R2.out hg3 O2.out (by omega))
        have G3 := hide (grown_app G2.out hg3 O2.out rfl)
        have O3 := hide ho3
        clear ho3 hg3
        go_wp2
        go_roundw
        case rel => exact ⟨k + 1, q', l ++ [y], by omega, by go_num, HST, by simpa using O3.out, R3.out, G3.out⟩
        case measure => simp [intOf]; omega
      · have HNO := hide (show hearA s p' n = none by
          have h1 := hearA_bad hh.out (by rw [he2])
          have h2 := hearA_none h1 (n - (k + 1))
          rwa [show k + 1 + (n - (k + 1)) = n by omega] at h2)
        have G2 := hide (grown_trans HG.out g2)
        clear g2 r2 he2
        go_wp2
        exact ⟨rfl, G2.out, .inl ⟨heardB_yes.trans HNO.out, rfl⟩⟩
    · have hkn : k = n := by omega
      have HH := hide hh.out
      rw [hkn] at HH
      have OW := hide ho
      have RR := hide hr
      have GG := hide hg
      clear ho hr hg hh hkn
      go_wp2
      go_ret
      exact ⟨GG.out, .inr ⟨_, l, q, heardB_yes.trans HH.out, rfl, OW.out, RR.out⟩⟩
end Go.Proofs.YtfccainebmbbdaaDoor
