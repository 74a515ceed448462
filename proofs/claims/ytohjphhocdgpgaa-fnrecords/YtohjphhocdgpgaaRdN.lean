/-
  The developers' reader of fields: near: its contract.
-/
import Derived.Test.YtohjphhocdgpgaaRdI
import Derived.Test.YtohjphhocdgpgaaAppK
namespace Go.Proofs.Ytohjphhocdgpgaa
open Go.RowKit

theorem nrE_one (a : Nr) : ∀ u ∈ nrE a, u.oneCell' = true := by
  intro u hu
  simp [nrE] at hu
  rcases hu with rfl | rfl <;> rfl

theorem kept_other {w w' : World} {base size p : Nat} {e : TypeId} {v : Value} {n : Nat} {xs : List Value} (h : w.ownsRow base e size v n xs) (hg : w.grownBy w' (some p)) (hp : p < base) : w'.ownsRow base e size v n xs := h.kept hg (by
  rcases h.2 with ⟨e, _⟩ | ⟨g, cp, cur, e, hb, _⟩
  · exact .inl (by rw [e]; rfl)
  · refine .inr ?_
    rw [e]
    intro h
    simp [Value.ownBlock] at h
    omega)

/-- old blocks but z stay, where an append turned a row of the call's own -/
theorem grown_app {w wr w' : World} {z base : Nat} {o : Obj} {v : Value} {e : TypeId} {size n : Nat} {xs : List Value} (h : w.grownBy wr (some z)) (hg : (wr.alloc o).grownBy w' v.ownBlock) (ho : wr.ownsRow base e size v n xs) (hb : base = w.heap.size) : w.grownBy w' (some z) := by
  refine ⟨hg.os.trans h.os, hg.tape.trans h.tape, hg.output.trans h.output, ?_, fun k hk hr => ?_⟩
  · have h1 := h.size
    have h2 := hg.size
    simp at h2
    omega
  · have hkr : k < wr.heap.size := Nat.lt_of_lt_of_le hk h.size
    rw [hg.block k (by simp; omega) (fun e => by have := (ho.lt k e.symm).1; omega), Below.heap_alloc _ _ _ hkr]
    exact h.block k hk hr

theorem rd_app {wr w' : World} {z base p : Nat} {t : TypeId} {s : ByteArray} {b : Bool} {o : Obj} {v : Value} {e : TypeId} {size n : Nat} {xs : List Value} (h : RdAt wr z t s p b) (hg : (wr.alloc o).grownBy w' v.ownBlock) (ho : wr.ownsRow base e size v n xs) (hz : z < base) : RdAt w' z t s p b := by
  have hl := lt_of_heap h
  have : w'.heap[z]? = wr.heap[z]? := by
    rw [hg.block z (by simp; omega) (fun e => by have := (ho.lt z e.symm).1; omega), Below.heap_alloc _ _ _ hl]
  exact this.trans h

set_option maxRecDepth 100000 in
set_option maxHeartbeats 1000000 in
theorem nearI_any (z p : Nat) (s : ByteArray) (b : Bool) (w : World) (hs : s.size ≤ 1048576) (hp : p ≤ s.size) (h : RdAt w z 70 s p b) :
    Calls Try.prog 62 #[.pointer (some ⟨z, 0, none⟩)] w fun e w' => ∃ u : Value, e = .returned u ∧ w'.ownsRow w.heap.size 67 2 u (nearA s (varR s p b).p (varR s p b).b (varR s p b).v.toNat).l.length (flat nrE (nearA s (varR s p b).p (varR s p b).b (varR s p b).v.toNat).l) ∧ RdAt w' z 70 s (nearA s (varR s p b).p (varR s p b).b (varR s p b).v.toNat).p (nearA s (varR s p b).p (varR s p b).b (varR s p b).v.toNat).b ∧ w.grownBy w' (some z) := by
  have hz := lt_of_heap h
  have H1 := hide (numI_any z p s b w hs hp h)
  have HO := hide (fun q c W => oneI_any z q s c W hs)
  have HN := hide (fun q c W => numI_any z q s c W hs)
  have hq := varR_le (b := b) hp
  have hr := varR_range (b := b) hp
  clear h
  generalize varR s p b = r0 at H1 hq hr ⊢
  obtain ⟨n0, q0, c0⟩ := r0
  simp only [] at H1 hq hr ⊢
  obtain ⟨n, rfl⟩ : ∃ m : Nat, n0 = (m : Int) := ⟨n0.toNat, by omega⟩
  have hn : n ≤ 1000000000 := by omega
  rw [Int.toNat_natCast]
  clear hr
  go_enter Try.func62, Try.ntmps62
  go_wp2_with fail
  refine H1.out.mono ?_
  rintro e w1 ⟨rfl, hh1, hg1⟩
  have HH1 := hide hh1
  clear hh1 H1
  go_wp2
  go_loopw [3, 4] (fun u i wr => ∃ (k : Nat) (r : RdL), k ≤ n ∧ i = .int .i64 ((n : Int) - (k : Int)) ∧ r = nearA s q0 c0 k ∧ wr.ownsRow w.heap.size 67 2 u r.l.length (flat nrE r.l) ∧ RdAt wr z 70 s r.p r.b ∧ w.grownBy wr (some z)) (fun _ i _ => (intOf i).toNat)
  case atStart => exact ⟨0, ⟨[], q0, c0⟩, by omega, by simp, rfl, ⟨by simp [flat], .inl ⟨rfl, rfl⟩⟩, HH1.out, hg1⟩
  case round =>
    clear hg1 HH1
    obtain ⟨k, r, hk, rfl, hrr, hown, hrd, hg⟩ := hrel
    have hle := nearA_le (b := c0) hq k
    have hsz := (nearA_size (b := c0) hq k).1
    rw [← hrr] at hle hsz
    have HRR := hide hrr
    have OW := hide hown
    have c2 := cells_at hrd 2
    simp at c2
    have RD := hide hrd
    have hzw := hg.size
    clear hown hrd hrr
    obtain ⟨l, q, c⟩ := r
    simp only [] at *
    by_cases hkn : k < n
    · have hk0 : (0 : Int) < (n : Int) - (k : Int) := by omega
      cases c
      · have HST := hide (nearA_good (s := s) (p := q0) (b := c0) (k := k) (by rw [← HRR.out]))
        rw [← HRR.out] at HST
        simp only [] at HST
        go_wp2_with fail
        refine (HO.out q false _ hle RD.out).mono ?_
        rintro e w2 ⟨rfl, hh2, hg2⟩
        have hle2 := oneR_le (b := false) hle
        have hrt := oneR_range s q false
        have ow2 := kept_other OW.out hg2 hz
        generalize oneR s q false = r1 at HST hh2 hle2 hrt ⊢
        obtain ⟨t1, q1, c1⟩ := r1
        simp only [] at HST hh2 hle2 hrt ⊢
        have OW2 := hide ow2
        have RD2 := hide hh2
        have G2 := hide (grown_trans hg hg2)
        clear ow2 hh2 hg2 OW RD hg c2
        go_wp2_with fail
        refine (HN.out q1 c1 _ hle2 RD2.out).mono ?_
        rintro e w3 ⟨rfl, hh3, hg3⟩
        have ow3 := kept_other OW2.out hg3 hz
        generalize varR s q1 c1 = r2 at HST hh3 ⊢
        obtain ⟨t2, q2, c2⟩ := r2
        simp only [] at HST hh3 ⊢
        have hs3 : w.heap.size ≤ w3.heap.size := Nat.le_trans G2.out.size hg3.size
        have OW3 := hide ow3
        have RD3 := hide hh3
        have G3 := hide (grown_trans G2.out hg3)
        clear ow3 hh3 hg3 OW2 RD2 G2
        go_wp2_with (first
          | (at_builtin; refine wpList_append_struct nrE_len (by omega) nrE_one (by omega) _ rfl _ _ 24 rfl w.heap.size 67 Try.underlying24 (nrV nr0) rfl Try.infoNr u3 l ⟨t1, t2⟩ rfl (OW3.out.alloc _) ⟨w3.heap.size, 0, none⟩ 1 rfl (news_struct (cs := nrE ⟨t1, t2⟩)) (by omega) (by simp; omega) ?_))
        intro v' w4 l' hl' hown' hgrow
        have RD4 := hide (rd_app RD3.out hgrow OW3.out hz)
        have G4 := hide (grown_app G3.out hgrow OW3.out rfl)
        have OW4 := hide hown'
        clear hown' hgrow
        go_wp2
        go_roundw
        case rel => exact ⟨k + 1, ⟨l', q2, c2⟩, by omega, by simp; omega, by rw [HST.out, hl'.out], OW4.out, RD4.out, G4.out⟩
        case measure => simp [intOf]; omega
      · have HB := hide (nearA_bad (s := s) (p := q0) (b := c0) (k := k) (by rw [← HRR.out]) (n - k))
        go_wp2
        go_ret
        have e := HB.out
        rw [show k + (n - k) = n by omega] at e
        rw [e, ← HRR.out]
        exact ⟨_, rfl, OW.out, RD.out, hg⟩
    · have hkn' : k = n := by omega
      have hk0 : ¬ (0 : Int) < (n : Int) - (k : Int) := by omega
      have HKN := hide hkn'
      clear hkn'
      go_wp2
      go_ret
      rw [← HKN.out, ← HRR.out]
      exact ⟨_, rfl, OW.out, RD.out, hg⟩
end Go.Proofs.Ytohjphhocdgpgaa
