/-
  spec.l01Text: some text of its length.
-/
import Derived.Test.YtohjphhocdgpgaaCurX
import Derived.Test.YtohjphhocdgpgaaInB
import Derived.Deep.RegionHeld3
namespace Go.Proofs.Ytohjphhocdgpgaa
open Go.RowKit

theorem byteI (x : Int) (h0 : 0 ≤ x) (h1 : x ≤ 255) : x = ((UInt8.ofNat x.toNat).toNat : Int) := by simp; omega

/-- what an append to a row above p leaves of the cursor -/
theorem Cur.appended {w w' : World} {p : Nat} {a : Option Addr} {len cap : Nat} {v : Value} {base : Nat} {e : TypeId} {n : Nat} {xs : List Value} (o : Obj) (h : Cur w p a len cap) (hown : w.ownsRow base e 1 v n xs) (hb : p < base) (hg : (w.alloc o).grownBy w' v.ownBlock) : Cur w' p a len cap := by
  have h1 : Cur (w.alloc o) p a len cap := h.grown (row := none) ⟨rfl, rfl, rfl, by simp, fun k hk _ => Below.heap_alloc _ _ _ hk⟩ (fun b _ => by simp)
  refine h1.grown hg (fun b hbp he => ?_)
  have := (hown.lt b he.symm).1
  omega

set_option maxRecDepth 100000 in
set_option maxHeartbeats 1000000 in
theorem text_any (p : Nat) (a : Option Addr) (len cap : Nat) (n : Int) (w : World) (hc : Cur w p a len cap) (hn : 0 ≤ n) (hn2 : n ≤ 5000) :
    Calls Try.prog 100 #[.pointer (some ⟨p, 0, none⟩), .int .i64 n] w fun e w' => ∃ l : List UInt8, e = .returned (.string (bs l)) ∧ (l.length : Int) = n ∧ Cur w' p a len cap ∧ Below p w w' := by
  have hp := lt_of_cur hc
  obtain ⟨m, rfl⟩ : ∃ m : Nat, n = (m : Int) := ⟨n.toNat, by omega⟩
  have HC := hide hc
  clear hc
  go_enter Try.func100, Try.ntmps100
  go_wp2
  go_loopw [5, 6] (fun v i wr => ∃ (k : Nat) (l : List UInt8), k ≤ m ∧ i = .int .i64 k ∧ l.length = k ∧ wr.ownsRow w.heap.size 5 1 v l.length (cellsOf l) ∧ Cur wr p a len cap ∧ Below p w wr ∧ w.heap.size ≤ wr.heap.size) (fun _ i _ => m - (intOf i).toNat)
  case atStart =>
    refine ⟨0, [], by omega, rfl, rfl, ?_, ?_, (Below.refl _ _).alloc (by omega) _, by simp⟩
    · exact World.ownsRow_lit _ _ 0 (by simp) (by decide) rfl
    · exact HC.out.grown (row := none) ⟨rfl, rfl, rfl, by simp, fun k hk _ => Below.heap_alloc _ _ _ hk⟩ (fun b _ => by simp)
  case round =>
    obtain ⟨k, l, hk, rfl, hlk, hown, hcr, hnx, hsz⟩ := hrel
    have HLK := hide hlk
    have hll : l.length ≤ k := by omega
    clear hlk
    by_cases hlt : k < m
    · have OW := hide hown
      have CR := hide hcr
      clear hown hcr
      go_wp2_with fail
      refine (byte_any p a len cap _ CR.out).mono ?_
      rintro e w1 ⟨x, rfl, hx0, hx1, hc1, hg1⟩
      have hown1 : w1.ownsRow w.heap.size 5 1 u5 l.length (cellsOf l) := OW.out.kept hg1 (by
        rcases OW.out.2 with ⟨e, _⟩ | ⟨g, cp, cur, e, hb, _⟩
        · exact .inl (by rw [e]; rfl)
        · refine .inr ?_
          rw [e]
          intro h
          simp [Value.ownBlock] at h
          omega)
      have hb1 : Below p w w1 := hnx.grown hg1 (by omega) (fun k hk => by simp at hk; omega)
      have hs1 : w.heap.size ≤ w1.heap.size := Nat.le_trans hsz hg1.size
      have hbx := byteI x hx0 hx1
      have HB := hide hbx
      have HC1 := hide hc1
      clear hc1 hg1 hbx
      go_wp2_with (first
        | (at_builtin; refine wpList_append_bytes _ rfl _ _ 22 rfl w.heap.size 5 Try.underlying22 Try.info5 u5 l [UInt8.ofNat x.toNat] rfl (hown1.alloc _) ⟨w1.heap.size, 0, none⟩ 1 rfl (news_one _ _ _ HB.out) (by simp; omega) (by simp; omega) ?_))
      intro v' w2 l' hl' hown' hgrow
      have hc2 := HC1.out.appended _ hown1 hp hgrow
      have hb2 : Below p w w2 := (hb1.alloc (by omega) _).grown hgrow (by simp; omega) (fun k hk => by have := (hown1.lt k hk).1; omega)
      have hs2 : w.heap.size ≤ w2.heap.size := by have := hgrow.size; simp at this; omega
      have HC2 := hide hc2
      have OW2 := hide hown'
      clear hgrow hown1 hown' hc2
      go_wp2
      go_roundw
      case rel => exact ⟨k + 1, l', by omega, by go_num, by rw [hl'.out]; simp [HLK.out], OW2.out, HC2.out, hb2, hs2⟩
      case measure => simp [intOf]; omega
    · have hstr := run_str_own (P := Try.prog) 22 9 5 Try.underlying22 Try.underlying5 Try.underlying9 hown
      have CR := hide hcr
      clear hcr hown
      go_wp2
      go_ret
      exact ⟨l, rfl, by have := HLK.out; omega, CR.out, hnx⟩
end Go.Proofs.Ytohjphhocdgpgaa
