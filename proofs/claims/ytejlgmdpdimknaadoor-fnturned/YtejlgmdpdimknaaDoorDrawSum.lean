/-
  spec.DrawSumOf, DrawPlaces: some text, some twelve numbers.
-/
import Derived.Test.YtejlgmdpdimknaaDoorCurM
import Derived.Test.YtejlgmdpdimknaaDoorIntRow
namespace Go.Proofs.YtejlgmdpdimknaaDoor
open Go.RowKit

set_option maxRecDepth 100000 in
set_option maxHeartbeats 1000000 in
theorem drawSumOf_any (a : Option Addr) (len cap : Nat) (w : World) (hc : Code w a len w.heap.size) :
    Calls Tryd.prog 17 #[.slice a len cap] w fun e w' => ∃ l : List UInt8, e = .returned (.string (bs l)) ∧ l.length ≤ 40 ∧ Below w.heap.size w w' := by
  have HC := hide hc
  clear hc
  go_enter Tryd.func17, Tryd.ntmps17
  go_wp2_with fail
  refine (new_any a len cap _ HC.out).mono ?_
  rintro e w1 ⟨rfl, hc1, hb1⟩
  have hp1 := lt_of_cur hc1
  have HC1 := hide hc1
  clear hc1
  go_wp2_with fail
  refine (below_any w.heap.size a len cap _ _ HC1.out (by omega) (by omega)).mono ?_
  rintro e w3 ⟨y, rfl, h2, h3, hc3, hg3⟩
  have HC3 := hide hc3
  have hb3 := hb1.trans (below_of_grown hg3 (by omega))
  clear hc3 hg3
  go_wp2_with fail
  refine (text_any w.heap.size a len cap _ _ HC3.out (by omega) (by omega)).mono ?_
  rintro e w4 ⟨l, rfl, hl, _, hb4⟩
  have HL := hide hl
  clear hl
  go_wp2
  go_ret
  exact ⟨l, rfl, by have := HL.out; omega, hb3.trans hb4⟩

set_option maxRecDepth 100000 in
set_option maxHeartbeats 1000000 in
theorem drawPlaces_any (a : Option Addr) (len cap : Nat) (w : World) (hc : Code w a len w.heap.size) :
    Calls Tryd.prog 18 #[.slice a len cap] w fun e w' => ∃ (v : Value) (l : List Int), e = .returned v ∧ l.length = 12 ∧ (∀ z ∈ l, 0 ≤ z ∧ z ≤ 9999) ∧ w'.ownsRow w.heap.size 3 1 v 12 (intsOf l) ∧ Below w.heap.size w w' := by
  have HC := hide hc
  clear hc
  go_enter Tryd.func18, Tryd.ntmps18
  go_wp2_with fail
  refine (new_any a len cap _ HC.out).mono ?_
  rintro e w1 ⟨rfl, hc1, hb1⟩
  have hp1 := lt_of_cur hc1
  have HC1 := hide hc1
  clear hc1
  go_wp2_with fail
  refine (byte_any w.heap.size a len cap _ HC1.out).mono ?_
  rintro e w2 ⟨x0, rfl, _, _, hc2, hg2⟩
  have hb2 := hb1.trans (below_of_grown hg2 (by omega))
  have hp2 := lt_of_cur hc2
  have HC2 := hide hc2
  clear hc2 hg2 hb1 HC1
  go_wp2
  go_loopw [4, 5] (fun v i wr => ∃ (k : Nat) (l : List Int), k ≤ 12 ∧ i = .int .i64 k ∧ l.length = k ∧ (∀ z ∈ l, 0 ≤ z ∧ z ≤ 9999) ∧ wr.ownsRow w2.heap.size 3 1 v l.length (intsOf l) ∧ Cur wr w.heap.size a len cap ∧ Below w.heap.size w wr ∧ w2.heap.size ≤ wr.heap.size) (fun _ i _ => 12 - (intOf i).toNat)
  case atStart =>
    refine ⟨0, [], by omega, rfl, rfl, by simp, ?_, ?_, hb2.alloc (by omega) _, by simp⟩
    · exact World.ownsRow_lit _ _ 0 (by simp) (by decide) rfl
    · exact cur_alloc HC2.out _
  case round =>
    obtain ⟨k, l, hk, rfl, hlk, hall, hown, hcr, hnx, hsz⟩ := hrel
    have HLK := hide hlk
    have hll : l.length ≤ k := by omega
    have HALL := hide hall
    clear hlk hall
    by_cases hlt : k < 12
    · have OW := hide hown
      have CR := hide hcr
      clear hown hcr
      go_wp2_with fail
      refine (below_any w.heap.size a len cap _ _ CR.out (by omega) (by omega)).mono ?_
      rintro e w3 ⟨x, rfl, hx0, hx1, hc1, hg1⟩
      have hown1 : w3.ownsRow w2.heap.size 3 1 u4 l.length (intsOf l) := OW.out.kept hg1 (by
        rcases OW.out.2 with ⟨e, _⟩ | ⟨g, cp, cur, e, hb, _⟩
        · exact .inl (by rw [e]; rfl)
        · refine .inr ?_
          rw [e]
          intro h
          simp [Value.ownBlock] at h
          omega)
      have hb1 : Below w.heap.size w w3 := hnx.grown hg1 (by omega) (fun k hk => by simp at hk; omega)
      have hs1 : w2.heap.size ≤ w3.heap.size := Nat.le_trans hsz hg1.size
      have HC1 := hide hc1
      clear hc1 hg1
      go_wp2_with (first
        | (at_builtin; refine wpList_append_int _ rfl _ _ 32 rfl w2.heap.size 3 Tryd.underlying32 Tryd.info3 u4 l x rfl (hown1.alloc _) ⟨w3.heap.size, 0, none⟩ 1 rfl ?_ (by omega) (by simp; omega) ?_))
      · rw [add_zero', World.cell?_alloc_at _ _ _ _ rfl]; rfl
      intro v' w4 l' hl' hown' hgrow
      have hc2 := HC1.out.appended _ hown1 hp2 hgrow
      have hb2' : Below w.heap.size w w4 := (hb1.alloc (by omega) _).grown hgrow (by simp; omega) (fun k hk => by have := (hown1.lt k hk).1; omega)
      have hs2 : w2.heap.size ≤ w4.heap.size := by have := hgrow.size; simp at this; omega
      have HC2' := hide hc2
      have OW2 := hide hown'
      clear hgrow hown1 hown' hc2
      go_wp2
      go_roundw
      case rel => exact ⟨k + 1, l', by omega, by go_num, by rw [hl'.out]; simp [HLK.out], (by
          rw [hl'.out]; intro z hz
          rcases List.mem_append.1 hz with h | h
          · exact HALL.out z h
          · simp at h; subst h; omega), OW2.out, HC2'.out, hb2', hs2⟩
      case measure => simp [intOf]; omega
    · have CR := hide hcr
      have OW := hide hown
      clear hcr hown
      go_wp2
      go_ret
      have e12 : l.length = 12 := by have := HLK.out; omega
      refine ⟨_, l, rfl, e12, HALL.out, ?_, hnx⟩
      have h3 := OW.out
      rw [e12] at h3
      exact owns_base h3 (by omega)
end Go.Proofs.YtejlgmdpdimknaaDoor
