/-
  impl.SumMore, impl.SumOf, and what they call: their contracts.
-/
import Derived.Test.YtejlgmdpdimknaaDoorSumS
import Derived.Lib.LaidTab
namespace Go.Proofs.YtejlgmdpdimknaaDoor
open Go.RowKit

def stepTab : List Int := [0, 1166650509, 2333301018, 3466261911, 3189058079, 4221339282, 889615109, 1888477064, 3558460437, 2442158232, 1594529039, 444807554, 1779230218, 797264519, 3776954128, 2761298845]

def Steps (w : World) : Prop := Lib.TabIs Tryd.prog w "loop.example/g00177/impl.sumSteps" .u32 stepTab

theorem gSteps : Tryd.prog.globalNamed "loop.example/g00177/impl.sumSteps" = some 0 := by kernel_rfl

theorem step_cell {w : World} (h : Steps w) (i : Nat) (hi : i < 16) : w.cell? ⟨0, i, none⟩ = some (.int .u32 ((tab16.getD i 0 : Nat) : Int)) := by
  have key : ∀ r : Fin 16, stepTab.getD r.val 0 = ((tab16.getD r.val 0 : Nat) : Int) := by decide
  rw [← key ⟨i, hi⟩]
  exact Lib.TabIs.cell h gSteps i hi

theorem steps_lt {W : World} (h : Steps W) : 0 < W.heap.size := by
  unfold Steps Lib.TabIs World.var? at h
  simp only [gSteps, Option.bind_some] at h
  rcases Nat.lt_or_ge 0 W.heap.size with hlt | hge
  · exact hlt
  · rw [Array.getElem?_eq_none hge] at h
    simp at h

theorem steps_later {B : Nat} {w w' : World} (h : Steps w) (hb : Below B w w') (hB : w.heap.size ≤ B) : Steps w' := by
  have hl := steps_lt h
  unfold Steps Lib.TabIs World.var? at h ⊢
  simp only [gSteps, Option.bind_some] at h ⊢
  have e : w'.heap[0]? = w.heap[0]? := hb.block _ (by omega)
  rw [e]
  exact h

set_option maxRecDepth 100000 in
set_option maxHeartbeats 1000000 in
theorem four_any (x : Nat) (w : World) (hx : x < 4294967296) (hT : Steps w) :
    Calls Tryd.prog 27 #[.int .u32 (x : Int)] w fun e w' => e = .returned (.int .u32 ((st (st (st (st x))) : Nat) : Int)) ∧ w = w' := by
  rw [four_st]
  have hc := step_cell hT (x % 16) (by omega)
  obtain ⟨q, hq⟩ : ∃ q : Nat, q = x % 16 := ⟨_, rfl⟩
  have hq2 : (x : Int) % 16 = (q : Int) := by omega
  have hq3 : q < 16 := by omega
  rw [← hq] at hc ⊢
  have ht : tab16.getD q 0 < 4294967296 := by
    have key : ∀ r : Fin 16, tab16.getD r.val 0 < 4294967296 := by decide
    exact key ⟨q, hq3⟩
  generalize tab16.getD q 0 = t at hc ht ⊢
  have hxor := xor_u32 (x / 16) t (by omega) ht
  clear hT hq
  go_enter Tryd.func27, Tryd.ntmps27
  go_wp2
  go_ret
  have e : (x : Int) / 16 = ((x / 16 : Nat) : Int) := by omega
  refine ⟨?_, rfl⟩
  rw [e, hxor]
  rfl

set_option maxRecDepth 100000 in
set_option maxHeartbeats 1000000 in
theorem more_any (x : Nat) (s : ByteArray) (w : World) (hx : x < 4294967296) (hs : s.size ≤ 100000000) (hT : Steps w) :
    Calls Tryd.prog 19 #[.int .u32 (x : Int), .string s] w fun e w' => e = .returned (.int .u32 ((upL x s.data.toList : Nat) : Int)) ∧ w = w' := by
  have HT := hide hT
  clear hT
  go_enter Tryd.func19, Tryd.ntmps19
  go_wp2
  go_loop [0, 8] (fun v i => ∃ k y : Nat, k ≤ s.size ∧ i = .int .i64 k ∧ v = .int .u32 (y : Int) ∧ Hid (y = upL x (s.data.toList.take k))) (fun _ i => s.size - (intOf i).toNat)
  case atStart => exact ⟨0, x, by omega, rfl, rfl, rfl⟩
  case round =>
    obtain ⟨k, y, hk, rfl, rfl, hy⟩ := hrel
    have hy2 : y < 4294967296 := by rw [hy.out]; exact upL_lt _ _ hx
    by_cases hlt : k < s.size
    · have hb := (s[k]).toNat_lt
      have hxor := xor_u32 y (s[k]).toNat hy2 (by omega)
      obtain ⟨z, hz⟩ : ∃ z : Nat, z = y ^^^ (s[k]).toNat := ⟨_, rfl⟩
      have hz2 : z < 4294967296 := by rw [hz]; exact Nat.xor_lt_two_pow (n := 32) hy2 (by omega)
      have hup : st (st (st (st (st (st (st (st z))))))) = upL x (s.data.toList.take (k + 1)) := by
        have hk' : k < s.data.toList.length := by simpa using hlt
        rw [take_snoc _ _ hk', upL_snoc, ← hy.out, hz]
        rfl
      rw [← hz] at hxor
      have HUP := hide hup
      clear hup hz
      go_wp2_with fail
      refine (four_any z _ hz2 HT.out).mono ?_
      rintro e w1 ⟨rfl, rfl⟩
      clear hxor
      obtain ⟨c, hc⟩ : ∃ c : Nat, c = st (st (st (st z))) := ⟨_, rfl⟩
      have hc2 : c < 4294967296 := by rw [hc]; exact st_lt _ (st_lt _ (st_lt _ (st_lt _ hz2)))
      rw [← hc]
      have HC := hide hc
      clear hc
      go_wp2_with fail
      refine (four_any c _ hc2 HT.out).mono ?_
      rintro e w1 ⟨rfl, rfl⟩
      go_wp2
      go_round
      case rel => exact ⟨k + 1, _, by omega, by go_num, rfl, by rw [← HUP.out, HC.out]; exact rfl⟩
      case measure => simp [intOf]; omega
    · have hfin : y = upL x s.data.toList := by rw [hy.out, List.take_of_length_le (by simp; omega)]
      have HF := hide hfin
      clear hfin
      go_wp2
      go_ret
      exact ⟨by rw [HF.out]; rfl, rfl⟩

set_option maxHeartbeats 400000 in
theorem ism_any (x : Nat) (s : ByteArray) (w : World) (hx : x < 4294967296) (hs : s.size ≤ 100000000) (hT : Steps w) :
    Calls Tryd.prog 9 #[.int .u32 (x : Int), .string s] w fun e w' => e = .returned (.int .u32 ((upL x s.data.toList : Nat) : Int)) ∧ w = w' := by
  have hc := more_any x s w hx hs hT
  generalize upL x s.data.toList = t at hc ⊢
  clear hT
  go_enter Tryd.func9, Tryd.ntmps9
  go_wp2_with fail
  refine hc.mono ?_
  rintro e w' ⟨rfl, rfl⟩
  clear hc
  go_wp2
  go_ret
  exact ⟨rfl, rfl⟩

set_option maxHeartbeats 400000 in
theorem iso_any (s : ByteArray) (w : World) (hs : s.size ≤ 100000000) (hT : Steps w) :
    Calls Tryd.prog 11 #[.string s] w fun e w' => e = .returned (.int .u32 ((upL 4294967295 s.data.toList : Nat) : Int)) ∧ w = w' := by
  have hc := ism_any 4294967295 s w (by omega) hs hT
  generalize upL 4294967295 s.data.toList = t at hc ⊢
  clear hT
  go_enter Tryd.func11, Tryd.ntmps11
  go_wp2_with fail
  refine hc.mono ?_
  rintro e w' ⟨rfl, rfl⟩
  clear hc
  go_wp2
  go_ret
  exact ⟨rfl, rfl⟩
end Go.Proofs.YtejlgmdpdimknaaDoor
