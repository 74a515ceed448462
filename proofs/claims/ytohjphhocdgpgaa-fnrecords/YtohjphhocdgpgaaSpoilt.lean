/-
  spec.l02Spoilt, DrawReadRecord: some text.
-/
import Derived.Test.YtohjphhocdgpgaaCurT
import Derived.Test.YtohjphhocdgpgaaDrawRT
import Derived.Test.YtohjphhocdgpgaaTextS
namespace Go.Proofs.Ytohjphhocdgpgaa
open Go.RowKit

set_option linter.unusedSimpArgs false

theorem sl_hi5 {P : Program} {t : TypeId} (hu : P.underlying t = some .string) (s u : ByteArray) (n : Nat) (h : n ≤ s.size) (he : u = s.extract 0 n) (w : World) :
    (Instr.slice t (.string s) none (some (.int .i64 (n : Int))) none).run P w = .ok (.string u) w := by
  rw [he, run_slice_string_h w t s hu .i64 (n : Int) (by omega) (by omega)]
  rfl

theorem sl_lo5 {P : Program} {t : TypeId} (hu : P.underlying t = some .string) (s u : ByteArray) (n : Nat) (h : n ≤ s.size) (he : u = s.extract n s.size) (w : World) :
    (Instr.slice t (.string s) (some (.int .i64 (n : Int))) none none).run P w = .ok (.string u) w := by
  rw [he, run_slice_string_l w t s hu .i64 (n : Int) (by omega) (by omega)]
  rfl

theorem str_add5 {P : Program} (a b u : ByteArray) (he : u = a ++ b) (W : World) (h : a.size + b.size ≤ 1000000) : (Op.stringOp .add a b).run P W = .ok (.string u) W := by
  rw [he, run_string_add_sum _ _ _ (by omega)]

set_option maxRecDepth 100000 in
set_option maxHeartbeats 2000000 in
theorem spoilt_any (p : Nat) (a : Option Addr) (len cap : Nat) (s : ByteArray) (w : World) (hc : Cur w p a len cap) (hs : s.size ≤ 200000) :
    Calls Try.prog 70 #[.pointer (some ⟨p, 0, none⟩), .string s] w fun e w' => ∃ t : ByteArray, e = .returned (.string t) ∧ t.size ≤ 200001 ∧ Below p w w' := by
  have hp := lt_of_cur hc
  have HC := hide hc
  clear hc
  go_enter Try.func70, Try.ntmps70
  go_wp2_with fail
  refine (below_any p a len cap 12 _ HC.out (by omega) (by omega)).mono ?_
  rintro e w1 ⟨x, rfl, hx0, hx1, hc1, g1⟩
  have b1 := below_of_grown g1 (Nat.le_of_lt hp)
  have hp1 := lt_of_cur hc1
  have CR := hide hc1
  clear hc1 g1 HC
  by_cases h0 : x = 0
  · subst h0
    go_wp2_with fail
    refine (text_any p a len cap 1 _ CR.out (by omega) (by omega)).mono ?_
    rintro e w2 ⟨l, rfl, hl, _, b2⟩
    obtain ⟨u, hu⟩ : ∃ u, u = s ++ bs l := ⟨_, rfl⟩
    have hll : (bs l).size = 1 := by rw [bs_size]; omega
    have ea := fun W => str_add5 (P := Try.prog) s (bs l) u hu W (by omega)
    have hus : u.size ≤ 200001 := by rw [hu, ByteArray.size_append]; omega
    clear hu hll
    go_wp2
    go_ret
    exact ⟨u, rfl, hus, b1.trans b2⟩
  have d0 : (x == 0) = false := by simpa using h0
  by_cases h1 : x = 1
  · subst h1
    go_wp2_with fail
    refine (below_any p a len cap ((s.size : Int) + 1) _ CR.out (by omega) (by omega)).mono ?_
    rintro e w2 ⟨y, rfl, hy0, hy1, _, g2⟩
    obtain ⟨m, rfl⟩ : ∃ m : Nat, y = (m : Int) := ⟨y.toNat, by omega⟩
    obtain ⟨u, hu⟩ : ∃ u, u = s.extract 0 m := ⟨_, rfl⟩
    have es := fun W => sl_hi5 (P := Try.prog) Try.underlying9 s u m (by omega) hu W
    have hus : u.size ≤ 200001 := by rw [hu, ByteArray.size_extract]; omega
    clear hu
    go_wp2
    go_ret
    exact ⟨u, rfl, hus, b1.trans (below_of_grown g2 (Nat.le_of_lt hp1))⟩
  have d1 : (x == 1) = false := by simpa using h1
  have key : ∀ (hsz : 0 < s.size) (w2 : World), Below p w w2 → Cur w2 p a len cap → True := fun _ _ _ _ => trivial
  clear key
  by_cases h23 : x = 2 ∨ x = 3
  · by_cases hsz : (0 : Int) < (s.size : Int)
    · rcases h23 with h2 | h2
      all_goals
        subst h2
        clear h0 h1
        go_wp2_with fail
        refine (below_any p a len cap (s.size : Int) _ CR.out (by omega) (by omega)).mono ?_
        rintro e w2 ⟨y, rfl, hy0, hy1, hc2, g2⟩
        obtain ⟨m, rfl⟩ : ∃ m : Nat, y = (m : Int) := ⟨y.toNat, by omega⟩
        have b2 := below_of_grown g2 (Nat.le_of_lt hp1)
        obtain ⟨u1, hu1⟩ : ∃ u, u = s.extract 0 m := ⟨_, rfl⟩
        obtain ⟨u2, hu2⟩ : ∃ u, u = s.extract (m + 1) s.size := ⟨_, rfl⟩
        have es1 := fun W => sl_hi5 (P := Try.prog) Try.underlying9 s u1 m (by omega) hu1 W
        have es2 : ∀ W, (Instr.slice 9 (.string s) (some (.int .i64 ((m : Int) + 1))) none none).run Try.prog W = .ok (.string u2) W := fun W => sl_lo5 (P := Try.prog) Try.underlying9 s u2 (m + 1) (by omega) hu2 W
        have hwr : IntKind.i64.wrap ((m : Int) + 1) = (m : Int) + 1 := wrap_fit _ (by omega) (by omega)
        have z1 : u1.size ≤ m := by rw [hu1, ByteArray.size_extract]; omega
        have z2 : u2.size + (m + 1) ≤ s.size := by rw [hu2, ByteArray.size_extract]; omega
        have C2 := hide (show Cur w2.drew p a len cap from hc2)
        clear hu1 hu2 hc2 g2 CR
        go_wp2
        go_region_held3 (fun _ => True) (first | trivial | go_keep) (first | (go_at_call 100; refine (text_any p a len cap 1 w2.drew C2.out (by omega) (by omega)).mono ?_; rintro e w3 ⟨l, rfl, hl, _, b3⟩; have hll : (bs l).size = 1 := (by rw [bs_size]; omega); have ea1 := fun W => str_add5 (P := Try.prog) u1 (bs l) (u1 ++ bs l) rfl W (by omega); have ea2 := fun W => str_add5 (P := Try.prog) (u1 ++ bs l) u2 (u1 ++ bs l ++ u2) rfl W (by rw [ByteArray.size_append]; omega)))
        go_wp2
        go_ret
        exact ⟨_, rfl, by rw [ByteArray.size_append, ByteArray.size_append]; omega, (b1.trans b2).trans ((Below.refl _ _).drew.trans b3)⟩
    · rcases h23 with h2 | h2
      all_goals
        subst h2
        clear h0 h1
        go_wp2
        go_ret
        exact ⟨s, rfl, by omega, b1⟩
  · have d2 : (x == 2) = false := by simp; omega
    have d3 : (x == 3) = false := by simp; omega
    clear h23 h0 h1
    go_wp2
    go_ret
    exact ⟨s, rfl, by omega, b1⟩

theorem recL_len {x : RecD} (h : recOkB x = true) (h6 : x.near.length ≤ 7) : (recL x).length ≤ 200000 := by
  have B := recOk_bounds h
  have n1 := nearsL_len B.near x.near.length
  rw [List.take_length] at n1
  have s1 := varL_len x.seq.toNat
  have s2 := varL_len x.near.length
  have s3 := varL_len x.cost.toNat
  have hs := B.seq.2
  have hc := B.cost.2
  have hf : (farL x.far).length = 1 := by cases x.far <;> rfl
  unfold recL headL
  simp only [List.length_append, List.length_cons, List.length_nil, hf]
  omega

theorem textV_str (x : RecD) (h6 : x.near.length ≤ 7) : ∃ (s : ByteArray) (b : Bool), textV x = .tuple #[.string s, .bool b] ∧ s.size ≤ 200000 := by
  unfold textV
  by_cases h : recOkB x = true
  · rw [if_pos h]
    exact ⟨_, _, rfl, by rw [bs_size]; exact recL_len h h6⟩
  · rw [if_neg h]
    exact ⟨_, _, rfl, by rw [bs_size]; simp⟩

set_option maxRecDepth 100000 in
set_option maxHeartbeats 1000000 in
theorem drawRR_any (a : Option Addr) (len cap : Nat) (w : World) (hc : Code w a len w.heap.size) :
    Calls Try.prog 22 #[.slice a len cap] w fun e w' => ∃ t : ByteArray, e = .returned (.string t) ∧ t.size ≤ 200001 ∧ Below w.heap.size w w' := by
  have HN := hide (new_any a len cap w hc)
  clear hc
  go_enter Try.func22, Try.ntmps22
  go_wp2_with fail
  refine HN.out.mono ?_
  rintro e w1 ⟨rfl, hc1, b1⟩
  have hpl := lt_of_cur hc1
  have HC1 := hide hc1
  clear hc1 HN
  go_wp2_with fail
  refine (anyD_any w.heap.size a len cap _ HC1.out).mono ?_
  rintro e w2 ⟨x, v, rfl, ho, hl, hc2, g2⟩
  obtain ⟨va, vc, rfl⟩ := owns_lenS ho
  have b2 : Below w.heap.size w w2 := b1.grown g2 (Nat.le_of_lt hpl) (fun k hk => by simp at hk; omega)
  have HT := stext_any (.slice va x.near.length vc) x w2 (by omega) (owns_rowAt ho)
  obtain ⟨s, b, hsb, hss⟩ := textV_str x hl
  rw [hsb] at HT
  have HTT := hide HT
  have HC2 := hide hc2
  clear HT hsb hc2 g2 b1 HC1 ho
  unfold recC at *
  go_wp2_with fail
  refine HTT.out.mono ?_
  rintro e w3 ⟨rfl, b3⟩
  have hc3 : Cur w3 w.heap.size a len cap := HC2.out.grown (grown_of_below b3) (fun b _ => by simp)
  have B3 : Below w.heap.size w w3 := b2.trans (b3.mono b2.size)
  have HSP := hide (spoilt_any w.heap.size a len cap s w3 hc3 hss)
  clear hc3 b3 HC2 HTT
  go_wp2_with fail
  refine HSP.out.mono ?_
  rintro e w4 ⟨t, rfl, ht, b4⟩
  go_wp2
  go_ret
  exact ⟨t, rfl, ht, B3.trans b4⟩
end Go.Proofs.Ytohjphhocdgpgaa
