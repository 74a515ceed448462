/-
  The law FnNumbers: its walk.
-/
import Derived.Test.YteagdicpefchaaaDoorNumMath
import Derived.Test.YteagdicpefchaaaDoorDrawNum
import Derived.Test.YteagdicpefchaaaDoorDecLaw
namespace Go.Proofs.YteagdicpefchaaaDoor
open Go.RowKit

set_option maxHeartbeats 400000 in
theorem big_any (a : Option Addr) (len cap : Nat) (w : World) : Calls Tryd.prog 6 #[.slice a len cap] w fun e w' => e = .returned (.bool (decide ((1048576 : Int) < (len : Int)))) ∧ w = w' := by
  go_enter Tryd.func6, Tryd.ntmps6
  go_wp2
  go_ret
  exact ⟨rfl, rfl⟩

theorem code_later {w w' : World} {a : Option Addr} {len : Nat} (h : Code w a len w.heap.size) (hb : Below w.heap.size w w') : Code w' a len w'.heap.size := by
  refine ⟨h.1, ?_⟩
  rcases h.2 with h0 | ⟨b, off, ha, hb1, hx⟩
  · exact .inl h0
  · refine .inr ⟨b, off, ha, by have := hb.size; omega, fun i hi => ?_⟩
    obtain ⟨x, h1, h2⟩ := hx i hi
    exact ⟨x, h1, by rw [hb.cell (p := ⟨b, off + i, none⟩) hb1]; exact h2⟩

theorem tab_later {w w' : World} (h : Lib.TabIs Tryd.prog w "internal/strconv.uint64pow10" .u64 Lib.pow10Tab) (hb : Below w.heap.size w w') : Lib.TabIs Tryd.prog w' "internal/strconv.uint64pow10" .u64 Lib.pow10Tab :=
  var?_below hb gPow (glob_lt gPow h) h

theorem xsy (s : ByteArray) (l : List UInt8) (h : s = bs l) : ((⟨#[120]⟩ : ByteArray) ++ s ++ ⟨#[121]⟩).data.toList = [120] ++ l ++ [121] := by
  rw [h]; simp [bs]

set_option maxRecDepth 100000 in
set_option maxHeartbeats 2000000 in
theorem fnNumbers_walk (a : Option Addr) (len cap : Nat) (w : World) (hc : len ≤ 1048576 → Code w a len w.heap.size) (hT : Lib.TabIs Tryd.prog w "internal/strconv.uint64pow10" .u64 Lib.pow10Tab) :
    Calls Tryd.prog 3 #[.slice a len cap] w fun e w' => e = .returned (.bool true) ∧ Below w.heap.size w w' := by
  by_cases hbig : (1048576 : Int) < (len : Int)
  · clear hc hT
    go_enter Tryd.func3, Tryd.ntmps3
    go_wp2_with (first | (go_at_call 6; refine (big_any _ _ _ _).mono ?_; rintro e w' ⟨rfl, rfl⟩))
    go_ret
    exact ⟨rfl, Below.refl _ _⟩
  have HC := hide (hc (by omega))
  have HT := hide hT
  clear hc hT
  go_enter Tryd.func3, Tryd.ntmps3
  go_wp2_with (first | (go_at_call 6; refine (big_any _ _ _ _).mono ?_; rintro e w' ⟨rfl, rfl⟩))
  refine (drawVar_any a len cap _ HC.out).mono ?_
  rintro e w1 ⟨x, rfl, b1⟩
  have cases3 : (∃ m : Nat, m ≤ 1000000000 ∧ x = (m : Int)) ∨ x < 0 ∨ 1000000000 < x := by
    by_cases h1 : x < 0
    · exact .inr (.inl h1)
    · by_cases h2 : 1000000000 < x
      · exact .inr (.inr h2)
      · exact .inl ⟨x.toNat, by omega, by omega⟩
  rcases cases3 with ⟨m, hm, rfl⟩ | hx | hx
  case' inl => go_wp2_with fail
  case' inr.inl =>
    go_wp2_with fail
    obtain ⟨m, hm0, hm⟩ : ∃ m : Nat, (12345 : Int) = (m : Int) ∧ m ≤ 1000000000 := ⟨12345, rfl, by omega⟩
    rw [hm0]
    clear hm0
  case' inr.inr =>
    go_wp2_with fail
    obtain ⟨m, hm0, hm⟩ : ∃ m : Nat, (12345 : Int) = (m : Int) ∧ m ≤ 1000000000 := ⟨12345, rfl, by omega⟩
    rw [hm0]
    clear hm0
  all_goals
    obtain ⟨s, hs⟩ : ∃ s, s = bs (varL m) := ⟨_, rfl⟩
    have hsz : s.size ≤ m + 1 := by rw [hs]; exact var_size m
    refine (ivt_any _ _).mono ?_
    rw [varV_in m hm, ← hs]
    rintro e w2 ⟨rfl, b2⟩
    have hvb := var_back m [120] [121] hm _ (xsy s (varL m) hs)
    have hss : s.size = (varL m).length := by rw [hs, bsz]
    have hxs : ((⟨#[120]⟩ : ByteArray) ++ s ++ ⟨#[121]⟩).size ≤ 1048576 := by
      have h1 : (varL m).length ≤ 5 := by
        by_cases h : (varL m).length ≤ 5
        · exact h
        · exfalso
          have e0 := rdA_var0 m [] hm
          rw [List.append_nil] at e0
          have e1 := rdA_fuel 5 [] (varL m) m (varL m).length e0
          simp at e1
          omega
      simp only [ByteArray.size_append', ByteArray.size_mk']
      simp
      omega
    have HV := hide hvb
    have HS := hide hss
    have HX := hide hxs
    clear hvb hss hxs hs
    go_wp2_with fail
    refine (irv_any _ _ _ HX.out).mono ?_
    rw [show (1 : Int) = (([120] : List UInt8).length : Int) from rfl, HV.out]
    rintro e w3 ⟨rfl, b3⟩
    have b13 : Below w.heap.size w w3 := (b1.trans (b2.mono b1.size)).trans (b3.mono (Nat.le_trans b1.size b2.size))
    clear b1 b2 b3
    go_wp2_with fail
    refine (idec_any _ _ (by omega) (by omega) (tab_later HT.out b13)).mono ?_
    rintro e w4 ⟨rfl, b4⟩
    have hds : (bs (decI (m : Int))).size ≤ 1048576 := by
      rw [bsz]
      exact dec_small m hm
    have HD := hide hds
    clear hds
    go_wp2_with fail
    refine (ird_any _ _ HD.out).mono ?_
    rw [dec_back m hm]
    rintro e w5 ⟨rfl, b5⟩
    have b15 : Below w.heap.size w w5 := (b13.trans (b4.mono b13.size)).trans (b5.mono (Nat.le_trans b13.size b4.size))
    clear b13 b4 b5
    go_wp2_with fail
    refine (drawHex_any a len cap _ (code_later HC.out b15)).mono ?_
    rintro e w6 ⟨l, rfl, hl, b6⟩
    have b16 : Below w.heap.size w w6 := b15.trans (b6.mono b15.size)
    clear b15 b6
    obtain ⟨t0, ht0⟩ : ∃ t0, t0 = bs l := ⟨_, rfl⟩
    have hts : t0.size ≤ 30000 := by rw [ht0, bsz]; exact hl
    rw [← ht0]
    clear ht0 hl
    by_cases h300 : (300 : Int) < (t0.size : Int)
    case' pos =>
      go_wp2_with fail
      obtain ⟨t, ht, htz⟩ : ∃ t : ByteArray, (⟨#[97, 98, 99]⟩ : ByteArray) = t ∧ t.size ≤ 300 := ⟨_, rfl, by decide⟩
      rw [ht]
      clear ht
    case' neg =>
      go_wp2_with fail
      obtain ⟨t, ht, htz⟩ : ∃ t : ByteArray, t0 = t ∧ t.size ≤ 300 := ⟨_, rfl, by omega⟩
      rw [ht]
      clear ht
    all_goals
      obtain ⟨u, hu⟩ : ∃ u, u = bs (varL t.size) ++ t := ⟨_, rfl⟩
      have huz : u.size ≤ 1048576 := by
        rw [hu]
        have := var_size t.size
        simp only [ByteArray.size_append']
        omega
      have hub := short_back t u hu (by omega)
      refine (ist_any t _ (by omega)).mono ?_
      rw [← hu]
      rintro e w7 ⟨rfl, b7⟩
      have HU := hide hub
      clear hub hu
      go_wp2_with fail
      refine (ish_any u 0 _ huz).mono ?_
      rw [HU.out]
      rintro e w8 ⟨rfl, b8⟩
      obtain ⟨hx, hhx⟩ : ∃ hx, hx = bs (hexL t.data.toList) := ⟨_, rfl⟩
      have hhb := hex_back t (by omega)
      have hhz : hx.size ≤ 1048576 := by
        have h2 : t.data.toList.length = t.size := by simp
        rw [hhx, bsz, hexL_len]; omega
      rw [← hhx] at hhb
      have HH := hide hhb
      have HX2 := hide hhx
      clear hhb hhx
      go_wp2_with fail
      refine (ihx_any t _ (by omega)).mono ?_
      rw [← HX2.out]
      rintro e w9 ⟨rfl, b9⟩
      go_wp2_with fail
      refine (iuh_any hx _ hhz).mono ?_
      rw [HH.out]
      rintro e w10 ⟨rfl, b10⟩
      have hat : (1 : Int) + ((varL m).length : Int) = (s.size : Int) + 1 := by rw [HS.out]; omega
      rw [hat]
      go_wp2
      go_ret
      refine ⟨?_, ?_⟩
      · simp
      · have z6 := b16.size
        have z7 := b7.size
        have z8 := b8.size
        have z9 := b9.size
        exact (((b16.trans (b7.mono (by omega))).trans (b8.mono (by omega))).trans (b9.mono (by omega))).trans (b10.mono (by omega))
end Go.Proofs.YteagdicpefchaaaDoor
