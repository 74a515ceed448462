/-
  The law FnTurned: its walk.
-/
import Derived.Test.YtejlgmdpdimknaaDoorTurnMath
import Derived.Test.YtejlgmdpdimknaaDoorDrawSum
import Derived.Test.YtejlgmdpdimknaaDoorSumLaws
namespace Go.Proofs.YtejlgmdpdimknaaDoor
open Go.RowKit

/-- '[]byte(t)': a new row -/
theorem bytes_of (t : ByteArray) (w : World) : ∃ (C : Nat) (W : World), (convert 9 29 (.string t)).run Tryd.prog w = .ok (.slice (some ⟨w.heap.size, 0, none⟩) t.size C) W ∧
    (∀ j (h : j < t.size), W.cell? ⟨w.heap.size, j, none⟩ = some (.int .u8 (t[j].toNat : Int))) ∧ (∀ j, j < t.size → W.frozen? ⟨w.heap.size, j, none⟩ = false) ∧ Below w.heap.size w W ∧ w.heap.size < W.heap.size := by
  refine ⟨_, _, run_bytes_of_string w 9 29 5 t Tryd.underlying9 Tryd.underlying29 Tryd.underlying5, ?_, ?_, ?_, ?_⟩
  · intro j h
    generalize grownCap w t.size 0 5 = C
    have e : (w.drew.alloc (.cells (bytesRow t C) 5 ((bytesRow t C).size, (bytesRow t C).size + 1))).heap[w.heap.size]? = some (.cells (bytesRow t C) 5 ((bytesRow t C).size, (bytesRow t C).size + 1)) := heap_alloc_new w.drew _
    simp only [World.cell?, e]
    exact bytesRow_at t C j h
  · intro j h
    generalize grownCap w t.size 0 5 = C
    have e : (w.drew.alloc (.cells (bytesRow t C) 5 ((bytesRow t C).size, (bytesRow t C).size + 1))).heap[w.heap.size]? = some (.cells (bytesRow t C) 5 ((bytesRow t C).size, (bytesRow t C).size + 1)) := heap_alloc_new w.drew _
    have hz : t.size ≤ (bytesRow t C).size := by simp [bytesRow]
    simp only [World.frozen?, e]
    simp
    omega
  · exact (Below.refl w.heap.size w).drew.alloc (Nat.le_refl _) _
  · simp

set_option maxRecDepth 100000 in
set_option maxHeartbeats 2000000 in
theorem fnTurned_walk (a : Option Addr) (len cap : Nat) (w : World) (hc : len ≤ 1048576 → Code w a len w.heap.size) (hL : laidMetH Tryd.prog Rows.fnTurnedRow.laid w) :
    Calls Tryd.prog 7 #[.slice a len cap] w fun e w' => e = .returned (.bool true) ∧ Below w.heap.size w w' := by
  have hT : Steps w := steps_of hL
  clear hL
  by_cases hbig : (1048576 : Int) < (len : Int)
  · clear hc hT
    go_enter Tryd.func7, Tryd.ntmps7
    go_wp2_with (first | (go_at_call 16; refine (big_any _ _ _ _).mono ?_; rintro e w' ⟨rfl, rfl⟩))
    go_ret
    exact ⟨rfl, Below.refl _ _⟩
  have HC := hide (hc (by omega))
  have HT := hide hT
  clear hc hT
  go_enter Tryd.func7, Tryd.ntmps7
  go_wp2_with (first | (go_at_call 16; refine (big_any _ _ _ _).mono ?_; rintro e w' ⟨rfl, rfl⟩))
  refine (drawSumOf_any a len cap _ HC.out).mono ?_
  rintro e w1 ⟨l, rfl, hl, b1⟩
  obtain ⟨s, hs⟩ : ∃ s, s = bs l := ⟨_, rfl⟩
  have hsz : s.size ≤ 40 := by rw [hs, size_list]; simpa [bs] using hl
  rw [← hs]
  clear hs hl
  go_wp2_with fail
  refine (drawPlaces_any a len cap _ (code_later HC.out b1)).mono ?_
  rintro e w2 ⟨v, zs, rfl, hz12, hzs, hown, b2⟩
  have b12 : Below w.heap.size w w2 := b1.trans (b2.mono b1.size)
  have hT2 := steps_later HT.out b12 (Nat.le_refl _)
  obtain ⟨g, vc, rfl, hg1, hg2⟩ := owns_shape hown (by omega)
  obtain ⟨n0, hn0, hc0⟩ : ∃ n0 : Nat, n0 ≤ 9999 ∧ w2.cell? ⟨g, 0, none⟩ = some (.int .i64 (n0 : Int)) := by
    have h12 : 0 < zs.length := by omega
    have hb := hzs zs[0] (List.getElem_mem h12)
    refine ⟨zs[0].toNat, by omega, ?_⟩
    rw [hown.cellAt 0 (by omega)]
    simp [intsOf, List.getElem?_eq_getElem h12]
    omega
  obtain ⟨n1, hn1, hc1⟩ : ∃ n1 : Nat, n1 ≤ 9999 ∧ w2.cell? ⟨g, 1, none⟩ = some (.int .i64 (n1 : Int)) := by
    have h12 : 1 < zs.length := by omega
    have hb := hzs zs[1] (List.getElem_mem h12)
    refine ⟨zs[1].toNat, by omega, ?_⟩
    rw [hown.cellAt 1 (by omega)]
    simp [intsOf, List.getElem?_eq_getElem h12]
    omega
  clear hown hzs hz12 b1 b2 HC
  obtain ⟨t, ht⟩ : ∃ t, t = s ++ bs (fourL (sumS s)) := ⟨_, rfl⟩
  have htz : t.size = s.size + 4 := by
    rw [ht, size_list, seal_list, size_list]; simp [fourL_len]
  have hse : seV s = .tuple #[.string t, .bool true] := by unfold seV; rw [if_pos (by omega), ← ht]
  have hun := un_seal s t ht (by omega)
  have HT2 := hide ht
  have HSE := hide hse
  have HUN := hide hun
  have HS2 := hide hT2
  clear ht hse hun hT2
  go_wp2_with fail
  refine (ise_any s _ (by omega) HS2.out).mono ?_
  rw [HSE.out]
  rintro e w3 ⟨rfl, b3⟩
  have hS3 := steps_later HS2.out b3 (Nat.le_refl _)
  have HS3 := hide hS3
  clear hS3
  go_wp2_with fail
  refine (iun_any t _ (by omega) HS3.out).mono ?_
  rw [HUN.out]
  rintro e w4 ⟨rfl, b4⟩
  have b24 : Below w2.heap.size w2 w4 := b3.trans (b4.mono b3.size)
  have hS4 := steps_later HS2.out b24 (Nat.le_refl _)
  have d0 : w4.cell? ⟨g, 0, none⟩ = some (.int .i64 (n0 : Int)) := by rw [b24.cell (p := ⟨g, 0, none⟩) hg2]; exact hc0
  have d1 : w4.cell? ⟨g, 1, none⟩ = some (.int .i64 (n1 : Int)) := by rw [b24.cell (p := ⟨g, 1, none⟩) hg2]; exact hc1
  have hg4 : g < w4.heap.size := by have := b24.size; omega
  have b04 : Below w.heap.size w w4 := b12.trans (b24.mono b12.size)
  have HS4 := hide hS4
  clear hc0 hc1 b3 b4 b24 hg2 hS4 HS3 HS2 b12
  obtain ⟨C, w5, hcv, hcells, hfro, b45, hz5⟩ := bytes_of t w4
  obtain ⟨i, hi⟩ : ∃ i : Nat, i = n0 % t.size := ⟨_, rfl⟩
  have hit : i < t.size := by rw [hi]; exact Nat.mod_lt _ (by omega)
  have htm : (n0 : Int).tmod (t.size : Int) = (i : Int) := by
    rw [Int.tmod_eq_emod_of_nonneg (by omega), hi]; simp
  have hb8 := (t[i]).toNat_lt
  obtain ⟨m, hm⟩ : ∃ m : Nat, m = n1 % 255 := ⟨_, rfl⟩
  have hm1 : (n1 : Int) % 255 = (m : Int) := by omega
  have hm2 : m < 255 := by omega
  have hxor := xor_u8 t[i] (1 + m) (by omega)
  have hne := xor_ne t[i] (1 + m) (by omega) (by omega)
  have ci := hcells i hit
  have fi := hfro i hit
  obtain ⟨tl, htl⟩ : ∃ tl, tl = t.data.toList := ⟨_, rfl⟩
  obtain ⟨b, hb⟩ : ∃ b, b = t[i] := ⟨_, rfl⟩
  rw [← hb] at hb8 hxor hne ci
  have e0 : w5.cell? ⟨g, 0, none⟩ = some (.int .i64 (n0 : Int)) := by rw [b45.cell (p := ⟨g, 0, none⟩) hg4]; exact d0
  have e1 : w5.cell? ⟨g, 1, none⟩ = some (.int .i64 (n1 : Int)) := by rw [b45.cell (p := ⟨g, 1, none⟩) hg4]; exact d1
  have hgne : g ≠ w4.heap.size := by omega
  have hwq : w.heap.size ≤ w4.heap.size := b04.size
  generalize hq : w4.heap.size = q at *
  have HQ := hide hq
  clear hq
  have HB := hide hb
  have HNE := hide hne
  have HCE := hide hcells
  have HI := hide hi
  have HM := hide hm
  clear hb hne hcells hi hm hfro d0 d1
  go_wp2
  have ht4 : 4 ≤ t.size := by omega
  have ht44 : t.size ≤ 44 := by omega
  have HTZ := hide htz
  clear htz
  have hnn : (n0 : Int) % ((s.size : Int) + 4) = (i : Int) := by
    have h1 := HI.out
    rw [HTZ.out] at h1
    rw [h1]
    simp
  rw [hnn, ← HTZ.out]
  have hxor2 : bits .xor .u8 (b.toNat : Int) (1 + (m : Int)) = ((b ^^^ UInt8.ofNat (1 + m)).toNat : Int) := by
    rw [← hxor]; simp
  clear hnn hxor
  have hm3 : IntKind.i64.wrap (1 + (m : Int)) = 1 + (m : Int) := wrap_fit _ (by omega) (by omega)
  go_region
  obtain ⟨c, hcc⟩ : ∃ c : UInt8, c = b ^^^ UInt8.ofNat (1 + m) := ⟨_, rfl⟩
  have hcx : b.toNat ^^^ (1 + m) % 256 = c.toNat := by
    rw [hcc, UInt8.toNat_xor, UInt8.toNat_ofNat']
  have hcb : c ≠ b := by rw [hcc]; exact HNE.out
  rw [hcx]
  clear hcx hcc hxor2 hm3 HNE HM hm1 hm2 hn1 e0 e1
  have htlen : tl.length = t.size := by rw [htl]; simp
  have b46 : Below q w4 (w5.setCell ⟨q, i, none⟩ (.int .u8 (c.toNat : Int))).drew :=
    (b45.grown (grown_set w5 q i _) (by omega) (fun k hk => by simp at hk; omega)).drew
  have hcell6 : ∀ j (h : j < (tl.set i c).length), (w5.setCell ⟨q, i, none⟩ (.int .u8 (c.toNat : Int))).drew.cell? ((⟨q, 0, none⟩ : Addr).add j) = some (.int .u8 ((tl.set i c)[j].toNat : Int)) := by
    intro j hj
    have hj' : j < t.size := by rw [← htlen]; simpa using hj
    have e1 : (⟨q, 0, none⟩ : Addr).add j = ⟨q, j, none⟩ := by
      simp only [Addr.add, Nat.zero_add]
      split <;> simp_all
    rw [e1]
    show (w5.setCell ⟨q, i, none⟩ (.int .u8 (c.toNat : Int))).cell? ⟨q, j, none⟩ = _
    by_cases hji : j = i
    · subst hji
      rw [World.cell?_setCell_same _ _ _ ci]
      simp
    · have hne : (⟨q, i, none⟩ : Addr) ≠ ⟨q, j, none⟩ := fun h => hji (Addr.mk.inj h).2.1.symm
      rw [World.cell?_setCell_other _ _ _ _ hne, HCE.out j hj']
      have hjl : j < tl.length := by omega
      have e5 : (tl.set i c)[j] = t[j] := by
        rw [List.getElem_set_ne (by omega)]
        simp only [htl]
        rfl
      rw [e5]
  have hstr := run_convert_bytes_back (P := Tryd.prog) ((w5.setCell ⟨q, i, none⟩ (.int .u8 (c.toNat : Int))).drew) 29 9 5 ⟨q, 0, none⟩ C (tl.set i c) Tryd.underlying29 Tryd.underlying5 Tryd.underlying9 hcell6
  rw [List.length_set, htlen] at hstr
  generalize (w5.setCell ⟨q, i, none⟩ (.int .u8 (c.toNat : Int))).drew = w6 at b46 hstr ⊢
  clear hcell6 ci fi HCE b45 hz5 hcv
  obtain ⟨t2, ht2⟩ : ∃ t2 : ByteArray, t2 = ⟨(tl.set i c).toArray⟩ := ⟨_, rfl⟩
  rw [← ht2] at hstr
  have hl2 : t2.data.toList = tl.set i c := by rw [ht2]
  have hz2 : t2.size ≤ 1048576 := by rw [size_list, hl2, List.length_set, htlen]; omega
  have hno : unV t2 = .tuple #[.string (bs []), .bool false] := by
    have e : tl = s.data.toList ++ fourL (upL 4294967295 s.data.toList) := by rw [htl, HT2.out, seal_list]
    refine turned_no s t2 i c (by have := HTZ.out; omega) (by rw [hl2, e]) (fun h => ?_)
    have e3 : (s.data.toList ++ fourL (upL 4294967295 s.data.toList))[i] = b := by
      rw [HB.out]
      have e4 : (s.data.toList ++ fourL (upL 4294967295 s.data.toList))[i]? = tl[i]? := by rw [e]
      rw [List.getElem?_eq_getElem h, List.getElem?_eq_getElem (by omega)] at e4
      rw [Option.some.inj e4]
      simp only [htl]
      rfl
    rw [e3]
    exact hcb
  have hS6 : Steps w6 := steps_later HS4.out b46 (by have := HQ.out; omega)
  have b06 : Below w.heap.size w w6 := b04.trans (b46.mono hwq)
  have HNO := hide hno
  have HS6 := hide hS6
  clear hno hS6 hl2 ht2 hcb b46 b04 HS4 HB HTZ HT2 htl htlen HUN HSE
  go_wp2_with fail
  refine (iun_any t2 _ hz2 HS6.out).mono ?_
  rw [HNO.out]
  rintro e w7 ⟨rfl, b7⟩
  have hS7 := steps_later HS6.out b7 (Nat.le_refl _)
  have b07 : Below w.heap.size w w7 := b06.trans (b7.mono b06.size)
  have h1 := iso_any s w7 (by omega) hS7
  have hx1 : (⟨#[120]⟩ : ByteArray).size = 1 := rfl
  have h3 := iso_any (s ++ ⟨#[120]⟩) w7 (by simp only [ByteArray.size_append, hx1]; omega) hS7
  have h2 := ism_any (upL 4294967295 s.data.toList) ⟨#[120]⟩ w7 (upL_lt _ _ (by omega)) (by decide) hS7
  rw [← sum_x] at h3
  have e120 : (⟨#[120]⟩ : ByteArray).data.toList = [120] := rfl
  rw [e120] at h2
  generalize upL (upL 4294967295 s.data.toList) [120] = y at h2 h3
  generalize upL 4294967295 s.data.toList = x at h1 h2
  have H1 := hide h1
  have H2 := hide h2
  have H3 := hide h3
  clear h1 h2 h3 hS7 b7 b06 HS6 HNO hstr
  go_wp2_with fail
  refine H1.out.mono ?_
  rintro e w8 ⟨rfl, rfl⟩
  go_wp2_with fail
  refine H2.out.mono ?_
  rintro e w8 ⟨rfl, rfl⟩
  go_wp2_with fail
  refine H3.out.mono ?_
  rintro e w8 ⟨rfl, rfl⟩
  go_wp2
  go_ret
  exact ⟨rfl, b07⟩
end Go.Proofs.YtejlgmdpdimknaaDoor
