/-
  The law FnPackets: its walk.
-/
import Derived.Test.YtchmmekhfcojgaaGreatDoorPq43
import Derived.Test.YtchmmekhfcojgaaGreatDoorPq50
import Derived.Test.YtchmmekhfcojgaaGreatDoorPq19
import Derived.LaidMore
import Derived.Stop.LaidErr
import Derived.Lib.LaidTab
import Derived.MakeChecks
namespace Go.Proofs.YtchmmekhfcojgaaGreatDoor
open Go.RowKit

set_option linter.unusedSimpArgs false

theorem rp_turned {t : ByteArray} {x : PkD} {xs : List RecD} {b : Bool} (h : RpRes t x xs b) (hno : unV t = .tuple #[.string (bs []), .bool false]) : b = false := by
  rcases h with ⟨rfl, h1, h2⟩ | ⟨rfl, _⟩
  · have h3 := un_sealT (bs (pkL x xs)) t h2 (by rw [bs_size]; have := pkL_len (pk_bounds h1); omega)
    rw [hno] at h3
    simp at h3
  · rfl

theorem pt_right {x : PkD} {xs : List RecD} (h : pkB x xs = true) : ptV x xs = .tuple #[.string (sealB (pkL x xs)), .bool true] := by
  unfold ptV
  rw [if_pos h]
  rfl

/-- what PacketText tells of what was read -/
theorem pt_back {t : ByteArray} {x : PkD} {xs : List RecD} {b : Bool} (h : RpRes t x xs b) : ∃ (s : ByteArray) (c : Bool), ptV x xs = .tuple #[.string s, .bool c] ∧ (b = true → s = t) := by
  obtain ⟨s, c, hs, _⟩ := ptV_str x xs
  refine ⟨s, c, hs, fun hb => ?_⟩
  rcases h with ⟨_, h1, h2⟩ | ⟨h1, _⟩
  · rw [pt_right h1] at hs
    simp at hs
    rw [h2]
    exact hs.1.symm
  · rw [h1] at hb
    cases hb

theorem tp_small {x : PkD} {ps : List RP} (h : pkB x (fsts ps) = true) : totP x ps ≤ 1048576 := rp_small (T := sealB (pkL x (fsts ps))) (b := true) (.inl ⟨rfl, h, rfl⟩)

theorem hops_ints {W : World} {base : Nat} {v : Value} {zs : List Int} (h : W.ownsRow base 3 1 v zs.length (flat intE zs)) : IntsAt W v zs W.heap.size := ints_of_owns (by rw [← flat_int]; exact h)

theorem pk_steps_of {W : World} (h : laidMetH Tryz.prog Rows.fnPacketsRow.laid W) : Steps W := by
  rw [MakeChecks.laidMetH_plain _ _ _ (by kernel_rfl)] at h
  have h2 : laidMet Tryz.prog [("loop.example/g00177/impl.sumSteps", Lib.tabData .u32 stepTab)] W := laidMet.tail h
  exact Lib.tabIs_of_head gSteps (t := 154) (by kernel_rfl) Tryz.underlying154 Tryz.underlying80 (by kernel_rfl) (by kernel_rfl) h2

set_option maxRecDepth 100000 in
set_option maxHeartbeats 4000000 in
theorem fnPackets_walk (a : Option Addr) (len cap : Nat) (w : World) (hc : len ≤ 1048576 → Code w a len w.heap.size) (hL : laidMetH Tryz.prog Rows.fnPacketsRow.laid w) :
    Calls Tryz.prog 3 #[.slice a len cap] w fun e w' => e = .returned (.bool true) ∧ Below w.heap.size w w' := by
  have hT : Steps w := pk_steps_of hL
  clear hL
  by_cases hbig : (1048576 : Int) < (len : Int)
  · clear hc hT
    go_enter Tryz.func3, Tryz.ntmps3
    go_wp2_with (first | (go_at_call 4; refine (big_any _ _ _ _).mono ?_; rintro e w' ⟨rfl, rfl⟩))
    go_ret
    exact ⟨rfl, Below.refl _ _⟩
  have HC := hide (hc (by omega))
  have HT := hide hT
  clear hc hT
  go_enter Tryz.func3, Tryz.ntmps3
  go_wp2_with (first | (go_at_call 4; refine (big_any _ _ _ _).mono ?_; rintro e w' ⟨rfl, rfl⟩))
  refine (drawRP_right a len cap _ HC.out).mono ?_
  rintro e w1 ⟨x, v1, v2, ps, rfl, hok, src, b1⟩
  obtain ⟨⟨va, vc, rfl⟩, ⟨ua, uc, rfl⟩⟩ := src.in.shapes
  have htp := tp_small hok
  have BA : Below w1.heap.size w1 (w1.alloc (.cells #[.int .i64 x.kind, .int .i64 x.src, .int .i64 x.dst, .int .i64 x.area, .slice va x.heard.length vc, .slice ua ps.length uc] 27)) := (Below.refl _ _).alloc (Nat.le_refl _) _
  have g0 := heap_alloc_new w1 (.cells #[.int .i64 x.kind, .int .i64 x.src, .int .i64 x.dst, .int .i64 x.area, .slice va x.heard.length vc, .slice ua ps.length uc] 27)
  have B1 : Below w.heap.size w (w1.alloc (.cells #[.int .i64 x.kind, .int .i64 x.src, .int .i64 x.dst, .int .i64 x.area, .slice va x.heard.length vc, .slice ua ps.length uc] 27)) := b1.trans (BA.mono b1.size)
  have HPT := hide (iptext_any (.slice va x.heard.length vc) (.slice ua ps.length uc) x ps w1.heap.size (w1.alloc (.cells #[.int .i64 x.kind, .int .i64 x.src, .int .i64 x.dst, .int .i64 x.area, .slice va x.heard.length vc, .slice ua ps.length uc] 27)) htp (src.below BA (Nat.le_refl _)) BA.size (steps_later HT.out B1 (Nat.le_refl _)))
  rw [pt_right hok] at HPT
  have SRC := hide (src.below BA (Nat.le_refl _))
  have G0 := hide g0
  have HOK := hide hok
  have hb1 : w.heap.size ≤ w1.heap.size := b1.size
  clear src b1 g0 hok
  unfold pkC
  go_wp2_with fail
  obtain ⟨wA, hwA⟩ : ∃ W, W = w1.alloc (.cells #[.int .i64 x.kind, .int .i64 x.src, .int .i64 x.dst, .int .i64 x.area, .slice va x.heard.length vc, .slice ua ps.length uc] 27) := ⟨_, rfl⟩
  rw [← hwA] at HPT SRC G0 B1 BA ⊢
  clear hwA
  refine HPT.out.mono ?_
  rintro e w2 ⟨rfl, b2⟩
  have B2 : Below w.heap.size w w2 := B1.trans (b2.mono B1.size)
  have hA1 : w1.heap.size ≤ wA.heap.size := BA.size
  have SRC2 := hide (SRC.out.below b2 hA1)
  have G2 := hide ((b2.block _ (lt_of_heap G0.out)).trans G0.out)
  obtain ⟨s, hs⟩ : ∃ s, s = bs (pkL x (fsts ps)) := ⟨_, rfl⟩
  have hsz : s.size ≤ 10000 := by rw [hs, bs_size]; exact pkL_len (pk_bounds HOK.out)
  obtain ⟨t, ht⟩ : ∃ t, t = s ++ bs (fourL (sumS s)) := ⟨_, rfl⟩
  have hts : sealB (pkL x (fsts ps)) = t := by rw [ht, hs]; rfl
  have htz : t.size = s.size + 4 := by rw [ht, ByteArray.size_append, bs_size, fourL_len]
  rw [hts]
  have HRR := hide (show RpRes t x (fsts ps) true from .inl ⟨rfl, HOK.out, hts.symm⟩)
  have HRP := hide (irp_any t w2 (by omega) (steps_later HT.out B2 (Nat.le_refl _)))
  have HTE := hide ht
  have hsA : w1.heap.size ≤ w2.heap.size := Nat.le_trans hA1 b2.size
  clear hs ht hts b2 HPT SRC G0 B1 BA hA1
  go_wp2_with fail
  refine HRP.out.mono ?_
  rintro e w3 ⟨x', u1, u2, qs, m, b, rfl, res, own, b3⟩
  obtain ⟨rfl, hqs, rfl⟩ := res.unique HRR.out
  obtain ⟨⟨na, nc, rfl⟩, ⟨ma, mc, rfl⟩⟩ := own.in.shapes
  have B3 : Below w.heap.size w w3 := B2.trans (b3.mono B2.size)
  have hs3 := b3.size
  have G3 := (b3.block _ (lt_of_heap G2.out)).trans G2.out
  have SRC3 := SRC2.out.below b3 hsA
  have BB : Below w3.heap.size w3 (w3.alloc (.cells #[.int .i64 x'.kind, .int .i64 x'.src, .int .i64 x'.dst, .int .i64 x'.area, .slice na x'.heard.length nc, .slice ma qs.length mc] 27)) := (Below.refl _ _).alloc (Nat.le_refl _) _
  have g4 := heap_alloc_new w3 (.cells #[.int .i64 x'.kind, .int .i64 x'.src, .int .i64 x'.dst, .int .i64 x'.area, .slice na x'.heard.length nc, .slice ma qs.length mc] 27)
  have G4 := (BB.block _ (lt_of_heap G3)).trans G3
  have SRC4 := SRC3.below BB (by omega)
  have own4 := own.below BB (Nat.le_refl _)
  have B4 : Below w.heap.size w (w3.alloc (.cells #[.int .i64 x'.kind, .int .i64 x'.src, .int .i64 x'.dst, .int .i64 x'.area, .slice na x'.heard.length nc, .slice ma qs.length mc] 27)) := B3.trans (BB.mono B3.size)
  have hs4 : w3.heap.size < (w3.alloc (.cells #[.int .i64 x'.kind, .int .i64 x'.src, .int .i64 x'.dst, .int .i64 x'.area, .slice na x'.heard.length nc, .slice ma qs.length mc] 27)).heap.size := lt_of_heap g4
  have HZ4 := hide g4
  have HG4 := hide G4
  have HS4 := hide SRC4
  have HO4 := hide own4
  have HB4 := hide B4
  have hfl : fsts qs = fsts ps := hqs
  have htq : totP x' qs ≤ 1048576 := by unfold totP at htp ⊢; rw [tot_D, hfl, ← tot_D]; exact htp
  have HQS := hide hfl
  have a0 := cells_at G4 0
  have a1 := cells_at G4 1
  have a2 := cells_at G4 2
  have a3 := cells_at G4 3
  have a4 := cells_at G4 4
  have a5 := cells_at G4 5
  simp only [List.getElem?_toArray, List.getElem?_cons_succ, List.getElem?_cons_zero] at a0 a1 a2 a3 a4 a5
  have c0 := cells_at g4 0
  have c1 := cells_at g4 1
  have c2 := cells_at g4 2
  have c3 := cells_at g4 3
  have c4 := cells_at g4 4
  have c5 := cells_at g4 5
  simp only [List.getElem?_toArray, List.getElem?_cons_succ, List.getElem?_cons_zero] at c0 c1 c2 c3 c4 c5
  have HPK := hide (ipacketOk_any (.slice va x'.heard.length vc) (.slice ua ps.length uc) x' ps _ htp (SRC4.in.more (show w1.heap.size ≤ (w3.alloc (.cells #[.int .i64 x'.kind, .int .i64 x'.src, .int .i64 x'.dst, .int .i64 x'.area, .slice na x'.heard.length nc, .slice ma qs.length mc] 27)).heap.size by omega)))
  rw [HOK.out] at HPK
  clear g4 G4 SRC4 own4 B4 G3 SRC3 own b3 B3 B2 res HRR HRP SRC2 G2 BB hqs hfl
  go_upto_region 6 with fail
  obtain ⟨wB, hwB⟩ : ∃ W, W = w3.alloc (.cells #[.int .i64 x'.kind, .int .i64 x'.src, .int .i64 x'.dst, .int .i64 x'.area, .slice na x'.heard.length nc, .slice ma qs.length mc] 27) := ⟨_, rfl⟩
  rw [← hwB] at HZ4 HG4 HS4 HO4 HB4 hs4 a0 a1 a2 a3 a4 a5 c0 c1 c2 c3 c4 c5 HPK ⊢
  clear hwB
  go_wp2_with fail
  refine HPK.out.mono ?_
  rintro e w5 ⟨rfl, b5⟩
  have G5 := (b5.block _ (lt_of_heap HG4.out)).trans HG4.out
  have Z5 := (b5.block _ (lt_of_heap HZ4.out)).trans HZ4.out
  clear a0 a1 a2 a3 a4 a5 c0 c1 c2 c3 c4 c5 HPK
  have a0 := cells_at G5 0
  have a1 := cells_at G5 1
  have a2 := cells_at G5 2
  have a3 := cells_at G5 3
  have a4 := cells_at G5 4
  have a5 := cells_at G5 5
  simp only [List.getElem?_toArray, List.getElem?_cons_succ, List.getElem?_cons_zero] at a0 a1 a2 a3 a4 a5
  have c0 := cells_at Z5 0
  have c1 := cells_at Z5 1
  have c2 := cells_at Z5 2
  have c3 := cells_at Z5 3
  have c4 := cells_at Z5 4
  have c5 := cells_at Z5 5
  simp only [List.getElem?_toArray, List.getElem?_cons_succ, List.getElem?_cons_zero] at c0 c1 c2 c3 c4 c5
  have hs5 := b5.size
  have hw1 : w1.heap.size ≤ wB.heap.size := by omega
  have SRC5 := hide (HS4.out.below b5 hw1)
  have OW5 := hide (HO4.out.below b5 (Nat.le_of_lt hs4))
  have hhl : x'.heard.length ≤ 1048576 := by unfold totP at htp; omega
  have HSI := hide (sameI_any (.slice na x'.heard.length nc) (.slice va x'.heard.length vc) x'.heard x'.heard w5 (hops_ints OW5.out.heard.row) (hops_ints SRC5.out.heard) hhl)
  rw [decide_eq_true rfl] at HSI
  have B5 : Below w.heap.size w w5 := HB4.out.trans (b5.mono HB4.out.size)
  have HG5 := hide G5
  have HZ5 := hide Z5
  clear G5 Z5 b5 HG4 HZ4 HS4 HO4 HB4
  go_wp2_with fail
  refine HSI.out.mono ?_
  rintro e w6 ⟨rfl, b6⟩
  have G6 := (b6.block _ (lt_of_heap HG5.out)).trans HG5.out
  have Z6 := (b6.block _ (lt_of_heap HZ5.out)).trans HZ5.out
  have hs6 := b6.size
  have SRC6 := hide (SRC5.out.below b6 (by omega))
  have OW6 := hide (OW5.out.below b6 (by omega))
  have B6 : Below w.heap.size w w6 := B5.trans (b6.mono B5.size)
  have HSS := hide (sameStore_any (.slice ma qs.length mc) (.slice ua ps.length uc) qs ps w6.heap.size w6 (OW6.out.list.in.wide (by omega)) (SRC6.out.list.wide (by omega)) HQS.out (Nat.le_refl _) (by unfold totP at htq; omega))
  clear a0 a1 a2 a3 a4 a5 c0 c1 c2 c3 c4 c5 HSI
  have a5 := cells_at G6 5
  have c5 := cells_at Z6 5
  simp only [List.getElem?_toArray, List.getElem?_cons_succ, List.getElem?_cons_zero] at a5 c5
  clear G6 Z6 b6 SRC5 OW5 HG5 HZ5
  go_wp2_with fail
  refine HSS.out.mono ?_
  rintro e w7 ⟨rfl, b7⟩
  have B7 : Below w.heap.size w w7 := B6.trans (b7.mono B6.size)
  have hs7 := b7.size
  clear HSS a5 c5 b7 SRC6 OW6 htq htp HQS hhl
  go_wp2_with fail
  refine (drawPlaces_any a len cap _ (code_later HC.out B7)).mono ?_
  rintro e w8 ⟨v, zs, rfl, hz12, hzs, hown, b8⟩
  have B8 : Below w.heap.size w w8 := B7.trans (b8.mono B7.size)
  obtain ⟨g, vcc, rfl, hg1, hg2⟩ := owns_shape hown (by omega)
  obtain ⟨n0, hn0, d0⟩ : ∃ n0 : Nat, n0 ≤ 9999 ∧ w8.cell? ⟨g, 0, none⟩ = some (.int .i64 (n0 : Int)) := by
    have h12 : 0 < zs.length := by omega
    have hb := hzs zs[0] (List.getElem_mem h12)
    refine ⟨zs[0].toNat, by omega, ?_⟩
    rw [hown.cellAt 0 (by omega)]
    simp [intsOf, List.getElem?_eq_getElem h12]
    omega
  obtain ⟨n1, hn1, d1⟩ : ∃ n1 : Nat, n1 ≤ 9999 ∧ w8.cell? ⟨g, 1, none⟩ = some (.int .i64 (n1 : Int)) := by
    have h12 : 1 < zs.length := by omega
    have hb := hzs zs[1] (List.getElem_mem h12)
    refine ⟨zs[1].toNat, by omega, ?_⟩
    rw [hown.cellAt 1 (by omega)]
    simp [intsOf, List.getElem?_eq_getElem h12]
    omega
  clear hown hzs hz12 b8
  have hS8 := hide (steps_later HT.out B8 (Nat.le_refl _))
  obtain ⟨C, w9, hcv, hcells, hfro, b89, hz9⟩ := bytes_of t w8
  obtain ⟨i, hi⟩ : ∃ i : Nat, i = n0 % t.size := ⟨_, rfl⟩
  have hit : i < t.size := by rw [hi]; exact Nat.mod_lt _ (by omega)
  have htm : (n0 : Int).tmod (t.size : Int) = (i : Int) := by
    rw [Int.tmod_eq_emod_of_nonneg (by omega), hi]; simp
  have hb8 := (t[i]).toNat_lt
  obtain ⟨m9, hm⟩ : ∃ m9 : Nat, m9 = n1 % 255 := ⟨_, rfl⟩
  have hm1 : (n1 : Int) % 255 = (m9 : Int) := by omega
  have hm2 : m9 < 255 := by omega
  have hxor := xor_u8 t[i] (1 + m9) (by omega)
  have hne := xor_ne t[i] (1 + m9) (by omega) (by omega)
  have ci := hcells i hit
  have fi := hfro i hit
  obtain ⟨tl, htl⟩ : ∃ tl, tl = t.data.toList := ⟨_, rfl⟩
  obtain ⟨b, hb⟩ : ∃ b, b = t[i] := ⟨_, rfl⟩
  rw [← hb] at hb8 hxor hne ci
  have e0 : w9.cell? ⟨g, 0, none⟩ = some (.int .i64 (n0 : Int)) := by rw [b89.cell (p := ⟨g, 0, none⟩) hg2]; exact d0
  have e1 : w9.cell? ⟨g, 1, none⟩ = some (.int .i64 (n1 : Int)) := by rw [b89.cell (p := ⟨g, 1, none⟩) hg2]; exact d1
  have hgne : g ≠ w8.heap.size := by omega
  have hwq : w.heap.size ≤ w8.heap.size := B8.size
  generalize hq : w8.heap.size = q at *
  have HQ := hide hq
  clear hq
  have HB := hide hb
  have HNE := hide hne
  have HCE := hide hcells
  have HI := hide hi
  have HM := hide hm
  have HTL := hide htl
  have ht4 : 4 ≤ t.size := by omega
  have ht44 : t.size ≤ 10004 := by omega
  have HTZ := hide htz
  have hnn : (n0 : Int) % (t.size : Int) = (i : Int) := by rw [HI.out]; simp
  clear hb hne hcells hi hm hfro d0 d1 htz htl
  go_wp2
  (try rw [hnn])
  have hxor2 : bits .xor .u8 (b.toNat : Int) (1 + (m9 : Int)) = ((b ^^^ UInt8.ofNat (1 + m9)).toNat : Int) := by
    rw [← hxor]; simp
  clear hxor
  have hm3 : IntKind.i64.wrap (1 + (m9 : Int)) = 1 + (m9 : Int) := wrap_fit _ (by omega) (by omega)
  go_region
  obtain ⟨c, hcc⟩ : ∃ c : UInt8, c = b ^^^ UInt8.ofNat (1 + m9) := ⟨_, rfl⟩
  have hcx : b.toNat ^^^ (1 + m9) % 256 = c.toNat := by
    rw [hcc, UInt8.toNat_xor, UInt8.toNat_ofNat']
  have hcb : c ≠ b := by rw [hcc]; exact HNE.out
  rw [hcx]
  clear hcx hcc hxor2 hm3 HNE HM hm1 hm2 hn1 e0 e1
  have htl := HTL.out
  have htlen : tl.length = t.size := by rw [htl]; simp
  have b810 : Below q w8 (w9.setCell ⟨q, i, none⟩ (.int .u8 (c.toNat : Int))).drew :=
    (b89.grown (grown_set w9 q i _) (by omega) (fun k hk => by simp at hk; omega)).drew
  have hcell6 : ∀ j (h : j < (tl.set i c).length), (w9.setCell ⟨q, i, none⟩ (.int .u8 (c.toNat : Int))).drew.cell? ((⟨q, 0, none⟩ : Addr).add j) = some (.int .u8 ((tl.set i c)[j].toNat : Int)) := by
    intro j hj
    have hj' : j < t.size := by rw [← htlen]; simpa using hj
    have e1 : (⟨q, 0, none⟩ : Addr).add j = ⟨q, j, none⟩ := by
      simp only [Addr.add, Nat.zero_add]
      split <;> simp_all
    rw [e1]
    show (w9.setCell ⟨q, i, none⟩ (.int .u8 (c.toNat : Int))).cell? ⟨q, j, none⟩ = _
    by_cases hji : j = i
    · subst hji
      rw [World.cell?_setCell_same _ _ _ ci]
      simp
    · have hne : (⟨q, i, none⟩ : Addr) ≠ ⟨q, j, none⟩ := fun h => hji (Addr.mk.inj h).2.1.symm
      rw [World.cell?_setCell_other _ _ _ _ hne, HCE.out j hj']
      have hjl : j < tl.length := by omega
      have e5 : (tl.set i c)[j] = t[j] := by
        rw [List.getElem_set_ne (by omega)]
        simp only [htl]
        rfl
      rw [e5]
  have hstr := run_convert_bytes_back (P := Tryz.prog) ((w9.setCell ⟨q, i, none⟩ (.int .u8 (c.toNat : Int))).drew) 22 9 5 ⟨q, 0, none⟩ C (tl.set i c) Tryz.underlying22 Tryz.underlying5 Tryz.underlying9 hcell6
  rw [List.length_set, htlen] at hstr
  generalize (w9.setCell ⟨q, i, none⟩ (.int .u8 (c.toNat : Int))).drew = wX at b810 hstr ⊢
  clear hcell6 ci fi HCE b89 hz9 hcv
  obtain ⟨t2, ht2⟩ : ∃ t2 : ByteArray, t2 = ⟨(tl.set i c).toArray⟩ := ⟨_, rfl⟩
  rw [← ht2] at hstr
  have hl2 : t2.data.toList = tl.set i c := by rw [ht2]
  have hz2 : t2.size ≤ 1048576 := by rw [size_list, hl2, List.length_set, htlen]; omega
  have hno : unV t2 = .tuple #[.string (bs []), .bool false] := by
    have e : tl = s.data.toList ++ fourL (upL 4294967295 s.data.toList) := by rw [htl, HTE.out, seal_listT]
    refine turned_no s t2 i c (by have := HTZ.out; omega) (by rw [hl2, e]) (fun h => ?_)
    have e3 : (s.data.toList ++ fourL (upL 4294967295 s.data.toList))[i] = b := by
      rw [HB.out]
      have e4 : (s.data.toList ++ fourL (upL 4294967295 s.data.toList))[i]? = tl[i]? := by rw [e]
      rw [List.getElem?_eq_getElem h, List.getElem?_eq_getElem (by omega)] at e4
      rw [Option.some.inj e4]
      simp only [htl]
      rfl
    rw [e3]
    exact hcb
  have hSX : Steps wX := steps_later hS8.out b810 (by have := HQ.out; omega)
  have BX : Below w.heap.size w wX := B8.trans (b810.mono hwq)
  have HNO := hide hno
  have HRX := hide (irp_any t2 wX hz2 hSX)
  clear hno hSX hl2 ht2 hcb b810 hS8 HB HTZ HTE HTL htl htlen hnn
  go_wp2_with fail
  refine HRX.out.mono ?_
  rintro e wY ⟨x2, p1, p2, q2, m2, bw, rfl, res2, own2, bY⟩
  obtain rfl := rp_turned res2 HNO.out
  have BY : Below w.heap.size w wY := BX.trans (bY.mono BX.size)
  obtain ⟨⟨ya, yc, rfl⟩, ⟨yb, yd, rfl⟩⟩ := own2.in.shapes
  clear res2 own2 bY HRX HNO hstr
  have BZ : Below w.heap.size w (wY.alloc (.cells #[.int .i64 x2.kind, .int .i64 x2.src, .int .i64 x2.dst, .int .i64 x2.area, .slice ya x2.heard.length yc, .slice yb q2.length yd] 27)) := BY.alloc BY.size _
  go_wp2_with fail
  generalize wY.alloc (.cells #[.int .i64 x2.kind, .int .i64 x2.src, .int .i64 x2.dst, .int .i64 x2.area, .slice ya x2.heard.length yc, .slice yb q2.length yd] 27) = wZ at BZ ⊢
  refine (drawReadP_any a len cap _ (code_later HC.out BZ)).mono ?_
  rintro e wa ⟨t3, rfl, ht3, ba⟩
  have Ba : Below w.heap.size w wa := BZ.trans (ba.mono BZ.size)
  have HRA := hide (irp_any t3 wa ht3 (steps_later HT.out Ba (Nat.le_refl _)))
  clear ba BZ BY BX
  go_wp2_with fail
  refine HRA.out.mono ?_
  rintro e wb ⟨x3, r1, r2, q3, m3, b3, rfl, res3, own3, bb⟩
  obtain ⟨⟨ea, ec, rfl⟩, ⟨eb, ed, rfl⟩⟩ := own3.in.shapes
  have Bb : Below w.heap.size w wb := Ba.trans (bb.mono Ba.size)
  have hsb := bb.size
  have BC : Below wb.heap.size wb (wb.alloc (.cells #[.int .i64 x3.kind, .int .i64 x3.src, .int .i64 x3.dst, .int .i64 x3.area, .slice ea x3.heard.length ec, .slice eb q3.length ed] 27)) := (Below.refl _ _).alloc (Nat.le_refl _) _
  have gc := hide (heap_alloc_new wb (.cells #[.int .i64 x3.kind, .int .i64 x3.src, .int .i64 x3.dst, .int .i64 x3.area, .slice ea x3.heard.length ec, .slice eb q3.length ed] 27))
  have Bc : Below w.heap.size w (wb.alloc (.cells #[.int .i64 x3.kind, .int .i64 x3.src, .int .i64 x3.dst, .int .i64 x3.area, .slice ea x3.heard.length ec, .slice eb q3.length ed] 27)) := Bb.trans (BC.mono Bb.size)
  have OW3 := hide (own3.below BC (Nat.le_refl _))
  have HR3 := hide res3
  clear HRA own3 res3 bb Bb Ba
  go_wp2_with fail
  obtain ⟨wc, hwc⟩ : ∃ W, W = wb.alloc (.cells #[.int .i64 x3.kind, .int .i64 x3.src, .int .i64 x3.dst, .int .i64 x3.area, .slice ea x3.heard.length ec, .slice eb q3.length ed] 27) := ⟨_, rfl⟩
  rw [← hwc] at gc Bc OW3 BC ⊢
  clear hwc
  refine (srp_any t3 wc ht3).mono ?_
  rintro e wd ⟨x4, k1, k2, q4, m4, b4, rfl, res4, own4, bd⟩
  obtain ⟨⟨fa, fc, rfl⟩, ⟨fb, fd, rfl⟩⟩ := own4.in.shapes
  have h34 := (HR3.out.unique res4).2.2
  have Bd : Below w.heap.size w wd := Bc.trans (bd.mono Bc.size)
  have hwbc := BC.size
  have hwcd := bd.size
  have gd := (bd.block _ (lt_of_heap gc.out)).trans gc.out
  have OWd := OW3.out.below bd hwbc
  have BE : Below wd.heap.size wd (wd.alloc (.cells #[.int .i64 x4.kind, .int .i64 x4.src, .int .i64 x4.dst, .int .i64 x4.area, .slice fa x4.heard.length fc, .slice fb q4.length fd] 27)) := (Below.refl _ _).alloc (Nat.le_refl _) _
  have Be : Below w.heap.size w (wd.alloc (.cells #[.int .i64 x4.kind, .int .i64 x4.src, .int .i64 x4.dst, .int .i64 x4.area, .slice fa x4.heard.length fc, .slice fb q4.length fd] 27)) := Bd.trans (BE.mono Bd.size)
  have ge := (BE.block _ (lt_of_heap gd)).trans gd
  have OWe := OWd.below BE (by omega)
  have hbe := BE.size
  have a0 := cells_at ge 0
  have a1 := cells_at ge 1
  have a2 := cells_at ge 2
  have a3 := cells_at ge 3
  have a4 := cells_at ge 4
  have a5 := cells_at ge 5
  simp only [List.getElem?_toArray, List.getElem?_cons_succ, List.getElem?_cons_zero] at a0 a1 a2 a3 a4 a5
  have HPT := hide (iptext_any (.slice ea x3.heard.length ec) (.slice eb q3.length ed) x3 q3 wb.heap.size _ (rp_small HR3.out) OWe.src (by omega) (steps_later HT.out Be (Nat.le_refl _)))
  obtain ⟨s9, c9, hs9, hst⟩ := pt_back HR3.out
  rw [hs9] at HPT
  have HH := hide h34
  have HBe := hide Be
  have hwbd := lt_of_heap gd
  clear hs9 gd ge OWd OWe BE Be Bd bd own4 res4 HR3 OW3 gc Bc BC h34
  go_wp2_with fail
  refine HPT.out.mono ?_
  rintro e wf ⟨rfl, bf⟩
  have Bf : Below w.heap.size w wf := HBe.out.trans (bf.mono HBe.out.size)
  have hh := HH.out
  subst hh
  cases b3
  · go_wp2
    go_ret
    exact ⟨rfl, Bf⟩
  · have e9 := hst rfl
    subst e9
    go_wp2
    go_ret
    exact ⟨rfl, Bf⟩
end Go.Proofs.YtchmmekhfcojgaaGreatDoor
