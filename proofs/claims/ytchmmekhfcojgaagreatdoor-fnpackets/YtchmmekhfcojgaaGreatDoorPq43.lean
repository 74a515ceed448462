/-
  spec.l01Text: some text of its length.
  spec.l04Copy: a record with a row of its own.
  spec.DrawRecordText: some record.
  spec.l02Spoilt, DrawReadRecord: some text.
  spec.DrawRightPacket: some right packet; spec.DrawReadPacket: some text.
-/
import Derived.Test.YtchmmekhfcojgaaGreatDoorPq12
import Derived.Test.YtchmmekhfcojgaaGreatDoorPq4
import Derived.Deep.RegionHeld3
import Derived.Test.YtchmmekhfcojgaaGreatDoorPq24
import Derived.Test.YtchmmekhfcojgaaGreatDoorPq28
import Derived.Laws.AppendOwnNone
import Derived.Test.YtchmmekhfcojgaaGreatDoorPq21
import Derived.Test.YtchmmekhfcojgaaGreatDoorPq39
import Derived.Test.YtchmmekhfcojgaaGreatDoorPq42
import Derived.Test.YtchmmekhfcojgaaGreatDoorPq36
namespace Go.Proofs.YtchmmekhfcojgaaGreatDoor
open Go.RowKit

theorem byteI (x : Int) (h0 : 0 ≤ x) (h1 : x ≤ 255) : x = ((UInt8.ofNat x.toNat).toNat : Int) := by simp; omega

set_option maxRecDepth 100000 in
set_option maxHeartbeats 1000000 in
theorem text_any (p : Nat) (a : Option Addr) (len cap : Nat) (n : Int) (w : World) (hc : Cur w p a len cap) (hn : 0 ≤ n) (hn2 : n ≤ 5000) :
    Calls Tryz.prog 65 #[.pointer (some ⟨p, 0, none⟩), .int .i64 n] w fun e w' => ∃ l : List UInt8, e = .returned (.string (bs l)) ∧ (l.length : Int) = n ∧ Cur w' p a len cap ∧ Below p w w' := by
  have hp := lt_of_cur hc
  obtain ⟨m, rfl⟩ : ∃ m : Nat, n = (m : Int) := ⟨n.toNat, by omega⟩
  have HC := hide hc
  clear hc
  go_enter Tryz.func65, Tryz.ntmps65
  go_wp2
  go_loopw [5, 6] (fun v i wr => ∃ (k : Nat) (l : List UInt8), k ≤ m ∧ i = .int .i64 k ∧ l.length = k ∧ wr.ownsRow w.heap.size 5 1 v l.length (cellsOf l) ∧ Cur wr p a len cap ∧ Below p w wr ∧ w.heap.size ≤ wr.heap.size) (fun _ i _ => m - (intOf i).toNat)
  case atStart =>
    refine ⟨0, [], by omega, rfl, rfl, ?_, ?_, (Below.refl _ _).alloc (by omega) _, by simp⟩
    · exact World.ownsRow_lit _ _ 0 (by simp) (by decide) rfl
    · exact HC.out.grown (row := none) ⟨rfl, rfl, rfl, by simp, fun k hk _ => Below.heap_alloc _ _ _ hk⟩ (fun b _ => by simp)
  case round =>
    obtain ⟨k, l, hk, rfl, hlk, hown, hcr, hnx, hsz⟩ := hrel
    have HLK := hide hlk
    have hll : l.length ≤ k := by omega
    clear hlk
    by_cases hlt : k < m
    · have OW := hide hown
      have CR := hide hcr
      clear hown hcr
      go_wp2_with fail
      refine (byte_any p a len cap _ CR.out).mono ?_
      rintro e w1 ⟨x, rfl, hx0, hx1, hc1, hg1⟩
      have hown1 : w1.ownsRow w.heap.size 5 1 u5 l.length (cellsOf l) := OW.out.kept hg1 (by
        rcases OW.out.2 with ⟨e, _⟩ | ⟨g, cp, cur, e, hb, _⟩
        · exact .inl (by rw [e]; rfl)
        · refine .inr ?_
          rw [e]
          intro h
          simp [Value.ownBlock] at h
          omega)
      have hb1 : Below p w w1 := hnx.grown hg1 (by omega) (fun k hk => by simp at hk; omega)
      have hs1 : w.heap.size ≤ w1.heap.size := Nat.le_trans hsz hg1.size
      have hbx := byteI x hx0 hx1
      have HB := hide hbx
      have HC1 := hide hc1
      clear hc1 hg1 hbx
      go_wp2_with (first
        | (at_builtin; refine wpList_append_bytes _ rfl _ _ 22 rfl w.heap.size 5 Tryz.underlying22 Tryz.info5 u5 l [UInt8.ofNat x.toNat] rfl (hown1.alloc _) ⟨w1.heap.size, 0, none⟩ 1 rfl (news_one _ _ _ HB.out) (by simp; omega) (by simp; omega) ?_))
      intro v' w2 l' hl' hown' hgrow
      have hc2 := HC1.out.appended _ hown1 hp hgrow
      have hb2 : Below p w w2 := (hb1.alloc (by omega) _).grown hgrow (by simp; omega) (fun k hk => by have := (hown1.lt k hk).1; omega)
      have hs2 : w.heap.size ≤ w2.heap.size := by have := hgrow.size; simp at this; omega
      have HC2 := hide hc2
      have OW2 := hide hown'
      clear hgrow hown1 hown' hc2
      go_wp2
      go_roundw
      case rel => exact ⟨k + 1, l', by omega, by go_num, by rw [hl'.out]; simp [HLK.out], OW2.out, HC2.out, hb2, hs2⟩
      case measure => simp [intOf]; omega
    · have hstr := run_str_own (P := Tryz.prog) 22 9 5 Tryz.underlying22 Tryz.underlying5 Tryz.underlying9 hown
      have CR := hide hcr
      clear hcr hown
      go_wp2
      go_ret
      exact ⟨l, rfl, by have := HLK.out; omega, CR.out, hnx⟩
end Go.Proofs.YtchmmekhfcojgaaGreatDoor
namespace Go.Proofs.YtchmmekhfcojgaaGreatDoor
open Go.RowKit

set_option linter.unusedSimpArgs false

end Go.Proofs.YtchmmekhfcojgaaGreatDoor
namespace Go.Proofs.YtchmmekhfcojgaaGreatDoor
open Go.RowKit

set_option linter.unusedSimpArgs false

end Go.Proofs.YtchmmekhfcojgaaGreatDoor
namespace Go.Proofs.YtchmmekhfcojgaaGreatDoor
open Go.RowKit

set_option linter.unusedSimpArgs false

theorem sl_hi5 {P : Program} {t : TypeId} (hu : P.underlying t = some .string) (s u : ByteArray) (n : Nat) (h : n ≤ s.size) (he : u = s.extract 0 n) (w : World) :
    (Instr.slice t (.string s) none (some (.int .i64 (n : Int))) none).run P w = .ok (.string u) w := by
  rw [he, run_slice_string_h w t s hu .i64 (n : Int) (by omega) (by omega)]
  rfl

theorem sl_lo5 {P : Program} {t : TypeId} (hu : P.underlying t = some .string) (s u : ByteArray) (n : Nat) (h : n ≤ s.size) (he : u = s.extract n s.size) (w : World) :
    (Instr.slice t (.string s) (some (.int .i64 (n : Int))) none none).run P w = .ok (.string u) w := by
  rw [he, run_slice_string_l w t s hu .i64 (n : Int) (by omega) (by omega)]
  rfl

theorem str_add5 {P : Program} (a b u : ByteArray) (he : u = a ++ b) (W : World) (h : a.size + b.size ≤ 1000000) : (Op.stringOp .add a b).run P W = .ok (.string u) W := by
  rw [he, run_string_add_sum _ _ _ (by omega)]

set_option maxRecDepth 100000 in
set_option maxHeartbeats 2000000 in
theorem spoilt_any (p : Nat) (a : Option Addr) (len cap : Nat) (s : ByteArray) (w : World) (hc : Cur w p a len cap) (hs : s.size ≤ 200000) :
    Calls Tryz.prog 30 #[.pointer (some ⟨p, 0, none⟩), .string s] w fun e w' => ∃ t : ByteArray, e = .returned (.string t) ∧ t.size ≤ 200001 ∧ Below p w w' := by
  have hp := lt_of_cur hc
  have HC := hide hc
  clear hc
  go_enter Tryz.func30, Tryz.ntmps30
  go_wp2_with fail
  refine (below_any p a len cap 12 _ HC.out (by omega) (by omega)).mono ?_
  rintro e w1 ⟨x, rfl, hx0, hx1, hc1, g1⟩
  have b1 := below_of_grown g1 (Nat.le_of_lt hp)
  have hp1 := lt_of_cur hc1
  have CR := hide hc1
  clear hc1 g1 HC
  by_cases h0 : x = 0
  · subst h0
    go_wp2_with fail
    refine (text_any p a len cap 1 _ CR.out (by omega) (by omega)).mono ?_
    rintro e w2 ⟨l, rfl, hl, _, b2⟩
    obtain ⟨u, hu⟩ : ∃ u, u = s ++ bs l := ⟨_, rfl⟩
    have hll : (bs l).size = 1 := by rw [bs_size]; omega
    have ea := fun W => str_add5 (P := Tryz.prog) s (bs l) u hu W (by omega)
    have hus : u.size ≤ 200001 := by rw [hu, ByteArray.size_append]; omega
    clear hu hll
    go_wp2
    go_ret
    exact ⟨u, rfl, hus, b1.trans b2⟩
  have d0 : (x == 0) = false := by simpa using h0
  by_cases h1 : x = 1
  · subst h1
    go_wp2_with fail
    refine (below_any p a len cap ((s.size : Int) + 1) _ CR.out (by omega) (by omega)).mono ?_
    rintro e w2 ⟨y, rfl, hy0, hy1, _, g2⟩
    obtain ⟨m, rfl⟩ : ∃ m : Nat, y = (m : Int) := ⟨y.toNat, by omega⟩
    obtain ⟨u, hu⟩ : ∃ u, u = s.extract 0 m := ⟨_, rfl⟩
    have es := fun W => sl_hi5 (P := Tryz.prog) Tryz.underlying9 s u m (by omega) hu W
    have hus : u.size ≤ 200001 := by rw [hu, ByteArray.size_extract]; omega
    clear hu
    go_wp2
    go_ret
    exact ⟨u, rfl, hus, b1.trans (below_of_grown g2 (Nat.le_of_lt hp1))⟩
  have d1 : (x == 1) = false := by simpa using h1
  have key : ∀ (hsz : 0 < s.size) (w2 : World), Below p w w2 → Cur w2 p a len cap → True := fun _ _ _ _ => trivial
  clear key
  by_cases h23 : x = 2 ∨ x = 3
  · by_cases hsz : (0 : Int) < (s.size : Int)
    · rcases h23 with h2 | h2
      all_goals
        subst h2
        clear h0 h1
        go_wp2_with fail
        refine (below_any p a len cap (s.size : Int) _ CR.out (by omega) (by omega)).mono ?_
        rintro e w2 ⟨y, rfl, hy0, hy1, hc2, g2⟩
        obtain ⟨m, rfl⟩ : ∃ m : Nat, y = (m : Int) := ⟨y.toNat, by omega⟩
        have b2 := below_of_grown g2 (Nat.le_of_lt hp1)
        obtain ⟨u1, hu1⟩ : ∃ u, u = s.extract 0 m := ⟨_, rfl⟩
        obtain ⟨u2, hu2⟩ : ∃ u, u = s.extract (m + 1) s.size := ⟨_, rfl⟩
        have es1 := fun W => sl_hi5 (P := Tryz.prog) Tryz.underlying9 s u1 m (by omega) hu1 W
        have es2 : ∀ W, (Instr.slice 9 (.string s) (some (.int .i64 ((m : Int) + 1))) none none).run Tryz.prog W = .ok (.string u2) W := fun W => sl_lo5 (P := Tryz.prog) Tryz.underlying9 s u2 (m + 1) (by omega) hu2 W
        have hwr : IntKind.i64.wrap ((m : Int) + 1) = (m : Int) + 1 := wrap_fit _ (by omega) (by omega)
        have z1 : u1.size ≤ m := by rw [hu1, ByteArray.size_extract]; omega
        have z2 : u2.size + (m + 1) ≤ s.size := by rw [hu2, ByteArray.size_extract]; omega
        have C2 := hide (show Cur w2.drew p a len cap from hc2)
        clear hu1 hu2 hc2 g2 CR
        go_wp2
        go_region_held3 (fun _ => True) (first | trivial | go_keep) (first | (go_at_call 65; refine (text_any p a len cap 1 w2.drew C2.out (by omega) (by omega)).mono ?_; rintro e w3 ⟨l, rfl, hl, _, b3⟩; have hll : (bs l).size = 1 := (by rw [bs_size]; omega); have ea1 := fun W => str_add5 (P := Tryz.prog) u1 (bs l) (u1 ++ bs l) rfl W (by omega); have ea2 := fun W => str_add5 (P := Tryz.prog) (u1 ++ bs l) u2 (u1 ++ bs l ++ u2) rfl W (by rw [ByteArray.size_append]; omega)))
        go_wp2
        go_ret
        exact ⟨_, rfl, by rw [ByteArray.size_append, ByteArray.size_append]; omega, (b1.trans b2).trans ((Below.refl _ _).drew.trans b3)⟩
    · rcases h23 with h2 | h2
      all_goals
        subst h2
        clear h0 h1
        go_wp2
        go_ret
        exact ⟨s, rfl, by omega, b1⟩
  · have d2 : (x == 2) = false := by simp; omega
    have d3 : (x == 3) = false := by simp; omega
    clear h23 h0 h1
    go_wp2
    go_ret
    exact ⟨s, rfl, by omega, b1⟩

end Go.Proofs.YtchmmekhfcojgaaGreatDoor
namespace Go.Proofs.YtchmmekhfcojgaaGreatDoor
open Go.RowKit

set_option linter.unusedSimpArgs false

set_option maxRecDepth 100000 in
set_option maxHeartbeats 1000000 in
theorem drawRP_right (a : Option Addr) (len cap : Nat) (w : World) (hc : Code w a len w.heap.size) :
    Calls Tryz.prog 5 #[.slice a len cap] w fun e w' => ∃ x v1 v2 ps, e = .returned (.agg (pkC x v1 v2)) ∧ pkB x (fsts ps) = true ∧ PkSrc w' w'.heap.size v1 v2 x ps ∧ Below w.heap.size w w' := by
  have B0 := (Below.refl w.heap.size w).alloc (Nat.le_refl _) (.cells #[.int .i64 0, .int .i64 0, .int .i64 0, .int .i64 0, .slice none 0 0, .slice none 0 0] 27)
  have HN := hide (new_any a len cap (w.alloc (.cells #[.int .i64 0, .int .i64 0, .int .i64 0, .int .i64 0, .slice none 0 0, .slice none 0 0] 27)) (code_later hc B0))
  have Z0 := hide (heap_alloc_new w (.cells #[.int .i64 0, .int .i64 0, .int .i64 0, .int .i64 0, .slice none 0 0, .slice none 0 0] 27))
  clear hc
  go_enter Tryz.func5, Tryz.ntmps5
  go_wp2_with fail
  obtain ⟨W0, hW0⟩ : ∃ W0, W0 = w.alloc (.cells #[.int .i64 0, .int .i64 0, .int .i64 0, .int .i64 0, .slice none 0 0, .slice none 0 0] 27) := ⟨_, rfl⟩
  rw [← hW0] at HN Z0 B0 ⊢
  clear hW0
  refine HN.out.mono ?_
  rintro e w1 ⟨rfl, hc1, b1⟩
  have HC1 := hide hc1
  have hz0 := lt_of_heap Z0.out
  have Z1 := (b1.block _ hz0).trans Z0.out
  clear hc1 HN
  go_wp2_with fail
  refine (drawPk_any W0.heap.size a len cap _ HC1.out).mono ?_
  rintro e w2 ⟨x, v1, v2, ps, rfl, hok, _, src, _, g2⟩
  obtain ⟨⟨va, vc, rfl⟩, ⟨ua, uc, rfl⟩⟩ := src.in.shapes
  have hp1 := lt_of_cur HC1.out
  have b2 : Below w.heap.size w w2 := (B0.trans (b1.mono B0.size)).grown g2 (by have := B0.size; have := b1.size; omega) (fun k hk => by simp at hk; omega)
  have Z2 := (g2.block _ (lt_of_heap Z1) (by simp; omega)).trans Z1
  have r0 := cells_at Z2 0
  have r1 := cells_at Z2 1
  have r2 := cells_at Z2 2
  have r3 := cells_at Z2 3
  have r4 := cells_at Z2 4
  have r5 := cells_at Z2 5
  have fz := frozen_at Z2
  simp at r0 r1 r2 r3 r4 r5
  have F := hide (finP6 x (.slice va x.heard.length vc) (.slice ua ps.length uc) Z2)
  have P9 := hide (src.put (y := x) (u1 := .slice va x.heard.length vc) (u2 := .slice ua ps.length uc) Z2)
  have BB := hide (b2.grown (grownP6 w2 w.heap.size x (.slice va x.heard.length vc) (.slice ua ps.length uc)) b2.size (fun k hk => by simp at hk; omega))
  have HOK := hide hok
  clear hok src g2 Z2 Z1 Z0 HC1 b1 B0 b2
  unfold pkC
  go_wp2
  (try simp only [Exit.inBlock, Exit.then])
  refine bodyPost_ret (results_cell_row rfl _ _ w.heap.size 27 (pkC x (.slice va x.heard.length vc) (.slice ua ps.length uc)) (0, 0) _ rfl F.out Tryz.underlying27 rfl (by kernel_rfl)) rfl ?_
  exact ⟨_, _, _, ps, rfl, HOK.out, P9.out, BB.out⟩

theorem ptV_str (x : PkD) (xs : List RecD) : ∃ (s : ByteArray) (b : Bool), ptV x xs = .tuple #[.string s, .bool b] ∧ s.size ≤ 200000 := by
  unfold ptV
  by_cases h : pkB x xs = true
  · rw [if_pos h]
    have := pkL_len (pk_bounds h)
    refine ⟨_, _, rfl, ?_⟩
    rw [ByteArray.size_append, bs_size, bs_size, fourL_len]
    omega
  · rw [if_neg h]
    exact ⟨_, _, rfl, by rw [bs_size]; simp⟩

theorem unV_str (s : ByteArray) (h : s.size ≤ 200000) : ∃ (t : ByteArray) (b : Bool), unV s = .tuple #[.string t, .bool b] ∧ t.size ≤ 200000 := by
  unfold unV
  split
  · exact ⟨_, _, rfl, by rw [ByteArray.size_extract]; omega⟩
  · exact ⟨_, _, rfl, by rw [bs_size]; simp⟩

theorem seV_str (s : ByteArray) : ∃ (t : ByteArray) (b : Bool), seV s = .tuple #[.string t, .bool b] ∧ t.size ≤ 200000 := by
  unfold seV
  split
  · exact ⟨_, _, rfl, by rw [ByteArray.size_append, bs_size, fourL_len]; omega⟩
  · exact ⟨_, _, rfl, by rw [bs_size]; simp⟩

set_option maxRecDepth 100000 in
set_option maxHeartbeats 2000000 in
theorem drawReadP_any (a : Option Addr) (len cap : Nat) (w : World) (hc : Code w a len w.heap.size) :
    Calls Tryz.prog 12 #[.slice a len cap] w fun e w' => ∃ t : ByteArray, e = .returned (.string t) ∧ t.size ≤ 1048576 ∧ Below w.heap.size w w' := by
  have HN := hide (new_any a len cap w hc)
  clear hc
  go_enter Tryz.func12, Tryz.ntmps12
  go_wp2_with fail
  refine HN.out.mono ?_
  rintro e w1 ⟨rfl, hc1, b1⟩
  have hpl := lt_of_cur hc1
  have HC1 := hide hc1
  clear hc1 HN
  go_wp2_with fail
  refine (anyPk_any w.heap.size a len cap _ HC1.out).mono ?_
  rintro e w2 ⟨x, v1, v2, ps, rfl, htp, src, hc2, g2⟩
  have b2 : Below w.heap.size w w2 := b1.grown g2 (Nat.le_of_lt hpl) (fun k hk => by simp at hk; omega)
  have HT := sptext_any v1 v2 x ps w2.heap.size w2 htp src (Nat.le_refl _)
  obtain ⟨s, b, hsb, hss⟩ := ptV_str x (fsts ps)
  rw [hsb] at HT
  have HTT := hide HT
  have HC2 := hide hc2
  clear HT hsb hc2 g2 b1 HC1 src htp
  unfold pkC
  go_wp2_with fail
  refine HTT.out.mono ?_
  rintro e w3 ⟨rfl, b3⟩
  have hc3 : Cur w3 w.heap.size a len cap := HC2.out.grown (grown_of_below b3) (fun b _ => by simp)
  have B3 : Below w.heap.size w w3 := b2.trans (b3.mono b2.size)
  have HC3 := hide hc3
  clear hc3 b3 HC2 HTT
  go_wp2_with fail
  refine (below_any w.heap.size a len cap 6 _ HC3.out (by omega) (by omega)).mono ?_
  rintro e w4 ⟨y, rfl, hy0, hy1, hc4, g4⟩
  have b4 : Below w.heap.size w w4 := B3.grown g4 B3.size (fun k hk => by simp at hk; omega)
  have HC4 := hide hc4
  clear hc4 g4 HC3
  by_cases h0 : y = 0
  · subst h0
    have HSP := hide (spoilt_any w.heap.size a len cap s w4 HC4.out hss)
    go_wp2_with fail
    refine HSP.out.mono ?_
    rintro e w5 ⟨t, rfl, ht, b5⟩
    go_wp2
    go_ret
    exact ⟨t, rfl, by omega, b4.trans b5⟩
  have d0 : (y == 0) = false := by simpa using h0
  by_cases h1 : y = 1
  · subst h1
    have HU := hide (sun_any s w4 (by omega))
    obtain ⟨t, b9, htb, hts⟩ := unV_str s hss
    rw [htb] at HU
    clear htb h0
    go_wp2_with fail
    refine HU.out.mono ?_
    rintro e w5 ⟨rfl, b5⟩
    have hc5 : Cur w5 w.heap.size a len cap := HC4.out.grown (grown_of_below b5) (fun b _ => by simp)
    have B5 : Below w.heap.size w w5 := b4.trans (b5.mono b4.size)
    cases b9
    · go_wp2
      go_ret
      exact ⟨s, rfl, by omega, B5⟩
    · have HSP := hide (spoilt_any w.heap.size a len cap t w5 hc5 hts)
      clear hc5 b5 HC4
      go_wp2_with fail
      refine HSP.out.mono ?_
      rintro e w6 ⟨u, rfl, hu, b6⟩
      have B6 := B5.trans b6
      have HS := hide (sse_any u w6 (by omega))
      obtain ⟨t2, b10, htb2, hts2⟩ := seV_str u
      rw [htb2] at HS
      clear htb2 b6 HSP
      go_wp2_with fail
      refine HS.out.mono ?_
      rintro e w7 ⟨rfl, b7⟩
      go_wp2
      go_ret
      exact ⟨t2, rfl, by omega, B6.trans (b7.mono B6.size)⟩
  have d1 : (y == 1) = false := by simpa using h1
  clear h0 h1
  go_wp2
  go_ret
  exact ⟨s, rfl, by omega, b4⟩
end Go.Proofs.YtchmmekhfcojgaaGreatDoor
