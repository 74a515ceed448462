/-
  impl.hopsToNode, pickAt, Walk: their contracts.
  The cursor of a draw: spec.l01Byte, l01Below, l01Once: some number in its range comes back; nothing but the cursor's own block turns.
  spec.l01Below: some answer in its range.
  A cursor over the bytes of a draw: spec.l01New, l01Once, l01PickInt; laws.big.
  'append(out, x)' of a struct of four cells, out a row that the call itself made.
-/
import Derived.Test.YtbknmgobmnjphaaWk25
import Derived.Test.YtbknmgobmnjphaaWk29
import Derived.Test.YtbknmgobmnjphaaWk2
import Derived.Test.YtbknmgobmnjphaaWk16
import Derived.Test.YtbknmgobmnjphaaWk3
import Derived.Test.YtbknmgobmnjphaaWk1
import Derived.Deep.QuietTactic
import Derived.BigQuiet
import Derived.Test.YtbknmgobmnjphaaWk20
namespace Go.Proofs.Ytbknmgobmnjphaa
open Go.RowKit

set_option linter.unusedSimpArgs false

theorem hops_nil (W : World) (B : Nat) : HopsAt W (.slice none 0 0) [] B := ⟨none, 0, rfl, .inl rfl⟩

set_option maxRecDepth 100000 in
set_option maxHeartbeats 2000000 in
theorem hopsToNode_any (v : Value) (ls : List LLP) (at' z : Int) (w : World) (hv : LLAt w v ls w.heap.size) (hn : totLL ls ≤ 1048576) :
    Calls Try.prog 33 #[v, .int .i64 at', .int .i64 z] w fun e w' => ∃ u, e = .returned u ∧ HopsAt w u (hopsD (datLL ls) at' z) w.heap.size ∧ Below w.heap.size w w' := by
  have hnl := totLL_len ls
  obtain ⟨a, cap, rfl⟩ := hv.shape
  obtain ⟨R, hR⟩ : ∃ R, R = hopsD (datLL ls) at' z := ⟨_, rfl⟩
  rw [← hR]
  have HR := hide hR
  have HV := hide hv
  clear hR hv
  have HIN := hide (isIn_any at' 1 (ls.length : Int))
  by_cases hin : 1 ≤ at' ∧ at' ≤ (ls.length : Int)
  case neg =>
    have hib : inB at' 1 (ls.length : Int) = false := by
      unfold inB
      rw [Bool.and_eq_false_iff]
      by_cases h1 : 1 ≤ at'
      · exact .inr (decide_eq_false (fun h => hin ⟨h1, h⟩))
      · exact .inl (decide_eq_false h1)
    rw [hib] at HIN
    have he : R = [] := HR.out.trans (hopsD_off (by rw [datLL_len]; exact hin))
    subst he
    clear hin hib
    go_enter Try.func33, Try.ntmps33
    go_wp2_with fail
    refine (HIN.out _).mono ?_
    rintro e w1 ⟨rfl, rfl⟩
    go_wp2
    go_ret
    exact ⟨_, rfl, hops_nil _ _, Below.refl _ _⟩
  have hib : inB at' 1 (ls.length : Int) = true := by unfold inB; rw [decide_eq_true hin.1, decide_eq_true hin.2]; rfl
  rw [hib] at HIN
  obtain ⟨i, rfl⟩ : ∃ i : Nat, at' = (i : Int) + 1 := ⟨(at' - 1).toNat, by omega⟩
  have hil : i < ls.length := by omega
  obtain ⟨p, hp⟩ : ∃ p, ls[i]? = some p := ⟨ls[i], List.getElem?_eq_getElem hil⟩
  obtain ⟨b, off, cap', hve, hbb, c0, hnr⟩ := HV.out.cell i p hp
  cases hve
  obtain ⟨na, nc, hne⟩ := hnr.shape
  rw [hne] at c0 hnr
  have hpt : p.2.length ≤ 1048576 := by have := totLL_mem (List.mem_of_getElem? hp); have := totJ_len p.2; omega
  have HRL := hide (HR.out.trans (hopsD_on (by omega) (datLL_at hp)))
  have HNR := hide hnr
  have hki : (0 : Int) ≤ (i : Int) := by omega
  have hkj : (i : Int) < (ls.length : Int) := by omega
  clear hp hnr hne hib hin
  go_enter Try.func33, Try.ntmps33
  go_wp2_with fail
  refine (HIN.out _).mono ?_
  rintro e w1 ⟨rfl, rfl⟩
  go_wp2
  go_loopw [20] (fun j wr => ∃ k : Nat, k ≤ p.2.length ∧ j = .int .i64 k ∧ Hid (∀ y ∈ (fstsJ p.2).take k, isLn false z y = false) ∧ Below w.heap.size w wr) (fun j _ => p.2.length - (intOf j).toNat)
  case atStart => exact ⟨0, by omega, rfl, hide (by simp), Below.refl _ _⟩
  case round =>
    obtain ⟨k, hk, rfl, HNO, hnx⟩ := hrel
    by_cases hlt : k < p.2.length
    · obtain ⟨q, hq⟩ : ∃ q, p.2[k]? = some q := ⟨p.2[k], List.getElem?_eq_getElem hlt⟩
      obtain ⟨b2, off2, cp2, hve, hbb2, d0, d1, d2, hh⟩ := HNR.out.cells k q hq
      cases hve
      rw [← hnx.cell (p := ⟨b2, off2 + k * 3, none⟩) hbb2] at d0
      rw [← hnx.cell (p := ⟨b2, off2 + k * 3 + 1, none⟩) hbb2] at d1
      rw [← hnx.cell (p := ⟨b2, off2 + k * 3 + 2, none⟩) hbb2] at d2
      obtain ⟨ha, hc, hhe⟩ := hh.shape
      rw [hhe] at d2 hh
      have HH := hide hh
      have hki : (0 : Int) ≤ (k : Int) := by omega
      have hkj : (k : Int) < (p.2.length : Int) := by omega
      have hfk := fstsJ_at hq
      have HNX := hide (fun (e : isLn false z q.1 = false) => take_noJ hfk HNO.out e)
      have HHIT := hide (fun (e : isLn false z q.1 = true) => HRL.out.trans (hopsL_hit (idxZ_hit hfk e HNO.out) hfk))
      have HIS := hide (show isLn false z q.1 = (q.1.thing == false && q.1.to == z) from rfl)
      clear hq hfk hh hhe
      obtain ⟨p0, hp0⟩ : ∃ b, q.1.thing = b := ⟨_, rfl⟩
      obtain ⟨p1, hp1⟩ : ∃ b, q.1.to = b := ⟨_, rfl⟩
      rw [hp0] at d0
      rw [hp1] at d1
      have HIS2 := HIS.out
      rw [hp0, hp1] at HIS2
      cases p0
      · by_cases h1 : p1 = z
        · have hd : (p1 == z) = true := by simpa using h1
          have he := HHIT.out (by rw [HIS2, hd]; rfl)
          subst he
          clear HIS2 HIS hp0 hp1 h1
          go_wp2
          go_ret
          exact ⟨_, rfl, HH.out, hnx.alloc hnx.size _⟩
        · have hd : (p1 == z) = false := by simpa using h1
          have HN := hide (HNX.out (by rw [HIS2, hd]; rfl))
          clear HIS2 HIS hp0 hp1 h1
          go_wp2
          go_roundw
          case rel => exact ⟨k + 1, by omega, by go_num, HN, hnx.alloc hnx.size _⟩
          case measure => simp [intOf]; omega
      · have HN := hide (HNX.out (by rw [HIS2]; rfl))
        clear HIS2 HIS hp0 hp1
        go_wp2
        go_roundw
        case rel => exact ⟨k + 1, by omega, by go_num, HN, hnx.alloc hnx.size _⟩
        case measure => simp [intOf]; omega
    · have hkn : k = p.2.length := by omega
      have he : R = [] := HRL.out.trans (hopsL_none (idxZ_none (fun y hy => by
        have := HNO.out
        rw [hkn, List.take_of_length_le (by simp [fstsJ])] at this
        exact this y hy)))
      subst he
      clear hkn
      go_wp2
      go_ret
      exact ⟨_, rfl, hops_nil _ _, hnx⟩

set_option maxRecDepth 100000 in
set_option maxHeartbeats 2000000 in
theorem pickAt_any (v : Value) (ps : List Int) (i : Nat) (w : World) (hv : HopsAt w v ps w.heap.size) (hi : i ≤ 12) :
    Calls Try.prog 34 #[v, .int .i64 (i : Int)] w fun e w' => e = .returned (.int .i64 (pickD ps i)) ∧ w = w' := by
  obtain ⟨a, cap, rfl⟩ := hv.shape
  obtain ⟨R, hR⟩ : ∃ R, R = pickD ps i := ⟨_, rfl⟩
  rw [← hR]
  unfold pickD at hR
  by_cases hl : i < ps.length
  · rw [if_pos hl] at hR
    obtain ⟨q, hq⟩ : ∃ q, ps[i]? = some q := ⟨ps[i], List.getElem?_eq_getElem hl⟩
    obtain ⟨b, off, cp, hve, hbb, c0⟩ := hv.cell i q hq
    cases hve
    have e : ps.getD i 0 = q := by simp [List.getD, hq]
    rw [e] at hR
    have HR := hide hR
    have hki : (0 : Int) ≤ (i : Int) := by omega
    have hkj : (i : Int) < (ps.length : Int) := by omega
    clear hR hq e hv
    go_enter Try.func34, Try.ntmps34
    go_wp2
    all_goals
      go_ret
      exact ⟨ret_int (by have := HR.out; omega), rfl⟩
  · rw [if_neg hl] at hR
    subst hR
    clear hv
    have hkj : (ps.length : Int) ≤ (i : Int) := by omega
    go_enter Try.func34, Try.ntmps34
    go_wp2
    go_ret
    exact ⟨rfl, rfl⟩

theorem walk_row1 (W : World) (base : Nat) (z : Int) (hb : base ≤ W.heap.size) : (W.alloc (.cells #[.int .i64 z] 3)).ownsRow base 3 1 (.slice (some ⟨W.heap.size, 0, none⟩) 1 1) 1 (intsOf [z]) := by
  exact World.ownsRow_lit W #[.int .i64 z] 1 hb (by unfold maxLen; omega) (by simp)

/-- what both Walk answer -/
def WalkRes (D : List (List LnD)) (a z : Int) (ps : List Int) (w w' : World) (e : Ending) : Prop :=
  ∃ u, e = .returned (.tuple #[u, .bool (walkB D a z ps)]) ∧ IntsOwn w' w.heap.size w'.heap.size u (walkD D a z ps) ∧ Below w.heap.size w w'

theorem walkRes_yes {D : List (List LnD)} {a z : Int} {ps way : List Int} {w w' : World} {u : Value} (h : walkO D a z ps = some way) (ho : w'.ownsRow w.heap.size 3 1 u way.length (intsOf way)) (hb : Below w.heap.size w w') : WalkRes D a z ps w w' (.returned (.tuple #[u, .bool true])) := by
  refine ⟨u, ?_, ?_, hb⟩
  · unfold walkB; rw [h]; rfl
  · unfold walkD; rw [h]; exact IntsOwn.of (by rw [flat_int]; exact ho)

theorem walkRes_no {D : List (List LnD)} {a z : Int} {ps : List Int} {w w' : World} {g : Nat} (h : walkO D a z ps = none) (hg : g = w'.heap.size) (hb : Below w.heap.size w w') : WalkRes D a z ps w (w'.alloc (.cells #[] 3)) (.returned (.tuple #[.slice (some ⟨g, 0, none⟩) 0 0, .bool false])) := by
  refine ⟨.slice (some ⟨g, 0, none⟩) 0 0, ?_, ?_, hb.alloc hb.size _⟩
  · unfold walkB; rw [h]; rfl
  · unfold walkD; rw [h]; exact IntsOwn.of (own_litI _ _ _ hg hb.size)

set_option maxRecDepth 100000 in
set_option maxHeartbeats 4000000 in
theorem iwalk_any (v vp : Value) (ls : List LLP) (a0 z : Int) (ps : List Int) (w : World) (hv : LLAt w v ls w.heap.size) (hn : totLL ls ≤ 1048576) (hp : HopsAt w vp ps w.heap.size) :
    Calls Try.prog 12 #[v, .int .i64 a0, .int .i64 z, vp] w fun e w' => WalkRes (datLL ls) a0 z ps w w' e := by
  obtain ⟨a, cap, rfl⟩ := hv.shape
  obtain ⟨pa, pcap, rfl⟩ := hp.shape
  have HOP := hide (fun W x (hb : Below w.heap.size w W) => hopsToNode_any (.slice a ls.length cap) ls x z W (hv.then hb) hn)
  have HPK := hide (fun W i (hb : Below w.heap.size w W) (hi : i ≤ 12) => pickAt_any (.slice pa ps.length pcap) ps i W (hp.then hb) hi)
  have HST := hide (AtW.start (datLL ls) a0 z ps)
  obtain ⟨O, hO⟩ : ∃ O, O = walkO (datLL ls) a0 z ps := ⟨_, rfl⟩
  rw [← hO] at HST
  have HO := hide hO
  clear hv hp hO
  go_enter Try.func12, Try.ntmps12
  go_wp2
  have b1 := (Below.refl w.heap.size w).alloc (Nat.le_refl _) (.cells #[.int .i64 a0] 3)
  have o1 := walk_row1 w w.heap.size a0 (Nat.le_refl _)
  generalize w.alloc (.cells #[.int .i64 a0] 3) = W1 at *
  have B1 := hide b1
  have O1 := hide o1
  clear b1 o1
  go_loopw [10, 11] (fun n x wr => ∃ (i : Nat) (x' : Int) (way : List Int) (ra : Option Addr) (rc : Nat), x = .int .i64 x' ∧ n = .slice ra (i + 1) rc ∧ i ≤ 12 ∧ Hid (AtW (datLL ls) z ps O i x' way) ∧ Hid (wr.ownsRow w.heap.size 3 1 (.slice ra (i + 1) rc) way.length (intsOf way)) ∧ Below w.heap.size w wr) (fun n _ _ => 14 - lenV n)
  case atStart => exact ⟨0, a0, [a0], _, 1, rfl, rfl, by omega, HST, hide O1.out, B1.out⟩
  case round =>
    obtain ⟨i, x, way, ra, rc, rfl, rfl, hi12, HAT, HOW, hnx⟩ := hrel
    by_cases hxz : x = z
    · subst hxz
      have he := HO.out.symm.trans HAT.out.there
      go_wp2
      go_returns
      exact walkRes_yes he HOW.out hnx
    have hd : (x != z) = true := by simpa using hxz
    have HXZ := hide hxz
    clear hxz
    have hsz := hnx.size
    go_wp2_with fail
    refine (HOP.out _ x hnx).mono ?_
    rintro e w2 ⟨u2, rfl, hu2, b2⟩
    have bw2 : Below w.heap.size w w2 := hnx.trans (b2.mono hsz)
    have HOW2 := hide (owns_below HOW.out b2 (Nat.le_refl _))
    obtain ⟨H, hH⟩ : ∃ H, H = hopsD (datLL ls) x z := ⟨_, rfl⟩
    rw [← hH] at hu2
    have HH := hide hH
    obtain ⟨ha, hc, rfl⟩ := hu2.shape
    have hu3 := hu2.then b2
    have HU2 := hide hu3
    clear hu2 hu3 HOW hH
    by_cases h0 : H.length = 0
    · have hH0 : hopsD (datLL ls) x z = [] := by rw [← HH.out]; exact List.length_eq_zero_iff.1 h0
      have he := HO.out.symm.trans (HAT.out.off HXZ.out hH0)
      have hl0 : ((H.length : Int) == 0) = true := by rw [h0]; rfl
      clear hH0
      go_wp2
      go_returns
      exact walkRes_no he rfl bw2
    have hl0 : ((H.length : Int) == 0) = false := by simp; intro h; exact h0 (by rw [h]; rfl)
    by_cases h12 : i = 12
    · subst h12
      have he := HO.out.symm.trans (HAT.out.over HXZ.out)
      go_wp2
      go_returns
      exact walkRes_no he rfl bw2
    have hi1 : ((i : Int) == 12) = false := by simp; omega
    have hHne : H ≠ [] := fun h => h0 (by rw [h]; rfl)
    obtain ⟨j, hj, hjl, hjg⟩ := hopAt_get (p := pickD ps i) hHne
    have HSTEP := HAT.out.step HXZ.out (by rw [← HH.out]; exact hHne) h12
    rw [← HH.out] at HSTEP
    obtain ⟨y, hy⟩ : ∃ y, y = hopAt H (pickD ps i) := ⟨_, rfl⟩
    rw [← hy] at HSTEP hjg
    have HS := hide HSTEP
    have hp0 := pickD_pos ps i
    obtain ⟨pk, hpk⟩ : ∃ pk, pk = pickD ps i := ⟨_, rfl⟩
    have HPK2 := HPK.out w2 i bw2 hi12
    rw [← hpk] at HPK2 hj hp0
    have HPK3 := hide HPK2
    obtain ⟨b, off, cp, hve, hbb, c0⟩ := HU2.out.cell j y hjg
    cases hve
    have HWL := hide HAT.out.len
    have hw2s := bw2.size
    clear hy hpk HPK2 HSTEP hjg HAT hHne h0 h12
    go_wp2_with fail
    refine HPK3.out.mono ?_
    rintro e w3 ⟨rfl, rfl⟩
    go_wp2_with (first
      | (at_builtin; refine wpList_append_int _ rfl _ _ 39 rfl w.heap.size 3 Try.underlying39 Try.info3 (.slice ra (i + 1) rc) way y rfl (HOW2.out.alloc _) ⟨w2.heap.size, 0, none⟩ 1 rfl ?_ (by have := HWL.out; omega) (by simp; omega) ?_))
    · rw [add_zero', World.cell?_alloc_at _ _ _ _ rfl]; rfl
    intro v' w4 l' hl' hown' hgrow
    have hb4 : Below w.heap.size w w4 := (bw2.alloc hw2s _).grown hgrow (by simp; omega) (fun k hk => (HOW2.out.lt k hk).1)
    have hwl : l' = way ++ [y] := hl'.out
    subst hwl
    obtain ⟨va, vc, rfl⟩ := owns_len hown'
    have hlen : (way ++ [y]).length = i + 1 + 1 := by rw [List.length_append, HWL.out]; rfl
    rw [hlen] at hown' ⊢
    have OW4 := hide (show w4.ownsRow w.heap.size 3 1 (.slice va (i + 1 + 1) vc) (way ++ [y]).length (intsOf (way ++ [y])) by rw [hlen]; exact hown')
    clear hgrow hown' hl' hlen HOW2
    go_wp2
    go_roundw
    case rel => exact ⟨i + 1, y, way ++ [y], va, vc, rfl, rfl, by have := HS.out.i12; omega, HS, OW4, hb4⟩
    case measure => simp [lenV]; omega
end Go.Proofs.Ytbknmgobmnjphaa
namespace Go.Proofs.Ytbknmgobmnjphaa
open Go.RowKit

/-- the bytes of a draw: len of them, in a block below p -/
def Code (w : World) (a : Option Addr) (len p : Nat) : Prop :=
  len ≤ 1048576 ∧ (len = 0 ∨ ∃ b off, a = some ⟨b, off, none⟩ ∧ b < p ∧ ∀ i, i < len → ∃ x : Nat, x < 256 ∧ w.cell? ⟨b, off + i, none⟩ = some (.int .u8 (x : Int)))

/-- the cursor lies in block p -/
def Cur (w : World) (p : Nat) (a : Option Addr) (len cap : Nat) : Prop :=
  (∃ (i : Nat) (h : Int), i ≤ len ∧ w.heap[p]? = some (.cells #[.slice a len cap, .int .i64 (i : Int), .int .i64 h] 88 (0, 0))) ∧ Code w a len p

theorem and255 (n : Int) : 0 ≤ bits .and .i64 n 255 ∧ bits .and .i64 n 255 ≤ 255 := by
  have key : (BitVec.ofInt 64 n &&& BitVec.ofInt 64 255).toNat ≤ 255 := by
    rw [BitVec.toNat_and]
    exact Nat.le_trans Nat.and_le_right (by decide)
  have e : bits .and .i64 n 255 = IntKind.i64.wrap ((BitVec.ofInt 64 n &&& BitVec.ofInt 64 255).toNat : Nat) := rfl
  rw [e, IntKind.wrap_i64]
  omega

theorem Code.grown {w w' : World} {a : Option Addr} {len p : Nat} {row : Option Nat} (h : Code w a len p) (hg : w.grownBy w' row) (hr : ∀ b, b < p → some b ≠ row) : Code w' a len p := by
  refine ⟨h.1, ?_⟩
  rcases h.2 with h0 | ⟨b, off, ha, hb, hx⟩
  · exact .inl h0
  · refine .inr ⟨b, off, ha, hb, fun i hi => ?_⟩
    obtain ⟨x, h1, h2⟩ := hx i hi
    exact ⟨x, h1, hg.cell h2 (hr b hb)⟩

theorem Cur.grown {w w' : World} {p : Nat} {a : Option Addr} {len cap : Nat} {row : Option Nat} (h : Cur w p a len cap) (hg : w.grownBy w' row) (hr : ∀ b, b ≤ p → some b ≠ row) : Cur w' p a len cap := by
  obtain ⟨⟨i, hh, hi, e⟩, hc⟩ := h
  refine ⟨⟨i, hh, hi, ?_⟩, hc.grown hg (fun b hb => hr b (by omega))⟩
  have hlt : p < w.heap.size := by
    rcases Nat.lt_or_ge p w.heap.size with hl | hl
    · exact hl
    · rw [Array.getElem?_eq_none hl] at e; cases e
  rw [hg.block p hlt (hr p (Nat.le_refl _))]
  exact e

theorem Cur.end {w W2 : World} {p : Nat} {a : Option Addr} {len cap : Nat} (hc : Code w a len p) (hg : w.grownBy W2 (some p)) (i : Nat) (h : Int) (hi : i ≤ len)
    (hh : W2.heap[p]? = some (.cells #[.slice a len cap, .int .i64 (i : Int), .int .i64 h] 88 (0, 0))) : Cur W2 p a len cap ∧ w.grownBy W2 (some p) :=
  ⟨⟨⟨i, h, hi, hh⟩, hc.grown hg (fun b hb => by simp; omega)⟩, hg⟩

set_option maxRecDepth 100000 in
set_option maxHeartbeats 1000000 in
theorem byte_any (p : Nat) (a : Option Addr) (len cap : Nat) (w : World) (hc : Cur w p a len cap) :
    Calls Try.prog 31 #[.pointer (some ⟨p, 0, none⟩)] w fun e w' => ∃ x : Int, e = .returned (.int .i64 x) ∧ 0 ≤ x ∧ x ≤ 255 ∧ Cur w' p a len cap ∧ w.grownBy w' (some p) := by
  obtain ⟨⟨i, h, hi, hh⟩, hlen, hcode⟩ := hc
  have c0 := cells_at hh 0
  have c1 := cells_at hh 1
  have c2 := cells_at hh 2
  have f1 := frozen_at hh 1
  have f2 := frozen_at hh 2
  simp at c0 c1 c2
  have HH := hide hh
  have HC := hide hcode
  clear hh hcode
  go_enter Try.func31, Try.ntmps31
  go_wp2
  generalize wrap64 (wrap64 (h * 6364136223846793005) + 1442695040888963407) = h2
  have hh2 : (w.setCell ⟨p, 2, none⟩ (.int .i64 h2)).heap[p]? = some (.cells #[.slice a len cap, .int .i64 (i : Int), .int .i64 h2] 88 (0, 0)) := by
    rw [heap_setCell_same w p 2 _ _ _ HH.out]; rfl
  have hg1 : w.grownBy (w.setCell ⟨p, 2, none⟩ (.int .i64 h2)) (some p) := ⟨rfl, rfl, rfl, by simp, fun k _ hk => heap_setCell_other w ⟨p, 2, none⟩ k _ (fun e => hk (by simp [e]))⟩
  generalize w.setCell ⟨p, 2, none⟩ (.int .i64 h2) = W1 at hh2 hg1 ⊢
  have d0 := cells_at hh2 0
  have d1 := cells_at hh2 1
  have d2 := cells_at hh2 2
  have e1 := frozen_at hh2 1
  simp at d0 d1 d2
  have HH2 := hide hh2
  clear hh2 c0 c1 c2 f1 f2
  have hbx := and255 (bits .xor .i64 (h2 / 8589934592) (h2 / 35184372088832))
  by_cases hil : i < len
  · have hil2 : (i : Int) < (len : Int) := by omega
    have hcell : ∃ b off, a = some ⟨b, off, none⟩ ∧ b ≠ p ∧ ∃ x : Nat, x < 256 ∧ W1.cell? ⟨b, off + i, none⟩ = some (.int .u8 (x : Int)) := by
      rcases HC.out with h0 | ⟨b, off, ha, hb, hx⟩
      · omega
      · obtain ⟨x, hx1, hx2⟩ := hx i hil
        exact ⟨b, off, ha, by omega, x, hx1, hg1.cell hx2 (by simp; omega)⟩
    obtain ⟨b, off, ha, hbp, x, hx, d3⟩ := hcell
    subst ha
    go_quiet (fail)
    go_wp2
    generalize bits .and .i64 (bits .xor .i64 (h2 / 8589934592) (h2 / 35184372088832)) 255 = x0 at hbx ⊢
    obtain ⟨hb0, hb1⟩ := hbx
    go_quiet (fail)
    go_wp2
    go_quiet (fail)
    go_wp2
    go_ret
    have hbz := and255 (x0 + (x : Int))
    exact ⟨_, rfl, hbz.1, hbz.2, Cur.end ⟨hlen, HC.out⟩ (grown_trans hg1 (grown_trans (grown_drewN W1 _ _) (grown_set _ p 1 _))) (i + 1) h2 (by omega) (heap_setCell_same (W1.drewN _) p 1 _ _ _ HH2.out)⟩
  · have hil2 : ¬ (i : Int) < (len : Int) := by omega
    go_quiet (fail)
    go_wp2
    generalize bits .and .i64 (bits .xor .i64 (h2 / 8589934592) (h2 / 35184372088832)) 255 = x0 at hbx ⊢
    obtain ⟨hb0, hb1⟩ := hbx
    go_quiet (fail)
    go_wp2
    go_ret
    exact ⟨_, rfl, hb0, hb1, Cur.end ⟨hlen, HC.out⟩ (grown_trans hg1 (grown_trans (grown_drewN W1 _ _) (grown_drewN _ _ _))) i h2 hi HH2.out⟩
end Go.Proofs.Ytbknmgobmnjphaa
namespace Go.Proofs.Ytbknmgobmnjphaa
open Go.RowKit

set_option maxRecDepth 100000 in
set_option maxHeartbeats 1000000 in
theorem below_any (p : Nat) (a : Option Addr) (len cap : Nat) (n : Int) (w : World) (hc : Cur w p a len cap) (hn : 0 < n) (hn2 : n ≤ 1000000000000) :
    Calls Try.prog 32 #[.pointer (some ⟨p, 0, none⟩), .int .i64 n] w fun e w' => ∃ x : Int, e = .returned (.int .i64 x) ∧ 0 ≤ x ∧ x < n ∧ Cur w' p a len cap ∧ w.grownBy w' (some p) := by
  by_cases h256 : n ≤ 256
  · go_enter Try.func32, Try.ntmps32
    go_wp2_with fail
    refine (byte_any p a len cap _ hc).mono ?_
    rintro e w1 ⟨x, rfl, h0, h1, hc1, hg1⟩
    have hr0 := Int.emod_nonneg x (show n ≠ 0 by omega)
    have hr1 := Int.emod_lt_of_pos x hn
    have htm : x.tmod n = x % n := Int.tmod_eq_emod_of_nonneg h0
    have HG := hide hg1
    have HC := hide hc1
    clear hc1 hg1 hc
    go_wp2
    go_ret
    exact ⟨_, rfl, hr0, hr1, HC.out, HG.out⟩
  · go_enter Try.func32, Try.ntmps32
    go_wp2_with fail
    refine (byte_any p a len cap _ hc).mono ?_
    rintro e w1 ⟨x, rfl, hx0, hx1, hc1, hg1⟩
    have HG1 := hide hg1
    clear hc hg1
    go_wp2_with fail
    refine (byte_any p a len cap _ hc1).mono ?_
    rintro e w2 ⟨y, rfl, hy0, hy1, hc2, hg2⟩
    have HG2 := hide hg2
    clear hc1 hg2
    go_wp2_with fail
    refine (byte_any p a len cap _ hc2).mono ?_
    rintro e w3 ⟨z, rfl, hz0, hz1, hc3, hg3⟩
    have HG3 := hide hg3
    clear hc2 hg3
    go_wp2_with fail
    refine (byte_any p a len cap _ hc3).mono ?_
    rintro e w4 ⟨u, rfl, hu0, hu1, hc4, hg4⟩
    have HG4 := hide hg4
    have HC4 := hide hc4
    clear hc3 hg4 hc4
    have hr0 := Int.emod_nonneg (x * 16777216 + y * 65536 + z * 256 + u) (show n ≠ 0 by omega)
    have hr1 := Int.emod_lt_of_pos (x * 16777216 + y * 65536 + z * 256 + u) hn
    have htm : (x * 16777216 + y * 65536 + z * 256 + u).tmod n = (x * 16777216 + y * 65536 + z * 256 + u) % n := Int.tmod_eq_emod_of_nonneg (by omega)
    go_wp2
    go_ret
    exact ⟨_, rfl, hr0, hr1, HC4.out, grown_trans HG1.out (grown_trans HG2.out (grown_trans HG3.out HG4.out))⟩

theorem lt_of_cur {w : World} {p : Nat} {a : Option Addr} {len cap : Nat} (h : Cur w p a len cap) : p < w.heap.size := by
  obtain ⟨⟨i, hh, hi, e⟩, _⟩ := h
  rcases Nat.lt_or_ge p w.heap.size with hl | hl
  · exact hl
  · rw [Array.getElem?_eq_none hl] at e; cases e

end Go.Proofs.Ytbknmgobmnjphaa
namespace Go.Proofs.Ytbknmgobmnjphaa
open Go.RowKit

set_option maxRecDepth 100000 in
set_option maxHeartbeats 1000000 in
theorem new_any (a : Option Addr) (len cap : Nat) (w : World) (hc : Code w a len w.heap.size) :
    Calls Try.prog 14 #[.slice a len cap] w fun e w' => e = .returned (.pointer (some ⟨w.heap.size, 0, none⟩)) ∧ Cur w' w.heap.size a len cap ∧ Below w.heap.size w w' := by
  have hlen := hc.1
  have HC := hide hc
  clear hc
  have fin : ∀ h : Int, Cur (w.alloc (.cells #[.slice a len cap, .int .i64 0, .int .i64 h] 88)) w.heap.size a len cap := fun h =>
    ⟨⟨0, h, by omega, heap_alloc_new w _⟩, HC.out.grown (row := none) ⟨rfl, rfl, rfl, by simp, fun k hk _ => Below.heap_alloc _ _ _ hk⟩ (fun b _ => by simp)⟩
  have FIN := hide fin
  clear fin
  by_cases h0 : len = 0
  · subst h0
    go_enter Try.func14, Try.ntmps14
    go_wp2
    refine wp_loop_rounds 1 ?_
    rw [rounds_succ]
    go_wp2
    go_ret
    exact ⟨rfl, FIN.out _, (Below.refl _ _).alloc (Nat.le_refl _) _⟩
  · obtain ⟨b, off, ha, hb, hx⟩ : ∃ b off, a = some ⟨b, off, none⟩ ∧ b < w.heap.size ∧ ∀ i, i < len → ∃ x : Nat, x < 256 ∧ w.cell? ⟨b, off + i, none⟩ = some (.int .u8 (x : Int)) := by
      rcases HC.out.2 with h | h
      · exact absurd h h0
      · exact h
    subst ha
    have HX := hide hx
    clear hx
    go_enter Try.func14, Try.ntmps14
    go_wp2
    go_loop [3, 4] (fun h i => ∃ (k : Nat) (z : Int), k ≤ len ∧ i = .int .i64 k ∧ h = .int .i64 z) (fun _ i => len - (intOf i).toNat)
    case atStart => exact ⟨0, _, by omega, rfl, rfl⟩
    case round =>
      obtain ⟨k, z, hk, rfl, rfl⟩ := hrel
      by_cases hlt : k < len
      · obtain ⟨x, hx1, hx2⟩ := HX.out k hlt
        have hki : (k : Int) < (len : Int) := by omega
        by_cases h4 : (k : Int) < 4000
        · go_wp2
          go_round
          case rel => exact ⟨k + 1, _, by omega, by go_num, rfl⟩
          case measure => simp [intOf]; omega
        · go_wp2
          go_ret
          exact ⟨rfl, FIN.out _, (Below.refl _ _).alloc (Nat.le_refl _) _⟩
      · go_wp2
        go_ret
        exact ⟨rfl, FIN.out _, (Below.refl _ _).alloc (Nat.le_refl _) _⟩

theorem cur_alloc {w : World} {p : Nat} {a : Option Addr} {len cap : Nat} (h : Cur w p a len cap) (o : Obj) : Cur (w.alloc o) p a len cap :=
  h.grown (row := none) ⟨rfl, rfl, rfl, by simp, fun k hk _ => Below.heap_alloc _ _ _ hk⟩ (fun b _ => by simp)

theorem below_of_grown {p : Nat} {w w' : World} (h : w.grownBy w' (some p)) (hp : p ≤ w.heap.size) : Below p w w' := (Below.refl p w).grown h hp (fun k hk => by simp at hk; omega)

set_option maxHeartbeats 400000 in
theorem big_any (a : Option Addr) (len cap : Nat) (w : World) : Calls Try.prog 4 #[.slice a len cap] w fun e w' => e = .returned (.bool (decide ((1048576 : Int) < (len : Int)))) ∧ w = w' := by
  go_enter Try.func4, Try.ntmps4
  go_wp2
  go_ret
  exact ⟨rfl, rfl⟩

theorem code_later {w w' : World} {a : Option Addr} {len : Nat} (h : Code w a len w.heap.size) (hb : Below w.heap.size w w') : Code w' a len w'.heap.size := by
  refine ⟨h.1, ?_⟩
  rcases h.2 with h0 | ⟨b, off, ha, hb1, hx⟩
  · exact .inl h0
  · refine .inr ⟨b, off, ha, by have := hb.size; omega, fun i hi => ?_⟩
    obtain ⟨x, h1, h2⟩ := hx i hi
    exact ⟨x, h1, by rw [hb.cell (p := ⟨b, off + i, none⟩) hb1]; exact h2⟩

set_option maxRecDepth 100000 in
set_option maxHeartbeats 1000000 in
theorem once_any (p : Nat) (a : Option Addr) (len cap : Nat) (n : Int) (w : World) (hc : Cur w p a len cap) (hn : 0 < n) (hn2 : n ≤ 1000000000000) :
    Calls Try.prog 16 #[.pointer (some ⟨p, 0, none⟩), .int .i64 n] w fun e w' => ∃ x : Bool, e = .returned (.bool x) ∧ Cur w' p a len cap ∧ w.grownBy w' (some p) := by
  go_enter Try.func16, Try.ntmps16
  go_wp2_with fail
  refine (below_any p a len cap n _ hc hn hn2).mono ?_
  rintro e w1 ⟨x, rfl, h0, h1, hc1, hg1⟩
  have HG := hide hg1
  have HC := hide hc1
  clear hc1 hg1 hc
  go_wp2
  go_ret
  exact ⟨_, rfl, HC.out, HG.out⟩

set_option maxRecDepth 100000 in
set_option maxHeartbeats 1000000 in
theorem pickR_any (R : Int → Prop) (p : Nat) (a : Option Addr) (len cap : Nat) (g n : Nat) (w : World) (hc : Cur w p a len cap) (hn : 0 < n) (hn2 : n ≤ 1000) (hg : g ≠ p) (hz : ∀ k, k < n → ∃ z : Int, R z ∧ w.cell? ⟨g, k, none⟩ = some (.int .i64 z)) :
    Calls Try.prog 35 #[.pointer (some ⟨p, 0, none⟩), .slice (some ⟨g, 0, none⟩) n n] w fun e w' => ∃ x : Int, e = .returned (.int .i64 x) ∧ R x ∧ Cur w' p a len cap ∧ w.grownBy w' (some p) := by
  have HZ := hide hz
  have HC := hide hc
  clear hz hc
  go_enter Try.func35, Try.ntmps35
  go_wp2_with fail
  refine (below_any p a len cap _ _ HC.out (by omega) (by omega)).mono ?_
  rintro e w1 ⟨x, rfl, h0, h1, hc1, hg1⟩
  obtain ⟨z, hR, hz⟩ := HZ.out x.toNat (by omega)
  have hz1 := hg1.cell hz (by simp; exact hg)
  have hxn : x < (n : Int) := h1
  have HR := hide hR
  have HG := hide hg1
  have HC1 := hide hc1
  clear hg1 hc1 hz hR
  go_wp2
  go_ret
  exact ⟨_, rfl, HR.out, HC1.out, HG.out⟩

end Go.Proofs.Ytbknmgobmnjphaa
namespace Go.Proofs.Ytbknmgobmnjphaa
open Go.RowKit

end Go.Proofs.Ytbknmgobmnjphaa
