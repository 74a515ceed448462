/-
  The law FnHeaders answers true at every argument, and each argument reads afterwards as it read before; no condition. (Here: from the walk to the given statement.)
  spec.Headers, impl.Headers: their contracts.
  laws.FnHeaders: its walk.
-/
import Derived.Test.YtnfockhbcneegaaPk5
import Derived.Test.YtnfockhbcneegaaPk14
import Derived.Test.YtnfockhbcneegaaPk8
import Derived.Test.YtnfockhbcneegaaPk7
import Derived.ProofKit
import Derived.OpenShut
import Derived.ShutString
import Derived.ChangeOld
namespace Go.Proofs.Ytnfockhbcneegaa
open Go.RowKit

set_option linter.unusedSimpArgs false

theorem head_step {L : List RecD} {qs : List RP} {k : Nat} {p : RP} {v' : Value} (h : fsts qs = (L.take k).map headD ++ L.drop k) (hp : qs[k]? = some p) : fsts (qs.set k (headD p.1, v')) = (L.take (k + 1)).map headD ++ L.drop (k + 1) := by
  have h1 : (fsts qs)[k]? = some p.1 := fsts_at hp
  have hkq : k < qs.length := (List.getElem?_eq_some_iff.1 hp).1
  have hkl : k < L.length := by
    have e := congrArg List.length h
    simp [fsts] at e
    omega
  have hmin : min k L.length = k := by omega
  rw [h, List.getElem?_append_right (by simp; omega)] at h1
  simp [hmin] at h1
  have h2 : p.1 = L[k] := by rw [List.getElem?_eq_getElem hkl] at h1; exact (Option.some.inj h1).symm
  rw [fsts_set, h, List.set_append_right _ _ (by simp; omega)]
  simp only [List.length_map, List.length_take, hmin, Nat.sub_self]
  rw [List.drop_eq_getElem_cons hkl, List.set_cons_zero, List.take_succ_eq_append_getElem hkl, List.map_append, h2]
  simp

theorem none_near (W : World) (lo hi : Nat) (x : RecD) (h : x.near = []) : NearOwn W lo hi (x, .slice none 0 0) := by
  refine ⟨?_, fun k hk => by simp [Value.ownBlock] at hk⟩
  simp only [h]
  exact World.ownsRow_nil _ _ _ _

set_option maxRecDepth 100000 in
set_option maxHeartbeats 2000000 in
theorem iheaders_any (v : Value) (ps : List RP) (hi : Nat) (a : Int) (w : World) (hv : RecsIn w hi v ps) (hhi : hi ≤ w.heap.size) (hn : tot ps ≤ 1048576) :
    Calls Try.prog 8 #[v, .int .i64 a] w fun e w' => ∃ x qs, e = .returned x ∧ fsts qs = ((fsts ps).filter (inScope a)).map headD ∧ RecsOwn w' w.heap.size w'.heap.size x qs ∧ Below w.heap.size w w' := by
  have HSC := hide (iscopeI_any v ps hi a w hv hhi hn)
  have hnl := tot_len ps
  obtain ⟨a1, c1, rfl⟩ := owns_lenS hv.row
  clear hv
  obtain ⟨L, hL⟩ : ∃ L, L = (fsts ps).filter (inScope a) := ⟨_, rfl⟩
  rw [← hL] at HSC ⊢
  go_enter Try.func8, Try.ntmps8
  go_wp2_with fail
  refine HSC.out.mono ?_
  rintro e w1 ⟨x, q0, rfl, f0, o0, b0⟩
  obtain ⟨xa, xc, rfl⟩ := owns_lenS o0.row
  have hLl : L.length ≤ ps.length := by
    rw [hL]
    have := List.length_filter_le (inScope a) (fsts ps)
    simpa [fsts] using this
  have hq0 : q0.length = L.length := by rw [← f0]; simp [fsts]
  rw [hq0] at o0 ⊢
  obtain ⟨n, hnn⟩ : ∃ n, n = L.length := ⟨_, rfl⟩
  rw [← hnn] at o0 hLl ⊢
  have O0 := hide o0
  have F0 := hide f0
  have HN := hide hnn
  have HQ0 := hide hq0
  clear o0 f0 hL hnn hq0 HSC
  go_wp2
  go_loopw [13] (fun i wr => ∃ (k : Nat) (qs : List RP), k ≤ n ∧ i = .int .i64 k ∧ Hid (qs.length = n) ∧ fsts qs = (L.take k).map headD ++ L.drop k ∧ RecsOwn wr w.heap.size wr.heap.size (.slice xa n xc) qs ∧ Below w.heap.size w wr) (fun i _ => n - (intOf i).toNat)
  case atStart => exact ⟨0, q0, by omega, rfl, hide (HQ0.out.trans HN.out.symm), by simpa using F0.out, O0.out, b0⟩
  case round =>
    obtain ⟨k, qs, hk, rfl, hql, hf, hown, hnx⟩ := hrel
    have hsz := hnx.size
    clear O0 F0 HQ0
    by_cases hlt : k < n
    · obtain ⟨p, hp⟩ : ∃ p, qs[k]? = some p := ⟨qs[k]'(by rw [hql.out]; exact hlt), List.getElem?_eq_getElem _⟩
      rcases hown.row.2 with ⟨_, h0⟩ | ⟨g, cap, cur, hve, hrr⟩
      · have := hql.out; omega
      simp only [Value.slice.injEq] at hve
      obtain ⟨rfl, hnq, rfl⟩ := hve
      clear hnq hrr
      obtain ⟨b, off, cap', hve, hbb, c0, c1, c2, c3, c4, c5, c6, c7, _⟩ := hown.at.cells k p hp
      simp only [Value.slice.injEq, Option.some.injEq, Addr.mk.injEq] at hve
      obtain ⟨⟨rfl, rfl, hnq0⟩, hnq, rfl⟩ := hve
      clear hnq hnq0
      obtain ⟨pa, pc, hpn⟩ := owns_lenS (hown.nears p (List.mem_of_getElem? hp)).1
      rw [hpn] at c5
      simp only [Nat.zero_add] at c0 c1 c2 c3 c4 c5 c6 c7
      have HI := ihead_any p.1 pa p.1.near.length pc
      obtain ⟨y, hy⟩ : ∃ y, y = headD p.1 := ⟨_, rfl⟩
      rw [← hy] at HI
      have hyn : y.near = [] := by rw [hy]; rfl
      unfold recC at HI
      have HIH := hide HI
      have HST := hide (head_step (v' := .slice none 0 0) hf hp)
      rw [← hy] at HST
      have HYN := hide hyn
      have OW := hide hown
      clear hf hp hown hpn HI hy hyn
      have hki : (0 : Int) ≤ (k : Int) := by omega
      have hkj : (k : Int) < (n : Int) := by omega
      go_wp2_with fail
      refine (HIH.out _).mono ?_
      rintro e w2 ⟨rfl, b2⟩
      have b2' : Below wr.heap.size wr w2 := ((Below.refl _ _).alloc (Nat.le_refl _) _).trans (b2.mono (by simp))
      have o2 := (OW.out.below b2' (Nat.le_refl _)).wide (Nat.le_refl _) b2'.size
      have hg2 := o2.row.lt g rfl
      have o2r := o2.row
      rw [hql.out] at o2r
      obtain ⟨y0, f0⟩ := own_cell o2r (k * 8) (by omega)
      obtain ⟨y1, f1⟩ := own_cell o2r (k * 8 + 1) (by omega)
      obtain ⟨y2, f2⟩ := own_cell o2r (k * 8 + 2) (by omega)
      obtain ⟨y3, f3⟩ := own_cell o2r (k * 8 + 3) (by omega)
      obtain ⟨y4, f4⟩ := own_cell o2r (k * 8 + 4) (by omega)
      obtain ⟨y5, f5⟩ := own_cell o2r (k * 8 + 5) (by omega)
      obtain ⟨y6, f6⟩ := own_cell o2r (k * 8 + 6) (by omega)
      obtain ⟨y7, f7⟩ := own_cell o2r (k * 8 + 7) (by omega)
      have fz := fun j => o2r.frozenAt j
      have hfin := RecsOwn.put (i := k) (r := (y, .slice none 0 0)) o2 hql.out.symm (none_near _ _ _ _ HYN.out) (fun q _ j _ he => by simp [Value.ownBlock] at he) (by have := hql.out; omega)
      have hB : Below w.heap.size w (putP w2 g (k * 8) (y, .slice none 0 0)) := (hnx.trans (b2'.mono hsz)).grown (putP_grown w2 g (k * 8) _) (by omega) (fun j hj => by simp at hj; omega)
      have HF := hide hfin
      have HB := hide hB
      clear hfin hB b2 b2' o2 o2r c0 c1 c2 c3 c4 c5 c6 c7 OW
      go_wp2
      go_roundw
      case rel => exact ⟨k + 1, _, by omega, by go_num, hide (by rw [List.length_set]; exact hql.out), HST.out, HF.out, HB.out⟩
      case measure => simp [intOf]; omega
    · have hkn : k = n := by omega
      have KN := hide hkn
      have OW := hide hown
      have HM := hide hf
      clear hkn hown hf
      go_wp2
      go_ret
      have h1 := HM.out
      rw [KN.out, HN.out, List.take_length, List.drop_length, List.append_nil] at h1
      first
        | exact ⟨_, qs, rfl, h1, OW.out, hnx⟩
        | exact ⟨_, rfl, qs, h1, OW.out, hnx⟩
end Go.Proofs.Ytnfockhbcneegaa
namespace Go.Proofs.Ytnfockhbcneegaa
open Go.RowKit

set_option linter.unusedSimpArgs false

theorem newer_head (ts : List RecD) (x : RecD) : newerB ts (headD x) = newerB ts x := rfl

theorem asc_heads {S : List RecD} (h : Asc S) : Asc (S.map headD) := by
  unfold Asc at *
  rw [List.pairwise_map]
  exact h

theorem recOk_head {x : RecD} (h : recOkB x = true) : recOkB (headD x) = true := by
  by_cases k3 : x.kind = 3
  · rw [headD_three k3]
    unfold recOkB at h ⊢
    simp only [] at h ⊢
    rw [if_neg (by omega), if_neg (by omega), if_pos k3] at h ⊢
    simp only [Bool.and_eq_true] at h ⊢
    exact ⟨h.1, ⟨h.2.1.1, rfl⟩, rfl⟩
  · rw [headD_else k3]
    unfold recOkB at h ⊢
    simp only [] at h ⊢
    by_cases k1 : x.kind = 1
    · rw [if_pos k1] at h ⊢
      simp only [Bool.and_eq_true] at h ⊢
      exact ⟨h.1, ⟨⟨h.2.1.1.1, rfl⟩, rfl⟩, rfl⟩
    · rw [if_neg k1] at h ⊢
      by_cases k2 : x.kind = 2
      · rw [if_pos k2] at h ⊢
        simp only [Bool.and_eq_true] at h ⊢
        exact ⟨h.1, ⟨⟨h.2.1.1.1, rfl⟩, rfl⟩, rfl⟩
      · rw [if_neg k2, if_neg k3] at h
        simp at h

theorem headsB_map (S : List RecD) : headsB (S.map headD) = true := by
  unfold headsB allOk
  refine all_true fun j hj => ?_
  unfold okAt
  rw [List.getElem?_map]
  cases S[j]? with
  | none => rfl
  | some y =>
    simp only [Option.map_some]
    rw [show headD (headD y) = headD y from rfl]
    generalize headD y = z
    unfold sameBodyB sameKeyB
    simp

theorem scope_map (a : Int) (L : List RecD) : allOk (inScope a) ((L.filter (inScope a)).map headD) = true := by
  unfold allOk
  refine all_true fun j hj => ?_
  unfold okAt
  rw [List.getElem?_map]
  cases e : (L.filter (inScope a))[j]? with
  | none => rfl
  | some y =>
    simp only [Option.map_some]
    exact (List.mem_filter.1 (List.mem_of_getElem? e)).2

theorem store_scope {L : List RecD} (h : storeB L = true) (a : Int) : storeB ((L.filter (inScope a)).map headD) = true := by
  have h3 := store_ok h
  refine (made_self (asc_heads (asc_filter h3.2.2 (inScope a)))).store ?_ ?_
  · intro x hx
    obtain ⟨y, hy, rfl⟩ := List.mem_map.1 hx
    exact recOk_head (h3.2.1 y (List.mem_filter.1 hy).1)
  · have := List.length_filter_le (inScope a) L
    simp only [List.length_map]
    omega

theorem newer_none_hs {L : List RecD} (h : storeB L = true) (a : Int) : (((L.filter (inScope a)).map headD).filter (newerB (L.filter (inScope a)))) = [] := by
  have h3 := store_ok h
  rw [List.filter_eq_nil_iff]
  intro x hx
  obtain ⟨y, hy, rfl⟩ := List.mem_map.1 hx
  rw [newer_head, newer_false (made_self (asc_filter h3.2.2 (inScope a))) hy]
  simp

theorem newer_none_sh {L : List RecD} (h : storeB L = true) (a : Int) : ((L.filter (inScope a)).filter (newerB ((L.filter (inScope a)).map headD))) = [] := by
  have h3 := store_ok h
  rw [List.filter_eq_nil_iff]
  intro x hx
  have h1 := newer_false (made_self (asc_heads (asc_filter h3.2.2 (inScope a)))) (List.mem_map_of_mem (f := headD) hx)
  rw [newer_head] at h1
  rw [h1]
  simp

theorem pk_heads {L : List RecD} (h : storeB L = true) (k : Nat) (hk : k ≤ 2) : pkB ⟨2, 1, 2, (k : Int), []⟩ ((L.filter (inScope (k : Int))).map headD) = true := by
  unfold pkB
  simp only []
  rw [said_two rfl]
  unfold toldB
  simp only []
  rw [headsB_map, store_scope h, scope_map]
  rw [show inB (k : Int) 0 2 = true by unfold inB; rw [decide_eq_true (by omega), decide_eq_true (by omega)]; rfl]
  rfl

theorem fsts_none {qs : List RP} (h : fsts qs = []) : qs = [] := by simpa [fsts] using h

theorem hops_none (W : World) (B : Nat) : HopsAt W (.slice none 0 0) [] B := ⟨none, 0, rfl, .inl (by simp)⟩

theorem recs_none (W : World) (B : Nat) : RecsAt W (.slice none 0 0) [] B := ⟨⟨none, 0, rfl, .inl (by simp)⟩, by simp⟩

set_option maxRecDepth 100000 in
set_option maxHeartbeats 4000000 in
theorem fnHeaders_walk (a : Option Addr) (len cap : Nat) (w : World) (hw : len ≤ 1048576 → Code w a len w.heap.size) :
    Calls Try.prog 3 #[.slice a len cap] w fun e w' => e = .returned (.bool true) ∧ Below w.heap.size w w' := by
  have HW := hide hw
  clear hw
  by_cases hlen : len ≤ 1048576
  case neg =>
    have HBIG := hide (big_any a len cap)
    rw [decide_eq_true (show (1048576 : Int) < (len : Int) by omega)] at HBIG
    go_enter Try.func3, Try.ntmps3
    go_wp2_with fail
    refine (HBIG.out _).mono ?_
    rintro e w1 ⟨rfl, rfl⟩
    go_wp2
    go_ret
    exact ⟨rfl, Below.refl _ _⟩
  have HBIG := hide (big_any a len cap)
  rw [decide_eq_false (show ¬ (1048576 : Int) < (len : Int) by omega)] at HBIG
  have HCODE := hide (HW.out hlen)
  clear HW
  go_enter Try.func3, Try.ntmps3
  go_wp2_with fail
  refine (HBIG.out _).mono ?_
  rintro e w1 ⟨rfl, rfl⟩
  go_wp2_with fail
  refine (drawStores_any a len cap _ HCODE.out).mono ?_
  rintro e w1 ⟨va, vb, qa, qb, rfl, oa, ob, sa, sb, la, lb, b1⟩
  obtain ⟨xa, xac, rfl⟩ := owns_lenS oa.row
  have hta : tot qa ≤ 1050 := by rw [tot_D]; exact store_tot sa
  have OA := hide oa
  have SA := hide sa
  clear oa ob sa sb la lb HBIG HCODE
  go_wp2
  go_loopw [5] (fun i wr => ∃ k : Nat, k ≤ 3 ∧ i = .int .i64 k ∧ Below w1.heap.size w1 wr) (fun i _ => 3 - (intOf i).toNat)
  case atStart => exact ⟨0, by omega, rfl, Below.refl _ _⟩
  case round =>
    obtain ⟨k, hk, rfl, hnx⟩ := hrel
    have hsz := hnx.size
    have B1 : Below w.heap.size w wr := b1.trans (hnx.mono b1.size)
    by_cases hlt : k ≤ 2
    · have hlt' : (k : Int) ≤ 2 := by omega
      have HIH := hide (iheaders_any (.slice xa qa.length xac) qa w1.heap.size (k : Int) wr (OA.out.below hnx (Nat.le_refl _)) hsz (by omega))
      have HSC := hide (fun W (hb : Below w1.heap.size w1 W) => sscopeI_any (.slice xa qa.length xac) qa w1.heap.size (k : Int) W (OA.out.below hb (Nat.le_refl _)) hb.size (by omega))
      have HN1 := hide (newer_none_hs SA.out (k : Int))
      have HN2 := hide (newer_none_sh SA.out (k : Int))
      have HPK := hide (pk_heads SA.out k hlt)
      obtain ⟨S, hS⟩ : ∃ S, S = (fsts qa).filter (inScope (k : Int)) := ⟨_, rfl⟩
      rw [← hS] at HIH HSC HN1 HN2 HPK
      have hSt : totD S ≤ 1050 := by rw [hS]; exact Nat.le_trans (totD_filter _ _) (by rw [← tot_D]; exact hta)
      have hHt : totD (S.map headD) ≤ 1050 := by
        have : ∀ l : List RecD, totD (l.map headD) ≤ totD l := by
          intro l
          induction l with
          | nil => simp [totD]
          | cons y l ih => rw [List.map_cons, totD_cons, totD_cons]; simp only [headD, List.length_nil]; omega
        exact Nat.le_trans (this S) hSt
      clear hS
      go_wp2_with fail
      refine HIH.out.mono ?_
      rintro e w2 ⟨h, qh, rfl, fh, oh, b2⟩
      obtain ⟨ha, hc, rfl⟩ := owns_lenS oh.row
      have hs2 := b2.size
      have N2 : Below w1.heap.size w1 w2 := hnx.trans (b2.mono hsz)
      have OH := hide oh
      have FH := hide fh
      have th : tot qh ≤ 1050 := by rw [tot_D, fh]; exact hHt
      clear oh fh b2 HIH
      go_wp2_with fail
      refine (HSC.out _ N2).mono ?_
      rintro e w3 ⟨s, qs, rfl, fs, os, b3⟩
      obtain ⟨sa, sc, rfl⟩ := owns_lenS os.row
      have hs3 := b3.size
      have N3 : Below w1.heap.size w1 w3 := N2.trans (b3.mono (by have := N2.size; omega))
      have OH3 := hide (OH.out.below b3 (Nat.le_refl _))
      have ts : tot qs ≤ 1050 := by rw [tot_D, fs]; exact hSt
      have hql : qh.length = qs.length := by
        have e1 : (fsts qh).length = qh.length := by simp [fsts]
        have e2 : (fsts qs).length = qs.length := by simp [fsts]
        rw [FH.out, List.length_map, ← fs] at e1
        omega
      rw [hql] at OH3 ⊢
      have OS := hide os
      have FS := hide fs
      have HQL := hide hql
      have HNW1 := hide (snewer_any _ _ qh qs _ _ _ _ w3 OH3.out hs3 os (Nat.le_refl _) (by omega) (by omega))
      clear b3 os fs OH HSC hql
      go_wp2_with fail
      refine HNW1.out.mono ?_
      rintro e w4 ⟨n1, q1, rfl, f1, o1, b4⟩
      have e1 : q1 = [] := fsts_none (by rw [f1, FH.out, FS.out]; exact HN1.out)
      subst e1
      obtain ⟨n1a, n1c, rfl⟩ := owns_lenS o1.row
      have hs4 := b4.size
      have N4 : Below w1.heap.size w1 w4 := N3.trans (b4.mono (by have := N3.size; omega))
      have OH4 := hide (OH3.out.below b4 (by omega))
      have OS4 := hide (OS.out.below b4 (Nat.le_refl _))
      have HNW2 := hide (snewer_any _ _ qs qh _ _ _ _ w4 OS4.out hs4 OH4.out (by omega) (by omega) (by omega))
      simp only [List.length_nil]
      clear b4 o1 f1 OH3 OS HNW1
      go_wp2_with fail
      refine HNW2.out.mono ?_
      rintro e w5 ⟨n2, q2, rfl, f2, o2, b5⟩
      have e2 : q2 = [] := fsts_none (by rw [f2, FH.out, FS.out]; exact HN2.out)
      subst e2
      obtain ⟨n2a, n2c, rfl⟩ := owns_lenS o2.row
      have hs5 := b5.size
      have N5 : Below w1.heap.size w1 w5 := N4.trans (b5.mono (by have := N4.size; omega))
      have OH5 := hide (OH4.out.below b5 (by omega))
      have HPO : Calls Try.prog 11 #[.agg #[.int .i64 2, .int .i64 1, .int .i64 2, .int .i64 (k : Int), .slice none 0 0, .slice ha qs.length hc]] w5 fun e w' => e = .returned (.bool (pkB ⟨2, 1, 2, (k : Int), []⟩ (fsts qh))) ∧ Below w5.heap.size w5 w' :=
        ipacketOk_any (.slice none 0 0) (.slice ha qs.length hc) ⟨2, 1, 2, (k : Int), []⟩ qh w5 (by unfold totP; simp; omega) ⟨hops_none _ _, OH5.out.at.more (by omega)⟩
      rw [FH.out, HPK.out] at HPO
      have HP := hide HPO
      simp only [List.length_nil]
      clear b5 o2 f2 OH4 OS4 HNW2 HPO
      go_wp2_with fail
      refine HP.out.mono ?_
      rintro e w6 ⟨rfl, b6⟩
      have N6 : Below w1.heap.size w1 w6 := N5.trans (b6.mono (by have := N5.size; omega))
      go_wp2
      go_roundw
      case rel => exact ⟨k + 1, by omega, by go_num, N6⟩
      case measure => simp [intOf]; omega
    · have hlt' : ¬ (k : Int) ≤ 2 := by omega
      have HPO : Calls Try.prog 11 #[.agg #[.int .i64 2, .int .i64 1, .int .i64 1, .int .i64 0, .slice none 0 0, .slice none 0 0]] wr fun e w' => e = .returned (.bool (pkB ⟨2, 1, 1, 0, []⟩ (fsts []))) ∧ Below wr.heap.size wr w' :=
        ipacketOk_any (.slice none 0 0) (.slice none 0 0) ⟨2, 1, 1, 0, []⟩ [] wr (by unfold totP; simp [tot]) ⟨hops_none _ _, recs_none _ _⟩
      rw [show pkB ⟨2, 1, 1, 0, []⟩ (fsts []) = false from rfl] at HPO
      have HP := hide HPO
      clear HPO
      go_wp2_with fail
      refine HP.out.mono ?_
      rintro e w6 ⟨rfl, b6⟩
      go_wp2
      go_ret
      exact ⟨rfl, B1.trans (b6.mono B1.size)⟩
end Go.Proofs.Ytnfockhbcneegaa
namespace Go.Proofs.Ytnfockhbcneegaa
namespace fnHeaders
open Go.ChangeShapes Go.WideShapes Go.ChangeAt Go.RowKit
open Go.ChangeMaps (open_string shut_string)
set_option linter.unusedVariables false

theorem own : ownKnob Try.prog.godebug = none := by kernel_rfl
theorem laidOut : laidOutB Try.prog = true := by kernel_rfl

set_option maxRecDepth 100000 in
theorem lifted (os : Os) (started : os.Started) (H : Type) (enc : TypeId × Value → H) :
    ReturnsInHanded {} Try.checked os 3 .any (Rows.fnHeadersSpec.pre6 enc Try.prog Try.f3 Rows.fnHeadersRow.domain false) (Rows.fnHeadersSpec.post enc Try.prog Try.f3 false true false false) := by
  refine returnsInHanded_of_change (C := Try.checked) own started (by kernel_rfl) Try.func3
    (ChangeSpec.witness6 (enc := enc) (C := Try.checked) false ⟨#[], #[.slice none 0 0], []⟩ 8 (by kernel_rfl) (by kernel_rfl) (by kernel_rfl) (by kernel_rfl)) ?_
  intro W base args ds gs before hval0 hW hcnd _
  have hval : ∀ (j : Nat) t v, Try.f3.params[j]? = some t → args[j]? = some v → Value.okWide Try.prog W .any base t v := hval0
  have hW' := hW
  obtain ⟨p, q, hA0, hV, rfl, hfz, hnd⟩ := hW
  have hA : DataW.TrodAll enc Try.prog W 0 (fun _ => true) true Try.f3.params.toList args.toList ds p := hA0
  rw [Try.params3] at hA hval
  obtain ⟨v0, vs0, d0, ds0, p0, q0, hargs, rfl, rfl, h0, r0⟩ := trodAll_cons hA
  obtain ⟨rfl, rfl, rfl⟩ := trodAll_nil r0
  obtain rfl : args = #[v0] := by cases args; simp_all
  obtain ⟨rfl, rfl⟩ := trodVars_none hV
  obtain ⟨a0, len0, cap0, rfl⟩ := okWide_slice Try.underlying22 (hval 0 22 v0 rfl rfl)
  have k0 := h0
  have lt0 : ∀ x ∈ p0, x.block < W.heap.size := by obtain ⟨m, hm⟩ := k0; exact DataW.trod_lt m _ _ _ hm
  have w0 : len0 ≤ 1048576 → Code W a0 len0 W.heap.size := fun hl20 => by
    obtain ⟨fuel, hf⟩ := h0
    refine ⟨hl20, ?_⟩
    rcases open_ints Try.underlying22 Try.underlying5 (by kernel_rfl) hf with ⟨hcs, _⟩ | ⟨x, l, c, zs, hcs, _, hl, hm, hz, _, hcell, hwz⟩
    · simp [Value.cells] at hcs
      exact .inl hcs.2.1
    · simp [Value.cells] at hcs
      obtain ⟨rfl, rfl, rfl⟩ := hcs
      by_cases hl0 : len0 = 0
      · exact .inl hl0
      · obtain ⟨b, off, spot⟩ := x
        have hzl : zs.length = cap0 := by simpa using hz
        have hc0 := hcell 0 (by omega)
        have hspot : spot = none := by simpa [Addr.add] using World.cell?_spot hc0
        subst hspot
        have hb : b < W.heap.size := by
          have := World.block_lt_of_cell? W _ hc0
          simpa [Addr.add] using this
        refine .inr ⟨b, off, rfl, hb, fun j hj => ?_⟩
        have hjz : j < zs.length := by omega
        have hcj := hcell j hjz
        have e1 : (⟨b, off, none⟩ : Addr).add j = ⟨b, off + j, none⟩ := by
          simp only [Addr.add]
          split <;> simp_all
        have hgd : zs.getD j 0 = zs[j] := by simp [List.getElem?_eq_getElem hjz]
        have hwj := bounds_u8 (hwz (zs.getD j 0) (by rw [hgd]; exact List.getElem_mem hjz))
        rw [e1] at hcj
        exact ⟨(zs.getD j 0).toNat, by omega, by rw [hcj]; congr 2; omega⟩
  clear hA0 hval0
  refine (fnHeaders_walk a0 len0 cap0 W w0).mono fun e W' ⟨he, bel⟩ => ?_
  subst he
  exact ⟨_, rfl, _, _, _, [], _, [], hW', trodAll_mk1 (shut_bool Try.underlying4 _), (trodAll_cons_mk (Below.trod laidOut (by kernel_rfl) (of_decide_eq_true (by kernel_rfl)) k0 bel lt0) trodAll_mk0), rfl, bel.frame _, fun h => by cases h⟩

theorem over : Rows.fnHeadersRow.holds Try.pinned (OpenSpec.ofChange Rows.fnHeadersSpec) :=
  OpenClaim.holds_of_wide 3 Try.f3 rfl rfl rfl rfl rfl rfl rfl ⟨rfl, rfl, rfl, rfl, rfl⟩ rfl rfl rfl rfl rfl (by kernel_rfl) Try.func3 (by kernel_rfl)
    (of_decide_eq_true (by kernel_rfl)) (by unfold Func.isWrapper; first | (rw [if_pos (by decide +kernel)]; kernel_rfl) | (rw [if_neg (by decide +kernel)]; exact ⟨rfl, rfl⟩))
    (fun os started H enc _ => lifted os started H enc)
end fnHeaders

theorem fnHeaders_proved : Rows.FnHeadersSaid := fnHeaders.over
#print axioms fnHeaders_proved
end Go.Proofs.Ytnfockhbcneegaa
