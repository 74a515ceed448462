/-
  laws.FnStores: its walk.
-/
import Derived.Test.YtohjphhocdgpgaaSto14
import Derived.Test.YtohjphhocdgpgaaSto16
namespace Go.Proofs.Ytohjphhocdgpgaa
open Go.RowKit

set_option linter.unusedSimpArgs false

theorem sto_step {ls : List RecD} {r : RecD} (hok : ∀ x ∈ ls, recOkB x = true) (hr : recOkB r = true) (hl : ls.length ≤ 13) :
    insB (foldI ls) r = decide (newestD (foldI ls) r < r.seq) ∧ (insB (foldI ls) r = true → insD (foldI ls) r = foldI (ls ++ [r])) ∧ (insB (foldI ls) r = false → foldI ls = foldI (ls ++ [r])) := by
  have hm := foldI_made ls hok (by omega)
  have hf := foldI_len ls
  have hn := made_next (r := r) hm hok (by omega)
  refine ⟨made_insB hm hok hr (by omega), ?_, ?_⟩
  · intro h
    rw [h] at hn
    rw [foldI_snoc, ← hn]
    rfl
  · intro h
    rw [h] at hn
    rw [foldI_snoc, ← hn]
    rfl

theorem sto_store {ls : List RecD} (hok : ∀ x ∈ ls, recOkB x = true) (hl : ls.length ≤ 13) : storeB (foldI ls) = true ∧ totD (foldI ls) ≤ 1050 := by
  have hm := foldI_made ls hok (by omega)
  have hf := foldI_len ls
  have h := hm.store hok (by omega)
  exact ⟨h, store_tot h⟩

theorem fsts_takeS {rs : List RP} {k : Nat} {p : RP} (h : rs[k]? = some p) : (fsts rs).take (k + 1) = (fsts rs).take k ++ [p.1] := by
  have e := map_take h
  rw [← fsts_take, ← fsts_take]
  exact e

theorem rev_takeS {rs : List RP} {k j : Nat} {p : RP} (h : rs[j]? = some p) (hj : k + j + 1 = rs.length) : (fsts rs).reverse.take (k + 1) = (fsts rs).reverse.take k ++ [p.1] := by
  have h1 := fsts_at h
  have hl : (fsts rs).length = rs.length := by simp [fsts]
  have h2 : (fsts rs).reverse[k]? = some p.1 := by
    rw [List.getElem?_reverse (by omega), ← h1]
    congr 1
    omega
  obtain ⟨h3, e⟩ := List.getElem?_eq_some_iff.1 h2
  rw [List.take_succ_eq_append_getElem h3, e]

theorem own_in {W : World} {lo hi : Nat} {v : Value} {ps : List RP} (h : RecsOwn W lo hi v ps) (hh : hi ≤ W.heap.size) : RecsIn W W.heap.size v ps := h.in.wide hh

theorem own_then {W W' : World} {lo : Nat} {v : Value} {ps : List RP} (h : RecsOwn W lo W.heap.size v ps) (hb : Below W.heap.size W W') : RecsOwn W' lo W'.heap.size v ps := (h.below hb (Nat.le_refl _)).wide (Nat.le_refl _) hb.size

set_option maxRecDepth 100000 in
set_option maxHeartbeats 20000000 in
theorem fnStores_walk (a : Option Addr) (len cap : Nat) (w : World) (hw : len ≤ 1048576 → Code w a len w.heap.size) :
    Calls Try.prog 8 #[.slice a len cap] w fun e w' => e = .returned (.bool true) ∧ Below w.heap.size w w' := by
  have HW := hide hw
  clear hw
  by_cases hlen : len ≤ 1048576
  case neg =>
    have HBIG := hide (big_any a len cap)
    rw [decide_eq_true (show (1048576 : Int) < (len : Int) by omega)] at HBIG
    go_enter Try.func8, Try.ntmps8
    go_wp2_with fail
    refine (HBIG.out _).mono ?_
    rintro e w1 ⟨rfl, rfl⟩
    go_wp2
    go_ret
    exact ⟨rfl, Below.refl _ _⟩
  have HBIG := hide (big_any a len cap)
  rw [decide_eq_false (show ¬ (1048576 : Int) < (len : Int) by omega)] at HBIG
  have HCODE := hide (HW.out hlen)
  clear HW
  go_enter Try.func8, Try.ntmps8
  go_wp2_with fail
  refine (HBIG.out _).mono ?_
  rintro e w1 ⟨rfl, rfl⟩
  go_wp2_with fail
  refine (drawRecs_any a len cap _ HCODE.out).mono ?_
  rintro e w1 ⟨lv, rs, rfl, ol, hok, hrl, b1⟩
  obtain ⟨la, lc, rfl⟩ := owns_lenS ol.row
  obtain ⟨RS, hRS⟩ : ∃ X, X = fsts rs := ⟨_, rfl⟩
  have hRl : RS.length = rs.length := by rw [hRS]; simp [fsts]
  have HOK := hide (show ∀ x ∈ RS, recOkB x = true by
    rw [hRS]
    intro x hx
    simp only [fsts, List.mem_map] at hx
    obtain ⟨p, hp, rfl⟩ := hx
    exact hok p hp)
  have HRS := hide hRS
  have HRL := hide hRl
  have HOP := hide hok
  have LIN := hide (own_in ol (Nat.le_refl _))
  have hs1 := b1.size
  have ra0 := recs_lit w1 w.heap.size hs1
  have rb0 := recs_lit (w1.alloc (.cells #[] 26)) w.heap.size (by simp; omega)
  have hsA : (w1.alloc (.cells #[] 26)).heap.size = w1.heap.size + 1 := by simp
  rw [hsA] at rb0
  have RA0 := hide (own_then ra0 ((Below.refl _ (w1.alloc (.cells #[] 26))).alloc (Nat.le_refl _) (.cells #[] 26)))
  have RB0 := hide rb0
  have B0 : Below w1.heap.size w1 ((w1.alloc (.cells #[] 26)).alloc (.cells #[] 26)) := ((Below.refl _ _).alloc (Nat.le_refl _) _).alloc (by simp) _
  clear hRS hRl hok ol ra0 rb0 hsA HCODE HBIG
  go_wp2
  generalize (w1.alloc (.cells #[] 26)).alloc (.cells #[] 26) = w2 at *
  have HIN := hide (fun (v : Value) (ps : List RP) (p : RP) W (h1 : RecsIn W W.heap.size v ps) (h2 : tot ps ≤ 1048576) (h3 : NearOwn W 0 W.heap.size p) (h4 : p.1.near.length ≤ 1048576) => iinst_any v ps W.heap.size p W h1 (Nat.le_refl _) h2 h3 h4)
  have HNW := hide (fun (v : Value) (ps : List RP) (p : RP) W (h1 : RecsIn W W.heap.size v ps) (h2 : ps.length ≤ 1048576) => newest_any v ps W.heap.size p W h1 (Nat.le_refl _) h2)
  go_loopw [6, 4, 5] (fun i oa ob wr => ∃ (k : Nat) (ua ub : Value) (qa qb : List RP), k ≤ rs.length ∧ i = .int .i64 k ∧ oa = ua ∧ ob = ub ∧ Hid (fsts qa = foldI (RS.take k)) ∧ Hid (fsts qb = foldI (RS.reverse.take k)) ∧ RecsOwn wr w.heap.size wr.heap.size ua qa ∧ RecsOwn wr w.heap.size wr.heap.size ub qb ∧ Below w1.heap.size w1 wr) (fun i _ _ _ => rs.length - (intOf i).toNat)
  case atStart => exact ⟨0, _, _, [], [], by omega, rfl, rfl, rfl, hide rfl, hide rfl, RA0.out, RB0.out, B0⟩
  case round =>
    clear RA0 RB0 B0
    obtain ⟨k, ua, ub, qa, qb, hk, rfl, rfl, rfl, FA, FB, oa, ob, hnx⟩ := hrel
    obtain ⟨xa, xac, rfl⟩ := owns_lenS oa.row
    obtain ⟨xb, xbc, rfl⟩ := owns_lenS ob.row
    have hsz := hnx.size
    by_cases hlt : k < rs.length
    · have hki : (0 : Int) ≤ (k : Int) := by omega
      have hkj : (k : Int) < (rs.length : Int) := by omega
      have hA := sto_store (ls := RS.take k) (fun x hx => HOK.out x (List.mem_of_mem_take hx)) (by rw [List.length_take]; omega)
      have hB := sto_store (ls := RS.reverse.take k) (fun x hx => HOK.out x (List.mem_reverse.1 (List.mem_of_mem_take hx))) (by rw [List.length_take]; omega)
      have hta : tot qa ≤ 1048576 := by rw [tot_D, FA.out]; omega
      have htb : tot qb ≤ 1048576 := by rw [tot_D, FB.out]; omega
      have hqa := tot_len qa
      clear hA hB
      obtain ⟨p, hp⟩ : ∃ p, rs[k]? = some p := ⟨rs[k], List.getElem?_eq_getElem hlt⟩
      have hpr := HOP.out p (List.mem_of_getElem? hp)
      have hp6 := recOk_near hpr
      obtain ⟨T, hT⟩ : ∃ T, T = insB (fsts qa) p.1 := ⟨_, rfl⟩
      obtain ⟨NW, hNW⟩ : ∃ T, T = newestD (fsts qa) p.1 := ⟨_, rfl⟩
      have hst := sto_step (ls := RS.take k) (r := p.1) (fun x hx => HOK.out x (List.mem_of_mem_take hx)) hpr (by rw [List.length_take]; omega)
      rw [← FA.out, ← hT, ← hNW, show RS.take k ++ [p.1] = RS.take (k + 1) by rw [HRS.out]; exact (fsts_takeS hp).symm] at hst
      have HST := hide hst
      obtain ⟨b, off, cp1, hve, hbb, c0, c1, c2, c3, c4, c5, c6, c7, hnr⟩ := LIN.out.at.cells k p hp
      cases hve
      obtain ⟨pa, pc, hpn⟩ := NearsAt.shape hnr
      rw [hpn] at c5
      rw [← hnx.cell (p := ⟨b, off + k * 8, none⟩) hbb] at c0
      rw [← hnx.cell (p := ⟨b, off + k * 8 + 1, none⟩) hbb] at c1
      rw [← hnx.cell (p := ⟨b, off + k * 8 + 2, none⟩) hbb] at c2
      rw [← hnx.cell (p := ⟨b, off + k * 8 + 3, none⟩) hbb] at c3
      rw [← hnx.cell (p := ⟨b, off + k * 8 + 4, none⟩) hbb] at c4
      rw [← hnx.cell (p := ⟨b, off + k * 8 + 5, none⟩) hbb] at c5
      rw [← hnx.cell (p := ⟨b, off + k * 8 + 6, none⟩) hbb] at c6
      rw [← hnx.cell (p := ⟨b, off + k * 8 + 7, none⟩) hbb] at c7
      have hno := ((LIN.out.nears p (List.mem_of_getElem? hp)).keep (W' := wr) (fun j _ h2 _ => hnx.block j h2)).wide (Nat.le_refl _) hsz
      have HI1 := HIN.out (.slice xa qa.length xac) qa p wr (own_in oa (Nat.le_refl _)) hta hno (by omega)
      have HN1 := fun W (hb : Below wr.heap.size wr W) => HNW.out (.slice xa qa.length xac) qa p W (own_in (own_then oa hb) (Nat.le_refl _)) (by omega)
      unfold recC at HI1 HN1
      rw [hpn, ← hT] at HI1
      rw [hpn, ← hNW] at HN1
      have HI := hide HI1
      have HN := hide HN1
      have OA := hide oa
      have OB := hide ob
      have hbw : b < wr.heap.size := by omega
      obtain ⟨j, hj⟩ : ∃ j, k + j + 1 = rs.length := ⟨rs.length - k - 1, by omega⟩
      have HJ := hide hj
      clear HI1 HN1 hp hpr hst hnr hno hpn hT hNW oa ob hj
      go_wp2_with fail
      refine HI.out.mono ?_
      rintro e w3 ⟨x3, q3, rfl, f3, o3, b3⟩
      obtain ⟨x3a, x3c, rfl⟩ := owns_lenS o3.row
      have b3s := b3.size
      have F3 := hide f3
      have O3 := hide (o3.wide (show w.heap.size ≤ wr.heap.size by omega) (Nat.le_refl _))
      have OA3 := hide (own_then OA.out b3)
      have OB3 := hide (own_then OB.out b3)
      rw [← b3.cell (p := ⟨b, off + k * 8, none⟩) hbw] at c0
      rw [← b3.cell (p := ⟨b, off + k * 8 + 1, none⟩) hbw] at c1
      rw [← b3.cell (p := ⟨b, off + k * 8 + 2, none⟩) hbw] at c2
      rw [← b3.cell (p := ⟨b, off + k * 8 + 3, none⟩) hbw] at c3
      rw [← b3.cell (p := ⟨b, off + k * 8 + 4, none⟩) hbw] at c4
      rw [← b3.cell (p := ⟨b, off + k * 8 + 5, none⟩) hbw] at c5
      rw [← b3.cell (p := ⟨b, off + k * 8 + 6, none⟩) hbw] at c6
      rw [← b3.cell (p := ⟨b, off + k * 8 + 7, none⟩) hbw] at c7
      have hb3 : b < w3.heap.size := by omega
      have B3D : Below wr.heap.size wr w3.drew := b3.drew
      clear f3 o3 OA OB HI
      cases T
      · have hnw : ¬ NW < p.1.seq := by simpa using HST.out.1.symm
        have hnd : decide (NW < p.1.seq) = false := HST.out.1.symm
        have FA4 := hide (show fsts qa = foldI (RS.take (k + 1)) from FA.out.trans (by rw [← FA.out]; exact HST.out.2.2 rfl))
        go_wp2
        go_region_held3 (fun W => W.cell? ⟨b, off + k * 8, none⟩ = some (.int .i64 p.1.area) ∧ W.cell? ⟨b, off + k * 8 + 1, none⟩ = some (.int .i64 p.1.kind) ∧ W.cell? ⟨b, off + k * 8 + 2, none⟩ = some (.int .i64 p.1.owner) ∧ W.cell? ⟨b, off + k * 8 + 3, none⟩ = some (.int .i64 p.1.key) ∧ W.cell? ⟨b, off + k * 8 + 4, none⟩ = some (.int .i64 p.1.seq) ∧ W.cell? ⟨b, off + k * 8 + 5, none⟩ = some (.slice pa p.1.near.length pc) ∧ W.cell? ⟨b, off + k * 8 + 6, none⟩ = some (.int .i64 p.1.cost) ∧ W.cell? ⟨b, off + k * 8 + 7, none⟩ = some (.bool p.1.far)) (first | go_keep | (refine ⟨?_, ?_, ?_, ?_, ?_, ?_, ?_, ?_⟩ <;> (rw [hbc.cell (by assumption)]; assumption))) (first | (go_at_call 36; refine (HN.out _ B3D).mono ?_; rintro e w4 ⟨rfl, hbc⟩))
        have b4 : Below w3.heap.size w3 w4 := (Below.refl _ _).drew.trans hbc
        have b4s := b4.size
        have OA4 := hide (own_then OA3.out b4)
        have OB4 := hide (own_then OB3.out b4)
        have B4 : Below w1.heap.size w1 w4 := hnx.trans ((b3.trans (b4.mono b3s)).mono hsz)
        clear OA3 OB3 O3 F3 FA HN hbc B3D HST c0 c1 c2 c3 c4 c5 c6 c7 b3 b4
        have hj := HJ.out
        obtain ⟨q, hp⟩ : ∃ q, rs[j]? = some q := ⟨rs[j]'(by omega), List.getElem?_eq_getElem (by omega)⟩
        have hpr := HOP.out q (List.mem_of_getElem? hp)
        have hq6 := recOk_near hpr
        obtain ⟨T2, hT⟩ : ∃ T, T = insB (fsts qb) q.1 := ⟨_, rfl⟩
        have hst := sto_step (ls := RS.reverse.take k) (r := q.1) (fun x hx => HOK.out x (List.mem_reverse.1 (List.mem_of_mem_take hx))) hpr (by rw [List.length_take]; omega)
        rw [← FB.out, ← hT, show RS.reverse.take k ++ [q.1] = RS.reverse.take (k + 1) by rw [HRS.out]; exact (rev_takeS hp hj).symm] at hst
        have HST := hide hst
        obtain ⟨b2, off2, cp2, hve, hbb2, d0, d1, d2, d3, d4, d5, d6, d7, hnr⟩ := LIN.out.at.cells j q hp
        cases hve
        obtain ⟨qaa, qac, hpn⟩ := NearsAt.shape hnr
        rw [hpn] at d5
        rw [← B4.cell (p := ⟨b, off + j * 8, none⟩) hbb] at d0
        rw [← B4.cell (p := ⟨b, off + j * 8 + 1, none⟩) hbb] at d1
        rw [← B4.cell (p := ⟨b, off + j * 8 + 2, none⟩) hbb] at d2
        rw [← B4.cell (p := ⟨b, off + j * 8 + 3, none⟩) hbb] at d3
        rw [← B4.cell (p := ⟨b, off + j * 8 + 4, none⟩) hbb] at d4
        rw [← B4.cell (p := ⟨b, off + j * 8 + 5, none⟩) hbb] at d5
        rw [← B4.cell (p := ⟨b, off + j * 8 + 6, none⟩) hbb] at d6
        rw [← B4.cell (p := ⟨b, off + j * 8 + 7, none⟩) hbb] at d7
        have hno := ((LIN.out.nears q (List.mem_of_getElem? hp)).keep (W' := w4) (fun j _ h2 _ => B4.block j h2)).wide (Nat.le_refl _) B4.size
        have HI1 := HIN.out (.slice xb qb.length xbc) qb q w4 (own_in OB4.out (Nat.le_refl _)) htb hno (by omega)
        unfold recC at HI1
        rw [hpn, ← hT] at HI1
        have HI := hide HI1
        have hji : (0 : Int) ≤ (j : Int) := by omega
        have hjj : (j : Int) < (rs.length : Int) := by omega
        have hj1 : (rs.length : Int) - 1 - (k : Int) = (j : Int) := by omega
        have hw1 : IntKind.i64.wrap ((rs.length : Int) - 1) = (rs.length : Int) - 1 := wrap_fit _ (by omega) (by omega)
        have hw2 : IntKind.i64.wrap (j : Int) = (j : Int) := wrap_fit _ (by omega) (by omega)
        clear HI1 hp hpr hst hnr hno hpn hT hj
        go_wp2_with fail
        refine HI.out.mono ?_
        rintro e w5 ⟨x5, q5, rfl, f5, o5, b5⟩
        obtain ⟨x5a, x5c, rfl⟩ := owns_lenS o5.row
        have b5s := b5.size
        have F5 := hide f5
        have O5 := hide (o5.wide (show w.heap.size ≤ w4.heap.size by omega) (Nat.le_refl _))
        have OA5 := hide (own_then OA4.out b5)
        have OB5 := hide (own_then OB4.out b5)
        have B5 : Below w1.heap.size w1 w5 := B4.trans (b5.mono B4.size)
        clear f5 o5 OA4 OB4 HI b5 B4 d0 d1 d2 d3 d4 d5 d6 d7 hj1
        cases T2
        · have FB5 := hide (show fsts qb = foldI (RS.reverse.take (k + 1)) from FB.out.trans (by rw [← FB.out]; exact HST.out.2.2 rfl))
          clear FB
          go_wp2
          go_roundw
          case rel => exact ⟨k + 1, _, _, qa, qb, by omega, by go_num, rfl, rfl, FA4, FB5, OA5.out, OB5.out, B5⟩
          case measure => simp [intOf]; omega
        · have FB5 := hide (show fsts q5 = foldI (RS.reverse.take (k + 1)) from F5.out.trans (HST.out.2.1 rfl))
          clear FB
          go_wp2
          go_roundw
          case rel => exact ⟨k + 1, _, _, qa, q5, by omega, by go_num, rfl, rfl, FA4, FB5, OA5.out, O5.out, B5⟩
          case measure => simp [intOf]; omega
      · have hnw : NW < p.1.seq := by simpa using HST.out.1.symm
        have hnd : decide (NW < p.1.seq) = true := HST.out.1.symm
        have FA4 := hide (show fsts q3 = foldI (RS.take (k + 1)) from F3.out.trans (HST.out.2.1 rfl))
        go_wp2
        go_region_held3 (fun W => W.cell? ⟨b, off + k * 8, none⟩ = some (.int .i64 p.1.area) ∧ W.cell? ⟨b, off + k * 8 + 1, none⟩ = some (.int .i64 p.1.kind) ∧ W.cell? ⟨b, off + k * 8 + 2, none⟩ = some (.int .i64 p.1.owner) ∧ W.cell? ⟨b, off + k * 8 + 3, none⟩ = some (.int .i64 p.1.key) ∧ W.cell? ⟨b, off + k * 8 + 4, none⟩ = some (.int .i64 p.1.seq) ∧ W.cell? ⟨b, off + k * 8 + 5, none⟩ = some (.slice pa p.1.near.length pc) ∧ W.cell? ⟨b, off + k * 8 + 6, none⟩ = some (.int .i64 p.1.cost) ∧ W.cell? ⟨b, off + k * 8 + 7, none⟩ = some (.bool p.1.far)) (first | go_keep | (refine ⟨?_, ?_, ?_, ?_, ?_, ?_, ?_, ?_⟩ <;> (rw [hbc.cell (by assumption)]; assumption))) (first | (go_at_call 36; refine (HN.out _ B3D).mono ?_; rintro e w4 ⟨rfl, hbc⟩))
        have b4 : Below w3.heap.size w3 w4 := (Below.refl _ _).drew.trans hbc
        have b4s := b4.size
        have OA4 := hide (own_then O3.out b4)
        have OB4 := hide (own_then OB3.out b4)
        have B4 : Below w1.heap.size w1 w4 := hnx.trans ((b3.trans (b4.mono b3s)).mono hsz)
        clear OA3 OB3 O3 F3 FA HN hbc B3D HST c0 c1 c2 c3 c4 c5 c6 c7 b3 b4
        have hj := HJ.out
        obtain ⟨q, hp⟩ : ∃ q, rs[j]? = some q := ⟨rs[j]'(by omega), List.getElem?_eq_getElem (by omega)⟩
        have hpr := HOP.out q (List.mem_of_getElem? hp)
        have hq6 := recOk_near hpr
        obtain ⟨T2, hT⟩ : ∃ T, T = insB (fsts qb) q.1 := ⟨_, rfl⟩
        have hst := sto_step (ls := RS.reverse.take k) (r := q.1) (fun x hx => HOK.out x (List.mem_reverse.1 (List.mem_of_mem_take hx))) hpr (by rw [List.length_take]; omega)
        rw [← FB.out, ← hT, show RS.reverse.take k ++ [q.1] = RS.reverse.take (k + 1) by rw [HRS.out]; exact (rev_takeS hp hj).symm] at hst
        have HST := hide hst
        obtain ⟨b2, off2, cp2, hve, hbb2, d0, d1, d2, d3, d4, d5, d6, d7, hnr⟩ := LIN.out.at.cells j q hp
        cases hve
        obtain ⟨qaa, qac, hpn⟩ := NearsAt.shape hnr
        rw [hpn] at d5
        rw [← B4.cell (p := ⟨b, off + j * 8, none⟩) hbb] at d0
        rw [← B4.cell (p := ⟨b, off + j * 8 + 1, none⟩) hbb] at d1
        rw [← B4.cell (p := ⟨b, off + j * 8 + 2, none⟩) hbb] at d2
        rw [← B4.cell (p := ⟨b, off + j * 8 + 3, none⟩) hbb] at d3
        rw [← B4.cell (p := ⟨b, off + j * 8 + 4, none⟩) hbb] at d4
        rw [← B4.cell (p := ⟨b, off + j * 8 + 5, none⟩) hbb] at d5
        rw [← B4.cell (p := ⟨b, off + j * 8 + 6, none⟩) hbb] at d6
        rw [← B4.cell (p := ⟨b, off + j * 8 + 7, none⟩) hbb] at d7
        have hno := ((LIN.out.nears q (List.mem_of_getElem? hp)).keep (W' := w4) (fun j _ h2 _ => B4.block j h2)).wide (Nat.le_refl _) B4.size
        have HI1 := HIN.out (.slice xb qb.length xbc) qb q w4 (own_in OB4.out (Nat.le_refl _)) htb hno (by omega)
        unfold recC at HI1
        rw [hpn, ← hT] at HI1
        have HI := hide HI1
        have hji : (0 : Int) ≤ (j : Int) := by omega
        have hjj : (j : Int) < (rs.length : Int) := by omega
        have hj1 : (rs.length : Int) - 1 - (k : Int) = (j : Int) := by omega
        have hw1 : IntKind.i64.wrap ((rs.length : Int) - 1) = (rs.length : Int) - 1 := wrap_fit _ (by omega) (by omega)
        have hw2 : IntKind.i64.wrap (j : Int) = (j : Int) := wrap_fit _ (by omega) (by omega)
        clear HI1 hp hpr hst hnr hno hpn hT hj
        go_wp2_with fail
        refine HI.out.mono ?_
        rintro e w5 ⟨x5, q5, rfl, f5, o5, b5⟩
        obtain ⟨x5a, x5c, rfl⟩ := owns_lenS o5.row
        have b5s := b5.size
        have F5 := hide f5
        have O5 := hide (o5.wide (show w.heap.size ≤ w4.heap.size by omega) (Nat.le_refl _))
        have OA5 := hide (own_then OA4.out b5)
        have OB5 := hide (own_then OB4.out b5)
        have B5 : Below w1.heap.size w1 w5 := B4.trans (b5.mono B4.size)
        clear f5 o5 OA4 OB4 HI b5 B4 d0 d1 d2 d3 d4 d5 d6 d7 hj1
        cases T2
        · have FB5 := hide (show fsts qb = foldI (RS.reverse.take (k + 1)) from FB.out.trans (by rw [← FB.out]; exact HST.out.2.2 rfl))
          clear FB
          go_wp2
          go_roundw
          case rel => exact ⟨k + 1, _, _, q3, qb, by omega, by go_num, rfl, rfl, FA4, FB5, OA5.out, OB5.out, B5⟩
          case measure => simp [intOf]; omega
        · have FB5 := hide (show fsts q5 = foldI (RS.reverse.take (k + 1)) from F5.out.trans (HST.out.2.1 rfl))
          clear FB
          go_wp2
          go_roundw
          case rel => exact ⟨k + 1, _, _, q3, q5, by omega, by go_num, rfl, rfl, FA4, FB5, OA5.out, O5.out, B5⟩
          case measure => simp [intOf]; omega
    · have KN : k = rs.length := by omega
      have hfa : fsts qa = foldI RS := by rw [FA.out, KN, ← HRL.out, List.take_length]
      have hfb : fsts qb = foldI RS.reverse := by rw [FB.out, KN, ← HRL.out, List.take_of_length_le (by simp)]
      have hrl2 : RS.length ≤ 13 := by have := HRL.out; omega
      have hA := sto_store (ls := RS) HOK.out hrl2
      have mA := foldI_made RS HOK.out (by omega)
      have mB := foldI_made RS.reverse (fun x hx => HOK.out x (List.mem_reverse.1 hx)) (by simp; omega)
      have mP := made_pair mA mB (fun x => by simp)
      rw [← hfa] at hA mA mP
      rw [← hfb] at mP
      have hlen2 : qa.length = qb.length := by have := mP.1; simpa [fsts] using this
      have hli : (qa.length : Int) = (qb.length : Int) := by omega
      have hta : tot qa ≤ 1048576 := by rw [tot_D]; omega
      have hqa := tot_len qa
      have HSO := istoreOk_any (.slice xa qa.length xac) qa wr hta oa.at
      rw [hA.1] at HSO
      have HSO := hide HSO
      have MA := hide mA
      have MP := hide mP
      have HFA := hide hfa
      have OA := hide oa
      have OB := hide ob
      have HL2 := hide hlen2
      have hnlt : ¬ (k : Int) < (rs.length : Int) := by omega
      clear hfa hfb hA mA mB mP oa ob hlen2 FA FB HIN KN
      go_wp2_with fail
      refine HSO.out.mono ?_
      rintro e w3 ⟨rfl, b3⟩
      have b3s := b3.size
      have OA3 := hide (own_then OA.out b3)
      have OB3 := hide (own_then OB.out b3)
      have B3 : Below w1.heap.size w1 w3 := hnx.trans (b3.mono hsz)
      clear OA OB b3 HSO hnx
      go_wp2
      clear hli
      go_loopw [9] (fun i wr => ∃ (m : Nat), m ≤ qa.length ∧ i = .int .i64 m ∧ Below w3.heap.size w3 wr) (fun i _ => qa.length - (intOf i).toNat)
      case atStart => exact ⟨0, by omega, rfl, Below.refl _ _⟩
      case round =>
        obtain ⟨m, hm, rfl, hnt⟩ := hrel
        have hst := hnt.size
        by_cases hml : m < qa.length
        · have hmi : (0 : Int) ≤ (m : Int) := by omega
          have hmj : (m : Int) < (qa.length : Int) := by omega
          have hmq : (m : Int) < (qb.length : Int) := by have := HL2.out; omega
          have OA4 := hide (own_then OA3.out hnt)
          have OB4 := hide (own_then OB3.out hnt)
          obtain ⟨p, hp⟩ : ∃ p, qa[m]? = some p := ⟨qa[m], List.getElem?_eq_getElem hml⟩
          obtain ⟨q, hq⟩ : ∃ q, qb[m]? = some q := ⟨qb[m]'(by have := HL2.out; omega), List.getElem?_eq_getElem (by have := HL2.out; omega)⟩
          have hpq := MP.out.2 m p.1 q.1 (fsts_at hp) (fsts_at hq)
          have hpm : p.1 ∈ fsts qa := List.mem_of_getElem? (fsts_at hp)
          have hfd := asc_find MA.out.asc hpm
          have hnw := made_newest MA.out HOK.out hpm
          have hp6 := recOk_near (HOK.out _ (MA.out.sub _ hpm))
          obtain ⟨g1, o1, cp1, hve, hbb, c0, c1, c2, c3, c4, c5, c6, c7, hnr⟩ := OA4.out.at.cells m p hp
          cases hve
          obtain ⟨pa, pc, hpn⟩ := NearsAt.shape hnr
          rw [hpn] at c5
          obtain ⟨g2, o2, cp2, hve, hbb2, d0, d1, d2, d3, d4, d5, d6, d7, hnr2⟩ := OB4.out.at.cells m q hq
          cases hve
          obtain ⟨qaa, qac, hqn⟩ := NearsAt.shape hnr2
          rw [hqn] at d5
          have hpo := OA4.out.nears p (List.mem_of_getElem? hp)
          have HF := ifind_any (.slice (some ⟨g1, o1, none⟩) qa.length xac) qa w.heap.size wr.heap.size p w.heap.size wr OA4.out (Nat.le_refl _) hta hpo.1
          rw [hfd.1, hfd.2] at HF
          have HSM := fun (u : Value) W (hb : Below wr.heap.size wr W) (hu : NearsAt W u p.1.near W.heap.size) => same_any p.1 u p.2 W hu ((RowAt.later hpo.at hb (Nat.le_refl _)).more hb.size) (by omega)
          have HSK := fun W => ssameKey_any p.2 q.2 p.1 q.1 W
          rw [hpq.1] at HSK
          have HNN := fun W (hb : Below wr.heap.size wr W) => newest_any (.slice la rs.length lc) rs w1.heap.size p W (LIN.out.below ((B3.trans (hnt.mono B3.size)).trans (hb.mono (Nat.le_trans B3.size hst))) (Nat.le_refl _)) (by have := (B3.trans (hnt.mono B3.size)).size; have := hb.size; omega) (by omega)
          rw [← HRS.out, hnw] at HNN
          unfold recC at HF HSM HSK HNN
          rw [hpn] at HF HSM HSK HNN
          rw [hqn] at HSK
          rw [← hpq.2] at HSK d4
          have HSM0 := hide HSM
          have HSK := hide HSK
          have HNN0 := hide HNN
          have HFF := hide HF
          clear HF HSM HNN hp hq hpq hpm hfd hnw hnr hnr2 hpn hqn hpo
          go_wp2_with fail
          refine HFF.out.mono ?_
          rintro e w4 ⟨u, rfl, hu, b4⟩
          obtain ⟨ya, yc, rfl⟩ := owns_lenS hu
          have b4s := b4.size
          have BX : Below w4.heap.size w4 (w4.alloc (.cells #[.int .i64 p.1.area, .int .i64 p.1.kind, .int .i64 p.1.owner, .int .i64 p.1.key, .int .i64 p.1.seq, .slice ya p.1.near.length yc, .int .i64 p.1.cost, .bool p.1.far] 26)) := (Below.refl _ _).alloc (Nat.le_refl _) _
          have hx := heap_alloc_new w4 (.cells #[.int .i64 p.1.area, .int .i64 p.1.kind, .int .i64 p.1.owner, .int .i64 p.1.key, .int .i64 p.1.seq, .slice ya p.1.near.length yc, .int .i64 p.1.cost, .bool p.1.far] 26)
          obtain ⟨w5, hw5⟩ : ∃ W, W = w4.alloc (.cells #[.int .i64 p.1.area, .int .i64 p.1.kind, .int .i64 p.1.owner, .int .i64 p.1.key, .int .i64 p.1.seq, .slice ya p.1.near.length yc, .int .i64 p.1.cost, .bool p.1.far] 26) := ⟨_, rfl⟩
          rw [← hw5] at BX hx
          obtain ⟨z, hz⟩ : ∃ z, z = w4.heap.size := ⟨_, rfl⟩
          rw [← hz] at hx
          have s0 := cells_at hx 0
          have s1 := cells_at hx 1
          have s2 := cells_at hx 2
          have s3 := cells_at hx 3
          have s4 := cells_at hx 4
          have s5 := cells_at hx 5
          have s6 := cells_at hx 6
          have s7 := cells_at hx 7
          simp at s0 s1 s2 s3 s4 s5 s6 s7
          have hz5 := lt_of_heap hx
          have BT : Below wr.heap.size wr w5 := b4.trans (BX.mono b4s)
          rw [← BT.cell (p := ⟨g1, o1 + m * 8, none⟩) hbb] at c0
          rw [← BT.cell (p := ⟨g1, o1 + m * 8 + 1, none⟩) hbb] at c1
          rw [← BT.cell (p := ⟨g1, o1 + m * 8 + 2, none⟩) hbb] at c2
          rw [← BT.cell (p := ⟨g1, o1 + m * 8 + 3, none⟩) hbb] at c3
          rw [← BT.cell (p := ⟨g1, o1 + m * 8 + 4, none⟩) hbb] at c4
          rw [← BT.cell (p := ⟨g1, o1 + m * 8 + 5, none⟩) hbb] at c5
          rw [← BT.cell (p := ⟨g1, o1 + m * 8 + 6, none⟩) hbb] at c6
          rw [← BT.cell (p := ⟨g1, o1 + m * 8 + 7, none⟩) hbb] at c7
          rw [← BT.cell (p := ⟨g2, o2 + m * 8, none⟩) hbb2] at d0
          rw [← BT.cell (p := ⟨g2, o2 + m * 8 + 1, none⟩) hbb2] at d1
          rw [← BT.cell (p := ⟨g2, o2 + m * 8 + 2, none⟩) hbb2] at d2
          rw [← BT.cell (p := ⟨g2, o2 + m * 8 + 3, none⟩) hbb2] at d3
          rw [← BT.cell (p := ⟨g2, o2 + m * 8 + 4, none⟩) hbb2] at d4
          rw [← BT.cell (p := ⟨g2, o2 + m * 8 + 5, none⟩) hbb2] at d5
          rw [← BT.cell (p := ⟨g2, o2 + m * 8 + 6, none⟩) hbb2] at d6
          rw [← BT.cell (p := ⟨g2, o2 + m * 8 + 7, none⟩) hbb2] at d7
          have bxs := BX.size
          have hg5 : g1 < w5.heap.size := by omega
          have hh5 : g2 < w5.heap.size := by omega
          have BD : Below wr.heap.size wr w5.drew := BT.drew
          have hu5 : NearsAt w5.drew (.slice ya p.1.near.length yc) p.1.near w5.drew.heap.size := RowAt.then (owns_rowAt hu) (BX.drew)
          have HSM := hide (fun W (hb : Below wr.heap.size wr W) (h2 : NearsAt W (.slice ya p.1.near.length yc) p.1.near W.heap.size) => HSM0.out _ W hb h2)
          have HSM := hide (HSM.out _ BD hu5)
          have HNN := HNN0
          clear hu hx hu5 HFF HSM0
          go_wp2
          rw [← hw5, ← hz]
          clear hw5 hz
          refine wp_region_start (S := (fun W => W.cell? ⟨z, 0, none⟩ = some (.int .i64 p.1.area) ∧ W.cell? ⟨z, 1, none⟩ = some (.int .i64 p.1.kind) ∧ W.cell? ⟨z, 2, none⟩ = some (.int .i64 p.1.owner) ∧ W.cell? ⟨z, 3, none⟩ = some (.int .i64 p.1.key) ∧ W.cell? ⟨z, 4, none⟩ = some (.int .i64 p.1.seq) ∧ W.cell? ⟨z, 5, none⟩ = some (.slice ya p.1.near.length yc) ∧ W.cell? ⟨z, 6, none⟩ = some (.int .i64 p.1.cost) ∧ W.cell? ⟨z, 7, none⟩ = some (.bool p.1.far) ∧ W.cell? ⟨g1, o1 + m * 8, none⟩ = some (.int .i64 p.1.area) ∧ W.cell? ⟨g1, o1 + m * 8 + 1, none⟩ = some (.int .i64 p.1.kind) ∧ W.cell? ⟨g1, o1 + m * 8 + 2, none⟩ = some (.int .i64 p.1.owner) ∧ W.cell? ⟨g1, o1 + m * 8 + 3, none⟩ = some (.int .i64 p.1.key) ∧ W.cell? ⟨g1, o1 + m * 8 + 4, none⟩ = some (.int .i64 p.1.seq) ∧ W.cell? ⟨g1, o1 + m * 8 + 5, none⟩ = some (.slice pa p.1.near.length pc) ∧ W.cell? ⟨g1, o1 + m * 8 + 6, none⟩ = some (.int .i64 p.1.cost) ∧ W.cell? ⟨g1, o1 + m * 8 + 7, none⟩ = some (.bool p.1.far) ∧ W.cell? ⟨g2, o2 + m * 8, none⟩ = some (.int .i64 q.1.area) ∧ W.cell? ⟨g2, o2 + m * 8 + 1, none⟩ = some (.int .i64 q.1.kind) ∧ W.cell? ⟨g2, o2 + m * 8 + 2, none⟩ = some (.int .i64 q.1.owner) ∧ W.cell? ⟨g2, o2 + m * 8 + 3, none⟩ = some (.int .i64 q.1.key) ∧ W.cell? ⟨g2, o2 + m * 8 + 4, none⟩ = some (.int .i64 p.1.seq) ∧ W.cell? ⟨g2, o2 + m * 8 + 5, none⟩ = some (.slice qaa q.1.near.length qac) ∧ W.cell? ⟨g2, o2 + m * 8 + 6, none⟩ = some (.int .i64 q.1.cost) ∧ W.cell? ⟨g2, o2 + m * 8 + 7, none⟩ = some (.bool q.1.far))) (by kernel_rfl) 50 rfl ⟨s0, s1, s2, s3, s4, s5, s6, s7, c0, c1, c2, c3, c4, c5, c6, c7, d0, d1, d2, d3, d4, d5, d6, d7⟩ (fun ops hops hHeld => ?_)
          refine take_do 0 (oi := ?_) (v := ?_) ?_ (by rw [hops.out]; kernel_rfl) ?_ ?_ ?_ (by assumption) ?_
          rotate_left 2
          · rw [hops.out]; simp only [List.getElem?_toArray, List.getElem?_cons_succ, List.getElem?_cons_zero]; rfl
          · rw [hops.out]; kernel_rfl
          · intro W hW; (try dsimp only at hW); go_simp <;> with_reducible rfl
          · exact fun _ _ _ h => h
          try simp only [Act.put, List.setIfInBounds_toArray, List.set_cons_zero, List.set_cons_succ]
          refine take_do 1 (oi := ?_) (v := ?_) ?_ (by rw [hops.out]; kernel_rfl) ?_ ?_ ?_ (by assumption) ?_
          rotate_left 2
          · rw [hops.out]; simp only [List.getElem?_toArray, List.getElem?_cons_succ, List.getElem?_cons_zero]; rfl
          · rw [hops.out]; kernel_rfl
          · intro W hW; (try dsimp only at hW); go_simp <;> with_reducible rfl
          · exact fun _ _ _ h => h
          try simp only [Act.put, List.setIfInBounds_toArray, List.set_cons_zero, List.set_cons_succ]
          refine take_do 2 (oi := ?_) (v := ?_) ?_ (by rw [hops.out]; kernel_rfl) ?_ ?_ ?_ (by assumption) ?_
          rotate_left 2
          · rw [hops.out]; simp only [List.getElem?_toArray, List.getElem?_cons_succ, List.getElem?_cons_zero]; rfl
          · rw [hops.out]; kernel_rfl
          · intro W hW; (try dsimp only at hW); go_simp <;> with_reducible rfl
          · exact fun _ _ _ h => h
          try simp only [Act.put, List.setIfInBounds_toArray, List.set_cons_zero, List.set_cons_succ]
          refine take_do 3 (oi := ?_) (v := ?_) ?_ (by rw [hops.out]; kernel_rfl) ?_ ?_ ?_ (by assumption) ?_
          rotate_left 2
          · rw [hops.out]; simp only [List.getElem?_toArray, List.getElem?_cons_succ, List.getElem?_cons_zero]; rfl
          · rw [hops.out]; kernel_rfl
          · intro W hW; (try dsimp only at hW); go_simp <;> with_reducible rfl
          · exact fun _ _ _ h => h
          try simp only [Act.put, List.setIfInBounds_toArray, List.set_cons_zero, List.set_cons_succ]
          refine take_do 4 (oi := ?_) (v := ?_) ?_ (by rw [hops.out]; kernel_rfl) ?_ ?_ ?_ (by assumption) ?_
          rotate_left 2
          · rw [hops.out]; simp only [List.getElem?_toArray, List.getElem?_cons_succ, List.getElem?_cons_zero]; rfl
          · rw [hops.out]; kernel_rfl
          · intro W hW; (try dsimp only at hW); go_simp <;> with_reducible rfl
          · exact fun _ _ _ h => h
          try simp only [Act.put, List.setIfInBounds_toArray, List.set_cons_zero, List.set_cons_succ]
          refine take_do 5 (oi := ?_) (v := ?_) ?_ (by rw [hops.out]; kernel_rfl) ?_ ?_ ?_ (by assumption) ?_
          rotate_left 2
          · rw [hops.out]; simp only [List.getElem?_toArray, List.getElem?_cons_succ, List.getElem?_cons_zero]; rfl
          · rw [hops.out]; kernel_rfl
          · intro W hW; (try dsimp only at hW); go_simp <;> with_reducible rfl
          · exact fun _ _ _ h => h
          try simp only [Act.put, List.setIfInBounds_toArray, List.set_cons_zero, List.set_cons_succ]
          refine take_do 6 (oi := ?_) (v := ?_) ?_ (by rw [hops.out]; kernel_rfl) ?_ ?_ ?_ (by assumption) ?_
          rotate_left 2
          · rw [hops.out]; simp only [List.getElem?_toArray, List.getElem?_cons_succ, List.getElem?_cons_zero]; rfl
          · rw [hops.out]; kernel_rfl
          · intro W hW; (try dsimp only at hW); go_simp <;> with_reducible rfl
          · exact fun _ _ _ h => h
          try simp only [Act.put, List.setIfInBounds_toArray, List.set_cons_zero, List.set_cons_succ]
          refine take_do 7 (oi := ?_) (v := ?_) ?_ (by rw [hops.out]; kernel_rfl) ?_ ?_ ?_ (by assumption) ?_
          rotate_left 2
          · rw [hops.out]; simp only [List.getElem?_toArray, List.getElem?_cons_succ, List.getElem?_cons_zero]; rfl
          · rw [hops.out]; kernel_rfl
          · intro W hW; (try dsimp only at hW); go_simp <;> with_reducible rfl
          · exact fun _ _ _ h => h
          try simp only [Act.put, List.setIfInBounds_toArray, List.set_cons_zero, List.set_cons_succ]
          refine take_call 8 (oi := ?_) ?_ (by rw [hops.out]; kernel_rfl) ?_ ?_
          rotate_left 1
          · rw [hops.out]; simp only [List.getElem?_toArray, List.getElem?_cons_succ, List.getElem?_cons_zero]; rfl
          · rw [hops.out]; kernel_rfl
          intro K hK
          go_simp
          refine (HSM.out).mono ?_
          rintro e w6 ⟨rfl, b6⟩
          have hSn : _ ∧ _ := (show ((fun W => W.cell? ⟨z, 0, none⟩ = some (.int .i64 p.1.area) ∧ W.cell? ⟨z, 1, none⟩ = some (.int .i64 p.1.kind) ∧ W.cell? ⟨z, 2, none⟩ = some (.int .i64 p.1.owner) ∧ W.cell? ⟨z, 3, none⟩ = some (.int .i64 p.1.key) ∧ W.cell? ⟨z, 4, none⟩ = some (.int .i64 p.1.seq) ∧ W.cell? ⟨z, 5, none⟩ = some (.slice ya p.1.near.length yc) ∧ W.cell? ⟨z, 6, none⟩ = some (.int .i64 p.1.cost) ∧ W.cell? ⟨z, 7, none⟩ = some (.bool p.1.far) ∧ W.cell? ⟨g1, o1 + m * 8, none⟩ = some (.int .i64 p.1.area) ∧ W.cell? ⟨g1, o1 + m * 8 + 1, none⟩ = some (.int .i64 p.1.kind) ∧ W.cell? ⟨g1, o1 + m * 8 + 2, none⟩ = some (.int .i64 p.1.owner) ∧ W.cell? ⟨g1, o1 + m * 8 + 3, none⟩ = some (.int .i64 p.1.key) ∧ W.cell? ⟨g1, o1 + m * 8 + 4, none⟩ = some (.int .i64 p.1.seq) ∧ W.cell? ⟨g1, o1 + m * 8 + 5, none⟩ = some (.slice pa p.1.near.length pc) ∧ W.cell? ⟨g1, o1 + m * 8 + 6, none⟩ = some (.int .i64 p.1.cost) ∧ W.cell? ⟨g1, o1 + m * 8 + 7, none⟩ = some (.bool p.1.far) ∧ W.cell? ⟨g2, o2 + m * 8, none⟩ = some (.int .i64 q.1.area) ∧ W.cell? ⟨g2, o2 + m * 8 + 1, none⟩ = some (.int .i64 q.1.kind) ∧ W.cell? ⟨g2, o2 + m * 8 + 2, none⟩ = some (.int .i64 q.1.owner) ∧ W.cell? ⟨g2, o2 + m * 8 + 3, none⟩ = some (.int .i64 q.1.key) ∧ W.cell? ⟨g2, o2 + m * 8 + 4, none⟩ = some (.int .i64 p.1.seq) ∧ W.cell? ⟨g2, o2 + m * 8 + 5, none⟩ = some (.slice qaa q.1.near.length qac) ∧ W.cell? ⟨g2, o2 + m * 8 + 6, none⟩ = some (.int .i64 q.1.cost) ∧ W.cell? ⟨g2, o2 + m * 8 + 7, none⟩ = some (.bool q.1.far))) w6 from by
            obtain ⟨k0, k1, k2, k3, k4, k5, k6, k7, m0, m1, m2, m3, m4, m5, m6, m7, n0, n1, n2, n3, n4, n5, n6, n7⟩ := hHeld
            refine ⟨?_, ?_, ?_, ?_, ?_, ?_, ?_, ?_, ?_, ?_, ?_, ?_, ?_, ?_, ?_, ?_, ?_, ?_, ?_, ?_, ?_, ?_, ?_, ?_⟩ <;> (refine (b6.cell ?_).trans ?_ <;> assumption))
          refine hK.out _ _ hSn (fun hHeld => ?_)
          clear hK K hSn
          have b6s := b6.size
          try simp only [Act.put, List.setIfInBounds_toArray, List.set_cons_zero, List.set_cons_succ]
          have hz6 : z < w6.heap.size := Nat.lt_of_lt_of_le hz5 b6s
          have hg6 : g1 < w6.heap.size := Nat.lt_of_lt_of_le hg5 b6s
          have hh6 : g2 < w6.heap.size := Nat.lt_of_lt_of_le hh5 b6s
          refine take_do 9 (oi := ?_) (v := ?_) ?_ (by rw [hops.out]; kernel_rfl) ?_ ?_ ?_ (by assumption) ?_
          rotate_left 2
          · rw [hops.out]; simp only [List.getElem?_toArray, List.getElem?_cons_succ, List.getElem?_cons_zero]; rfl
          · rw [hops.out]; kernel_rfl
          · intro W hW; (try dsimp only at hW); go_simp <;> with_reducible rfl
          · exact fun _ _ _ h => h
          try simp only [Act.put, List.setIfInBounds_toArray, List.set_cons_zero, List.set_cons_succ]
          refine take_do 10 (oi := ?_) (v := ?_) ?_ (by rw [hops.out]; kernel_rfl) ?_ ?_ ?_ (by assumption) ?_
          rotate_left 2
          · rw [hops.out]; simp only [List.getElem?_toArray, List.getElem?_cons_succ, List.getElem?_cons_zero]; rfl
          · rw [hops.out]; kernel_rfl
          · intro W hW; (try dsimp only at hW); go_simp <;> with_reducible rfl
          · exact fun _ _ _ h => h
          try simp only [Act.put, List.setIfInBounds_toArray, List.set_cons_zero, List.set_cons_succ]
          refine take_do 11 (oi := ?_) (v := ?_) ?_ (by rw [hops.out]; kernel_rfl) ?_ ?_ ?_ (by assumption) ?_
          rotate_left 2
          · rw [hops.out]; simp only [List.getElem?_toArray, List.getElem?_cons_succ, List.getElem?_cons_zero]; rfl
          · rw [hops.out]; kernel_rfl
          · intro W hW; (try dsimp only at hW); go_simp <;> with_reducible rfl
          · exact fun _ _ _ h => h
          try simp only [Act.put, List.setIfInBounds_toArray, List.set_cons_zero, List.set_cons_succ]
          refine take_do 12 (oi := ?_) (v := ?_) ?_ (by rw [hops.out]; kernel_rfl) ?_ ?_ ?_ (by assumption) ?_
          rotate_left 2
          · rw [hops.out]; simp only [List.getElem?_toArray, List.getElem?_cons_succ, List.getElem?_cons_zero]; rfl
          · rw [hops.out]; kernel_rfl
          · intro W hW; (try dsimp only at hW); go_simp <;> with_reducible rfl
          · exact fun _ _ _ h => h
          try simp only [Act.put, List.setIfInBounds_toArray, List.set_cons_zero, List.set_cons_succ]
          refine take_do 13 (oi := ?_) (v := ?_) ?_ (by rw [hops.out]; kernel_rfl) ?_ ?_ ?_ (by assumption) ?_
          rotate_left 2
          · rw [hops.out]; simp only [List.getElem?_toArray, List.getElem?_cons_succ, List.getElem?_cons_zero]; rfl
          · rw [hops.out]; kernel_rfl
          · intro W hW; (try dsimp only at hW); go_simp <;> with_reducible rfl
          · exact fun _ _ _ h => h
          try simp only [Act.put, List.setIfInBounds_toArray, List.set_cons_zero, List.set_cons_succ]
          refine take_do 14 (oi := ?_) (v := ?_) ?_ (by rw [hops.out]; kernel_rfl) ?_ ?_ ?_ (by assumption) ?_
          rotate_left 2
          · rw [hops.out]; simp only [List.getElem?_toArray, List.getElem?_cons_succ, List.getElem?_cons_zero]; rfl
          · rw [hops.out]; kernel_rfl
          · intro W hW; (try dsimp only at hW); go_simp <;> with_reducible rfl
          · exact fun _ _ _ h => h
          try simp only [Act.put, List.setIfInBounds_toArray, List.set_cons_zero, List.set_cons_succ]
          refine take_do 15 (oi := ?_) (v := ?_) ?_ (by rw [hops.out]; kernel_rfl) ?_ ?_ ?_ (by assumption) ?_
          rotate_left 2
          · rw [hops.out]; simp only [List.getElem?_toArray, List.getElem?_cons_succ, List.getElem?_cons_zero]; rfl
          · rw [hops.out]; kernel_rfl
          · intro W hW; (try dsimp only at hW); go_simp <;> with_reducible rfl
          · exact fun _ _ _ h => h
          try simp only [Act.put, List.setIfInBounds_toArray, List.set_cons_zero, List.set_cons_succ]
          refine take_do 16 (oi := ?_) (v := ?_) ?_ (by rw [hops.out]; kernel_rfl) ?_ ?_ ?_ (by assumption) ?_
          rotate_left 2
          · rw [hops.out]; simp only [List.getElem?_toArray, List.getElem?_cons_succ, List.getElem?_cons_zero]; rfl
          · rw [hops.out]; kernel_rfl
          · intro W hW; (try dsimp only at hW); go_simp <;> with_reducible rfl
          · exact fun _ _ _ h => h
          try simp only [Act.put, List.setIfInBounds_toArray, List.set_cons_zero, List.set_cons_succ]
          refine take_do 17 (oi := ?_) (v := ?_) ?_ (by rw [hops.out]; kernel_rfl) ?_ ?_ ?_ (by assumption) ?_
          rotate_left 2
          · rw [hops.out]; simp only [List.getElem?_toArray, List.getElem?_cons_succ, List.getElem?_cons_zero]; rfl
          · rw [hops.out]; kernel_rfl
          · intro W hW; (try dsimp only at hW); go_simp <;> with_reducible rfl
          · exact fun _ _ _ h => h
          try simp only [Act.put, List.setIfInBounds_toArray, List.set_cons_zero, List.set_cons_succ]
          refine take_do 18 (oi := ?_) (v := ?_) ?_ (by rw [hops.out]; kernel_rfl) ?_ ?_ ?_ (by assumption) ?_
          rotate_left 2
          · rw [hops.out]; simp only [List.getElem?_toArray, List.getElem?_cons_succ, List.getElem?_cons_zero]; rfl
          · rw [hops.out]; kernel_rfl
          · intro W hW; (try dsimp only at hW); go_simp <;> with_reducible rfl
          · exact fun _ _ _ h => h
          try simp only [Act.put, List.setIfInBounds_toArray, List.set_cons_zero, List.set_cons_succ]
          refine take_do 19 (oi := ?_) (v := ?_) ?_ (by rw [hops.out]; kernel_rfl) ?_ ?_ ?_ (by assumption) ?_
          rotate_left 2
          · rw [hops.out]; simp only [List.getElem?_toArray, List.getElem?_cons_succ, List.getElem?_cons_zero]; rfl
          · rw [hops.out]; kernel_rfl
          · intro W hW; (try dsimp only at hW); go_simp <;> with_reducible rfl
          · exact fun _ _ _ h => h
          try simp only [Act.put, List.setIfInBounds_toArray, List.set_cons_zero, List.set_cons_succ]
          refine take_call 20 (oi := ?_) ?_ (by rw [hops.out]; kernel_rfl) ?_ ?_
          rotate_left 1
          · rw [hops.out]; simp only [List.getElem?_toArray, List.getElem?_cons_succ, List.getElem?_cons_zero]; rfl
          · rw [hops.out]; kernel_rfl
          intro K hK
          go_simp
          refine (HSK.out _).mono ?_
          rintro e w7 ⟨rfl, b7⟩
          have hSn : _ ∧ _ := (show ((fun W => W.cell? ⟨z, 0, none⟩ = some (.int .i64 p.1.area) ∧ W.cell? ⟨z, 1, none⟩ = some (.int .i64 p.1.kind) ∧ W.cell? ⟨z, 2, none⟩ = some (.int .i64 p.1.owner) ∧ W.cell? ⟨z, 3, none⟩ = some (.int .i64 p.1.key) ∧ W.cell? ⟨z, 4, none⟩ = some (.int .i64 p.1.seq) ∧ W.cell? ⟨z, 5, none⟩ = some (.slice ya p.1.near.length yc) ∧ W.cell? ⟨z, 6, none⟩ = some (.int .i64 p.1.cost) ∧ W.cell? ⟨z, 7, none⟩ = some (.bool p.1.far) ∧ W.cell? ⟨g1, o1 + m * 8, none⟩ = some (.int .i64 p.1.area) ∧ W.cell? ⟨g1, o1 + m * 8 + 1, none⟩ = some (.int .i64 p.1.kind) ∧ W.cell? ⟨g1, o1 + m * 8 + 2, none⟩ = some (.int .i64 p.1.owner) ∧ W.cell? ⟨g1, o1 + m * 8 + 3, none⟩ = some (.int .i64 p.1.key) ∧ W.cell? ⟨g1, o1 + m * 8 + 4, none⟩ = some (.int .i64 p.1.seq) ∧ W.cell? ⟨g1, o1 + m * 8 + 5, none⟩ = some (.slice pa p.1.near.length pc) ∧ W.cell? ⟨g1, o1 + m * 8 + 6, none⟩ = some (.int .i64 p.1.cost) ∧ W.cell? ⟨g1, o1 + m * 8 + 7, none⟩ = some (.bool p.1.far) ∧ W.cell? ⟨g2, o2 + m * 8, none⟩ = some (.int .i64 q.1.area) ∧ W.cell? ⟨g2, o2 + m * 8 + 1, none⟩ = some (.int .i64 q.1.kind) ∧ W.cell? ⟨g2, o2 + m * 8 + 2, none⟩ = some (.int .i64 q.1.owner) ∧ W.cell? ⟨g2, o2 + m * 8 + 3, none⟩ = some (.int .i64 q.1.key) ∧ W.cell? ⟨g2, o2 + m * 8 + 4, none⟩ = some (.int .i64 p.1.seq) ∧ W.cell? ⟨g2, o2 + m * 8 + 5, none⟩ = some (.slice qaa q.1.near.length qac) ∧ W.cell? ⟨g2, o2 + m * 8 + 6, none⟩ = some (.int .i64 q.1.cost) ∧ W.cell? ⟨g2, o2 + m * 8 + 7, none⟩ = some (.bool q.1.far))) w7 from by
            obtain ⟨k0, k1, k2, k3, k4, k5, k6, k7, m0, m1, m2, m3, m4, m5, m6, m7, n0, n1, n2, n3, n4, n5, n6, n7⟩ := hHeld
            refine ⟨?_, ?_, ?_, ?_, ?_, ?_, ?_, ?_, ?_, ?_, ?_, ?_, ?_, ?_, ?_, ?_, ?_, ?_, ?_, ?_, ?_, ?_, ?_, ?_⟩ <;> (refine (b7.cell ?_).trans ?_ <;> assumption))
          refine hK.out _ _ hSn (fun hHeld => ?_)
          clear hK K hSn
          have b7s := b7.size
          try simp only [Act.put, List.setIfInBounds_toArray, List.set_cons_zero, List.set_cons_succ]
          have hz7 : z < w7.heap.size := Nat.lt_of_lt_of_le hz6 b7s
          have hg7 : g1 < w7.heap.size := Nat.lt_of_lt_of_le hg6 b7s
          have hh7 : g2 < w7.heap.size := Nat.lt_of_lt_of_le hh6 b7s
          refine take_do 21 (oi := ?_) (v := ?_) ?_ (by rw [hops.out]; kernel_rfl) ?_ ?_ ?_ (by assumption) ?_
          rotate_left 2
          · rw [hops.out]; simp only [List.getElem?_toArray, List.getElem?_cons_succ, List.getElem?_cons_zero]; rfl
          · rw [hops.out]; kernel_rfl
          · intro W hW; (try dsimp only at hW); go_simp <;> with_reducible rfl
          · exact fun _ _ _ h => h
          try simp only [Act.put, List.setIfInBounds_toArray, List.set_cons_zero, List.set_cons_succ]
          refine take_do 22 (oi := ?_) (v := ?_) ?_ (by rw [hops.out]; kernel_rfl) ?_ ?_ ?_ (by assumption) ?_
          rotate_left 2
          · rw [hops.out]; simp only [List.getElem?_toArray, List.getElem?_cons_succ, List.getElem?_cons_zero]; rfl
          · rw [hops.out]; kernel_rfl
          · intro W hW; (try dsimp only at hW); go_simp <;> with_reducible rfl
          · exact fun _ _ _ h => h
          try simp only [Act.put, List.setIfInBounds_toArray, List.set_cons_zero, List.set_cons_succ]
          refine take_do 23 (oi := ?_) (v := ?_) ?_ (by rw [hops.out]; kernel_rfl) ?_ ?_ ?_ (by assumption) ?_
          rotate_left 2
          · rw [hops.out]; simp only [List.getElem?_toArray, List.getElem?_cons_succ, List.getElem?_cons_zero]; rfl
          · rw [hops.out]; kernel_rfl
          · intro W hW; (try dsimp only at hW); go_simp <;> with_reducible rfl
          · exact fun _ _ _ h => h
          try simp only [Act.put, List.setIfInBounds_toArray, List.set_cons_zero, List.set_cons_succ]
          refine take_do 24 (oi := ?_) (v := ?_) ?_ (by rw [hops.out]; kernel_rfl) ?_ ?_ ?_ (by assumption) ?_
          rotate_left 2
          · rw [hops.out]; simp only [List.getElem?_toArray, List.getElem?_cons_succ, List.getElem?_cons_zero]; rfl
          · rw [hops.out]; kernel_rfl
          · intro W hW; (try dsimp only at hW); go_simp <;> with_reducible rfl
          · exact fun _ _ _ h => h
          try simp only [Act.put, List.setIfInBounds_toArray, List.set_cons_zero, List.set_cons_succ]
          refine take_do 25 (oi := ?_) (v := ?_) ?_ (by rw [hops.out]; kernel_rfl) ?_ ?_ ?_ (by assumption) ?_
          rotate_left 2
          · rw [hops.out]; simp only [List.getElem?_toArray, List.getElem?_cons_succ, List.getElem?_cons_zero]; rfl
          · rw [hops.out]; kernel_rfl
          · intro W hW; (try dsimp only at hW); go_simp <;> with_reducible rfl
          · exact fun _ _ _ h => h
          try simp only [Act.put, List.setIfInBounds_toArray, List.set_cons_zero, List.set_cons_succ]
          refine take_do 26 (oi := ?_) (v := ?_) ?_ (by rw [hops.out]; kernel_rfl) ?_ ?_ ?_ (by assumption) ?_
          rotate_left 2
          · rw [hops.out]; simp only [List.getElem?_toArray, List.getElem?_cons_succ, List.getElem?_cons_zero]; rfl
          · rw [hops.out]; kernel_rfl
          · intro W hW; (try dsimp only at hW); go_simp <;> with_reducible rfl
          · exact fun _ _ _ h => h
          try simp only [Act.put, List.setIfInBounds_toArray, List.set_cons_zero, List.set_cons_succ]
          refine take_do 27 (oi := ?_) (v := ?_) ?_ (by rw [hops.out]; kernel_rfl) ?_ ?_ ?_ (by assumption) ?_
          rotate_left 2
          · rw [hops.out]; simp only [List.getElem?_toArray, List.getElem?_cons_succ, List.getElem?_cons_zero]; rfl
          · rw [hops.out]; kernel_rfl
          · intro W hW; (try dsimp only at hW); go_simp <;> with_reducible rfl
          · exact fun _ _ _ h => h
          try simp only [Act.put, List.setIfInBounds_toArray, List.set_cons_zero, List.set_cons_succ]
          refine take_do 28 (oi := ?_) (v := ?_) ?_ (by rw [hops.out]; kernel_rfl) ?_ ?_ ?_ (by assumption) ?_
          rotate_left 2
          · rw [hops.out]; simp only [List.getElem?_toArray, List.getElem?_cons_succ, List.getElem?_cons_zero]; rfl
          · rw [hops.out]; kernel_rfl
          · intro W hW; (try dsimp only at hW); go_simp <;> with_reducible rfl
          · exact fun _ _ _ h => h
          try simp only [Act.put, List.setIfInBounds_toArray, List.set_cons_zero, List.set_cons_succ]
          refine take_do 29 (oi := ?_) (v := ?_) ?_ (by rw [hops.out]; kernel_rfl) ?_ ?_ ?_ (by assumption) ?_
          rotate_left 2
          · rw [hops.out]; simp only [List.getElem?_toArray, List.getElem?_cons_succ, List.getElem?_cons_zero]; rfl
          · rw [hops.out]; kernel_rfl
          · intro W hW; (try dsimp only at hW); go_simp <;> with_reducible rfl
          · exact fun _ _ _ h => h
          try simp only [Act.put, List.setIfInBounds_toArray, List.set_cons_zero, List.set_cons_succ]
          refine take_do 30 (oi := ?_) (v := ?_) ?_ (by rw [hops.out]; kernel_rfl) ?_ ?_ ?_ (by assumption) ?_
          rotate_left 2
          · rw [hops.out]; simp only [List.getElem?_toArray, List.getElem?_cons_succ, List.getElem?_cons_zero]; rfl
          · rw [hops.out]; kernel_rfl
          · intro W hW; (try dsimp only at hW); go_simp <;> with_reducible rfl
          · exact fun _ _ _ h => h
          try simp only [Act.put, List.setIfInBounds_toArray, List.set_cons_zero, List.set_cons_succ]
          refine take_do 31 (oi := ?_) (v := ?_) ?_ (by rw [hops.out]; kernel_rfl) ?_ ?_ ?_ (by assumption) ?_
          rotate_left 2
          · rw [hops.out]; simp only [List.getElem?_toArray, List.getElem?_cons_succ, List.getElem?_cons_zero]; rfl
          · rw [hops.out]; kernel_rfl
          · intro W hW; (try dsimp only at hW); go_simp <;> with_reducible rfl
          · exact fun _ _ _ h => h
          try simp only [Act.put, List.setIfInBounds_toArray, List.set_cons_zero, List.set_cons_succ]
          refine take_do 32 (oi := ?_) (v := ?_) ?_ (by rw [hops.out]; kernel_rfl) ?_ ?_ ?_ (by assumption) ?_
          rotate_left 2
          · rw [hops.out]; simp only [List.getElem?_toArray, List.getElem?_cons_succ, List.getElem?_cons_zero]; rfl
          · rw [hops.out]; kernel_rfl
          · intro W hW; (try dsimp only at hW); go_simp <;> with_reducible rfl
          · exact fun _ _ _ h => h
          try simp only [Act.put, List.setIfInBounds_toArray, List.set_cons_zero, List.set_cons_succ]
          refine take_do 33 (oi := ?_) (v := ?_) ?_ (by rw [hops.out]; kernel_rfl) ?_ ?_ ?_ (by assumption) ?_
          rotate_left 2
          · rw [hops.out]; simp only [List.getElem?_toArray, List.getElem?_cons_succ, List.getElem?_cons_zero]; rfl
          · rw [hops.out]; kernel_rfl
          · intro W hW; (try dsimp only at hW); go_simp <;> with_reducible rfl
          · exact fun _ _ _ h => h
          try simp only [Act.put, List.setIfInBounds_toArray, List.set_cons_zero, List.set_cons_succ]
          refine take_do 34 (oi := ?_) (v := .bool false) ?_ (by rw [hops.out]; kernel_rfl) ?_ ?_ ?_ (by assumption) ?_
          rotate_left 1
          · rw [hops.out]; simp only [List.getElem?_toArray, List.getElem?_cons_succ, List.getElem?_cons_zero]; rfl
          · rw [hops.out]; kernel_rfl
          · intro W hW; (try dsimp only at hW); go_simp <;> (first | with_reducible rfl | (simp; done) | (simp; omega) | omega)
          · exact fun _ _ _ h => h
          try simp only [Act.put, List.setIfInBounds_toArray, List.set_cons_zero, List.set_cons_succ]
          refine take_do 35 (oi := ?_) (v := ?_) ?_ (by rw [hops.out]; kernel_rfl) ?_ ?_ ?_ (by assumption) ?_
          rotate_left 2
          · rw [hops.out]; simp only [List.getElem?_toArray, List.getElem?_cons_succ, List.getElem?_cons_zero]; rfl
          · rw [hops.out]; kernel_rfl
          · intro W hW; (try dsimp only at hW); go_simp <;> with_reducible rfl
          · exact fun _ _ _ h => h
          try simp only [Act.put, List.setIfInBounds_toArray, List.set_cons_zero, List.set_cons_succ]
          refine take_do 36 (oi := ?_) (v := ?_) ?_ (by rw [hops.out]; kernel_rfl) ?_ ?_ ?_ (by assumption) ?_
          rotate_left 2
          · rw [hops.out]; simp only [List.getElem?_toArray, List.getElem?_cons_succ, List.getElem?_cons_zero]; rfl
          · rw [hops.out]; kernel_rfl
          · intro W hW; (try dsimp only at hW); go_simp <;> with_reducible rfl
          · exact fun _ _ _ h => h
          try simp only [Act.put, List.setIfInBounds_toArray, List.set_cons_zero, List.set_cons_succ]
          refine take_do 37 (oi := ?_) (v := ?_) ?_ (by rw [hops.out]; kernel_rfl) ?_ ?_ ?_ (by assumption) ?_
          rotate_left 2
          · rw [hops.out]; simp only [List.getElem?_toArray, List.getElem?_cons_succ, List.getElem?_cons_zero]; rfl
          · rw [hops.out]; kernel_rfl
          · intro W hW; (try dsimp only at hW); go_simp <;> with_reducible rfl
          · exact fun _ _ _ h => h
          try simp only [Act.put, List.setIfInBounds_toArray, List.set_cons_zero, List.set_cons_succ]
          refine take_do 38 (oi := ?_) (v := ?_) ?_ (by rw [hops.out]; kernel_rfl) ?_ ?_ ?_ (by assumption) ?_
          rotate_left 2
          · rw [hops.out]; simp only [List.getElem?_toArray, List.getElem?_cons_succ, List.getElem?_cons_zero]; rfl
          · rw [hops.out]; kernel_rfl
          · intro W hW; (try dsimp only at hW); go_simp <;> with_reducible rfl
          · exact fun _ _ _ h => h
          try simp only [Act.put, List.setIfInBounds_toArray, List.set_cons_zero, List.set_cons_succ]
          refine take_do 39 (oi := ?_) (v := ?_) ?_ (by rw [hops.out]; kernel_rfl) ?_ ?_ ?_ (by assumption) ?_
          rotate_left 2
          · rw [hops.out]; simp only [List.getElem?_toArray, List.getElem?_cons_succ, List.getElem?_cons_zero]; rfl
          · rw [hops.out]; kernel_rfl
          · intro W hW; (try dsimp only at hW); go_simp <;> with_reducible rfl
          · exact fun _ _ _ h => h
          try simp only [Act.put, List.setIfInBounds_toArray, List.set_cons_zero, List.set_cons_succ]
          refine take_do 40 (oi := ?_) (v := ?_) ?_ (by rw [hops.out]; kernel_rfl) ?_ ?_ ?_ (by assumption) ?_
          rotate_left 2
          · rw [hops.out]; simp only [List.getElem?_toArray, List.getElem?_cons_succ, List.getElem?_cons_zero]; rfl
          · rw [hops.out]; kernel_rfl
          · intro W hW; (try dsimp only at hW); go_simp <;> with_reducible rfl
          · exact fun _ _ _ h => h
          try simp only [Act.put, List.setIfInBounds_toArray, List.set_cons_zero, List.set_cons_succ]
          refine take_do 41 (oi := ?_) (v := ?_) ?_ (by rw [hops.out]; kernel_rfl) ?_ ?_ ?_ (by assumption) ?_
          rotate_left 2
          · rw [hops.out]; simp only [List.getElem?_toArray, List.getElem?_cons_succ, List.getElem?_cons_zero]; rfl
          · rw [hops.out]; kernel_rfl
          · intro W hW; (try dsimp only at hW); go_simp <;> with_reducible rfl
          · exact fun _ _ _ h => h
          try simp only [Act.put, List.setIfInBounds_toArray, List.set_cons_zero, List.set_cons_succ]
          refine take_do 42 (oi := ?_) (v := ?_) ?_ (by rw [hops.out]; kernel_rfl) ?_ ?_ ?_ (by assumption) ?_
          rotate_left 2
          · rw [hops.out]; simp only [List.getElem?_toArray, List.getElem?_cons_succ, List.getElem?_cons_zero]; rfl
          · rw [hops.out]; kernel_rfl
          · intro W hW; (try dsimp only at hW); go_simp <;> with_reducible rfl
          · exact fun _ _ _ h => h
          try simp only [Act.put, List.setIfInBounds_toArray, List.set_cons_zero, List.set_cons_succ]
          refine take_do 43 (oi := ?_) (v := ?_) ?_ (by rw [hops.out]; kernel_rfl) ?_ ?_ ?_ (by assumption) ?_
          rotate_left 2
          · rw [hops.out]; simp only [List.getElem?_toArray, List.getElem?_cons_succ, List.getElem?_cons_zero]; rfl
          · rw [hops.out]; kernel_rfl
          · intro W hW; (try dsimp only at hW); go_simp <;> with_reducible rfl
          · exact fun _ _ _ h => h
          try simp only [Act.put, List.setIfInBounds_toArray, List.set_cons_zero, List.set_cons_succ]
          refine take_do 44 (oi := ?_) (v := ?_) ?_ (by rw [hops.out]; kernel_rfl) ?_ ?_ ?_ (by assumption) ?_
          rotate_left 2
          · rw [hops.out]; simp only [List.getElem?_toArray, List.getElem?_cons_succ, List.getElem?_cons_zero]; rfl
          · rw [hops.out]; kernel_rfl
          · intro W hW; (try dsimp only at hW); go_simp <;> with_reducible rfl
          · exact fun _ _ _ h => h
          try simp only [Act.put, List.setIfInBounds_toArray, List.set_cons_zero, List.set_cons_succ]
          refine take_do 45 (oi := ?_) (v := ?_) ?_ (by rw [hops.out]; kernel_rfl) ?_ ?_ ?_ (by assumption) ?_
          rotate_left 2
          · rw [hops.out]; simp only [List.getElem?_toArray, List.getElem?_cons_succ, List.getElem?_cons_zero]; rfl
          · rw [hops.out]; kernel_rfl
          · intro W hW; (try dsimp only at hW); go_simp <;> with_reducible rfl
          · exact fun _ _ _ h => h
          try simp only [Act.put, List.setIfInBounds_toArray, List.set_cons_zero, List.set_cons_succ]
          refine take_do 46 (oi := ?_) (v := ?_) ?_ (by rw [hops.out]; kernel_rfl) ?_ ?_ ?_ (by assumption) ?_
          rotate_left 2
          · rw [hops.out]; simp only [List.getElem?_toArray, List.getElem?_cons_succ, List.getElem?_cons_zero]; rfl
          · rw [hops.out]; kernel_rfl
          · intro W hW; (try dsimp only at hW); go_simp <;> with_reducible rfl
          · exact fun _ _ _ h => h
          try simp only [Act.put, List.setIfInBounds_toArray, List.set_cons_zero, List.set_cons_succ]
          refine take_call 47 (oi := ?_) ?_ (by rw [hops.out]; kernel_rfl) ?_ ?_
          rotate_left 1
          · rw [hops.out]; simp only [List.getElem?_toArray, List.getElem?_cons_succ, List.getElem?_cons_zero]; rfl
          · rw [hops.out]; kernel_rfl
          intro K hK
          go_simp
          refine (HNN.out _ ((BD.trans (b6.mono BD.size)).trans (b7.mono (Nat.le_trans BD.size b6.size)))).mono ?_
          rintro e w8 ⟨rfl, b8⟩
          have hSn : _ ∧ _ := (show ((fun W => W.cell? ⟨z, 0, none⟩ = some (.int .i64 p.1.area) ∧ W.cell? ⟨z, 1, none⟩ = some (.int .i64 p.1.kind) ∧ W.cell? ⟨z, 2, none⟩ = some (.int .i64 p.1.owner) ∧ W.cell? ⟨z, 3, none⟩ = some (.int .i64 p.1.key) ∧ W.cell? ⟨z, 4, none⟩ = some (.int .i64 p.1.seq) ∧ W.cell? ⟨z, 5, none⟩ = some (.slice ya p.1.near.length yc) ∧ W.cell? ⟨z, 6, none⟩ = some (.int .i64 p.1.cost) ∧ W.cell? ⟨z, 7, none⟩ = some (.bool p.1.far) ∧ W.cell? ⟨g1, o1 + m * 8, none⟩ = some (.int .i64 p.1.area) ∧ W.cell? ⟨g1, o1 + m * 8 + 1, none⟩ = some (.int .i64 p.1.kind) ∧ W.cell? ⟨g1, o1 + m * 8 + 2, none⟩ = some (.int .i64 p.1.owner) ∧ W.cell? ⟨g1, o1 + m * 8 + 3, none⟩ = some (.int .i64 p.1.key) ∧ W.cell? ⟨g1, o1 + m * 8 + 4, none⟩ = some (.int .i64 p.1.seq) ∧ W.cell? ⟨g1, o1 + m * 8 + 5, none⟩ = some (.slice pa p.1.near.length pc) ∧ W.cell? ⟨g1, o1 + m * 8 + 6, none⟩ = some (.int .i64 p.1.cost) ∧ W.cell? ⟨g1, o1 + m * 8 + 7, none⟩ = some (.bool p.1.far) ∧ W.cell? ⟨g2, o2 + m * 8, none⟩ = some (.int .i64 q.1.area) ∧ W.cell? ⟨g2, o2 + m * 8 + 1, none⟩ = some (.int .i64 q.1.kind) ∧ W.cell? ⟨g2, o2 + m * 8 + 2, none⟩ = some (.int .i64 q.1.owner) ∧ W.cell? ⟨g2, o2 + m * 8 + 3, none⟩ = some (.int .i64 q.1.key) ∧ W.cell? ⟨g2, o2 + m * 8 + 4, none⟩ = some (.int .i64 p.1.seq) ∧ W.cell? ⟨g2, o2 + m * 8 + 5, none⟩ = some (.slice qaa q.1.near.length qac) ∧ W.cell? ⟨g2, o2 + m * 8 + 6, none⟩ = some (.int .i64 q.1.cost) ∧ W.cell? ⟨g2, o2 + m * 8 + 7, none⟩ = some (.bool q.1.far))) w8 from by
            obtain ⟨k0, k1, k2, k3, k4, k5, k6, k7, m0, m1, m2, m3, m4, m5, m6, m7, n0, n1, n2, n3, n4, n5, n6, n7⟩ := hHeld
            refine ⟨?_, ?_, ?_, ?_, ?_, ?_, ?_, ?_, ?_, ?_, ?_, ?_, ?_, ?_, ?_, ?_, ?_, ?_, ?_, ?_, ?_, ?_, ?_, ?_⟩ <;> (refine (b8.cell ?_).trans ?_ <;> assumption))
          refine hK.out _ _ hSn (fun hHeld => ?_)
          clear hK K hSn
          have b8s := b8.size
          try simp only [Act.put, List.setIfInBounds_toArray, List.set_cons_zero, List.set_cons_succ]
          refine take_do 48 (oi := ?_) (v := .bool false) ?_ (by rw [hops.out]; kernel_rfl) ?_ ?_ ?_ (by assumption) ?_
          rotate_left 1
          · rw [hops.out]; simp only [List.getElem?_toArray, List.getElem?_cons_succ, List.getElem?_cons_zero]; rfl
          · rw [hops.out]; kernel_rfl
          · intro W hW; (try dsimp only at hW); go_simp <;> (first | with_reducible rfl | (simp; done) | (simp; omega) | omega)
          · exact fun _ _ _ h => h
          try simp only [Act.put, List.setIfInBounds_toArray, List.set_cons_zero, List.set_cons_succ]
          refine take_do 49 (oi := ?_) (v := ?_) ?_ (by rw [hops.out]; kernel_rfl) ?_ ?_ ?_ (by assumption) ?_
          rotate_left 2
          · rw [hops.out]; simp only [List.getElem?_toArray, List.getElem?_cons_succ, List.getElem?_cons_zero]; rfl
          · rw [hops.out]; kernel_rfl
          · intro W hW; (try dsimp only at hW); go_simp <;> with_reducible rfl
          · exact fun _ _ _ h => h
          try simp only [Act.put, List.setIfInBounds_toArray, List.set_cons_zero, List.set_cons_succ]
          refine wpAnyH_done (by rw [hops.out]; kernel_rfl) ?_ _
          clear hops ops
          go_wp2
          go_roundw
          case rel => exact ⟨m + 1, by omega, by go_num, hnt.trans ((((BD.trans (b6.mono BD.size)).trans (b7.mono (Nat.le_trans BD.size b6.size))).trans (b8.mono (Nat.le_trans BD.size (Nat.le_trans b6.size b7.size)))).mono hst)⟩
          case measure => simp [intOf]; omega
        · have hmn : ¬ (m : Int) < (qa.length : Int) := by omega
          have OA4 := hide (own_then OA3.out hnt)
          have BT : Below w1.heap.size w1 wr := B3.trans (hnt.mono B3.size)
          have BY : Below wr.heap.size wr (wr.alloc (.cells #[] 26)) := (Below.refl _ _).alloc (Nat.le_refl _) _
          have ry := recs_lit wr wr.heap.size (Nat.le_refl _)
          obtain ⟨wy, hwy⟩ : ∃ W, W = wr.alloc (.cells #[] 26) := ⟨_, rfl⟩
          rw [← hwy] at BY ry
          have BTY : Below w1.heap.size w1 wy := BT.trans (BY.mono BT.size)
          have htr : tot rs ≤ 1048576 := by
            rw [tot_D, ← HRS.out]
            have h1 := totD_le HOK.out
            have h2 := HRL.out
            omega
          have HMG := imerge_any (.slice (some ⟨wr.heap.size, 0, none⟩) 0 0) (.slice la rs.length lc) [] rs wy.heap.size wy (own_in ry (Nat.le_refl _)) ((LIN.out.below BTY (Nat.le_refl _)).wide BTY.size) (Nat.le_refl _) (by simp [tot]; exact htr)
          rw [show mergeD (fsts []) (fsts rs) = foldI RS by rw [HRS.out]; rfl] at HMG
          have HMG := hide HMG
          clear ry htr
          go_wp2_with fail
          rw [← hwy]
          clear hwy
          refine HMG.out.mono ?_
          rintro e w6 ⟨xc, qc, rfl, fc, oc, b6⟩
          obtain ⟨xca, xcc, rfl⟩ := owns_lenS oc.row
          have OA6 := own_then (own_then OA4.out BY) b6
          have HSS := hide (sameStore_any (.slice xca qc.length xcc) (.slice xa qa.length xac) qc qa w6.heap.size w6 (own_in oc (Nat.le_refl _)) (own_in OA6 (Nat.le_refl _)) (fc.trans HFA.out.symm) (Nat.le_refl _) (by rw [tot_D, fc, ← HFA.out, ← tot_D]; exact hta))
          have B6 : Below w.heap.size w w6 := b1.trans ((BTY.trans (b6.mono BTY.size)).mono hs1)
          clear OA6 fc oc HMG
          go_wp2_with fail
          refine HSS.out.mono ?_
          rintro e w7 ⟨rfl, b7⟩
          go_wp2
          go_ret
          exact ⟨rfl, B6.trans (b7.mono B6.size)⟩
end Go.Proofs.Ytohjphhocdgpgaa
