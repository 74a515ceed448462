/-
  spec.l05Store, DrawStores: right stores.
-/
import Derived.Test.YtmpfjlkncpckgaaDrawRecR
import Derived.Test.YtmpfjlkncpckgaaMgMath
namespace Go.Proofs.Ytmpfjlkncpckgaa
open Go.RowKit

set_option linter.unusedSimpArgs false

theorem cur_ne {W : World} {p base size n : Nat} {e : TypeId} {v : Value} {xs : List Value} {a : Option Addr} {len cap : Nat} (hc : Cur W p a len cap) (h : W.ownsRow base e size v n xs) (he : e ≠ 106) (k : Nat) (hk : v.ownBlock = some k) : some k ≠ some p := by
  obtain ⟨⟨i, hh, _, hb⟩, _⟩ := hc
  rcases h.2 with ⟨h0, _⟩ | ⟨g, cp, cur, hv, _, hg, _⟩
  · rw [h0] at hk; simp [Value.ownBlock] at hk
  · rw [hv] at hk
    simp [Value.ownBlock] at hk
    subst hk
    intro e2
    simp at e2
    subst e2
    rw [hg] at hb
    simp at hb
    exact he hb.2

/-- a list stays where only the cursor turns -/
theorem RecsIn.cur {W W' : World} {hi p : Nat} {v : Value} {ps : List RP} {a : Option Addr} {len cap : Nat} (h : RecsIn W hi v ps) (hc : Cur W p a len cap) (hg : W.grownBy W' (some p)) : RecsIn W' hi v ps where
  row := owns_keepB h.row (fun k e => hg.block k (h.row.lt k e).2 (cur_ne hc h.row (by decide) k e))
  top := h.top
  nears := fun q hq => ⟨owns_keepB (h.nears q hq).1 (fun k e => hg.block k ((h.nears q hq).1.lt k e).2 (cur_ne hc (h.nears q hq).1 (by decide) k e)), (h.nears q hq).2⟩

theorem recs_litIn (W : World) : RecsIn (W.alloc (.cells #[] 26)) (W.alloc (.cells #[] 26)).heap.size (.slice (some ⟨W.heap.size, 0, none⟩) 0 0) [] := (recs_lit W 0 (Nat.zero_le _)).in

set_option maxRecDepth 100000 in
set_option maxHeartbeats 2000000 in
theorem drawStore_any (p : Nat) (a : Option Addr) (len cap : Nat) (w : World) (hc : Cur w p a len cap) :
    Calls Try.prog 93 #[.pointer (some ⟨p, 0, none⟩)] w fun e w' => ∃ (v : Value) (qs : List RP), e = .returned v ∧ RecsIn w' w'.heap.size v qs ∧ storeB (fsts qs) = true ∧ qs.length ≤ 12 ∧ Cur w' p a len cap ∧ w.grownBy w' (some p) := by
  have hp := lt_of_cur hc
  have C0 := hide (cur_alloc hc (.cells #[] 26))
  have R0 := hide (recs_litIn w)
  have G0 := hide (gro_alloc (gro_refl w (some p)) (.cells #[] 26))
  clear hc
  go_enter Try.func93, Try.ntmps93
  go_wp2
  generalize w.alloc (.cells #[] 26) = w0 at *
  go_loopw [4, 3] (fun i o wr => ∃ (k : Nat) (qs : List RP) (u : Value), k ≤ 12 ∧ i = .int .i64 k ∧ o = u ∧ Hid (qs.length ≤ k) ∧ Hid (storeB (fsts qs) = true) ∧ RecsIn wr wr.heap.size u qs ∧ Cur wr p a len cap ∧ w.grownBy wr (some p)) (fun i _ _ => 13 - (intOf i).toNat)
  case atStart => exact ⟨0, [], _, by omega, rfl, rfl, hide (by simp), hide (by decide), R0.out, C0.out, G0.out⟩
  case round =>
    obtain ⟨k, qs, u, hk, rfl, rfl, HQL, HST, hown, hcr, hgr⟩ := hrel
    obtain ⟨ua, uc, rfl⟩ := owns_lenS hown.row
    have OW := hide hown
    have HCR := hide hcr
    have HGR := hide hgr
    clear hown hcr hgr
    go_wp2_with fail
    refine (below_any p a len cap 12 _ HCR.out (by omega) (by omega)).mono ?_
    rintro e w3 ⟨y, rfl, hy0, hy1, hc3, hg3⟩
    have OW3 := hide ((OW.out.cur HCR.out hg3).wide hg3.size)
    have G3 := hide (gro_same HGR.out hg3)
    have C3 := hide hc3
    clear hc3 hg3 OW HCR HGR
    by_cases hlt : (k : Int) < y
    · go_wp2_with fail
      refine (recR_any p a len cap _ C3.out).mono ?_
      rintro e w4 ⟨x, n1, rfl, ho4, hl4, hok4, hc4, hg4⟩
      have OW4 := (OW3.out.cur C3.out hg4).wide hg4.size
      have hst := store_ok HST.out
      have hq := HQL.out
      have hfl : (fsts qs).length = qs.length := by simp [fsts]
      have htq : tot qs ≤ 1048576 := by rw [tot_D]; have := store_tot HST.out; omega
      have HIN := sinst_any (.slice ua qs.length uc) qs w4.heap.size (x, n1) w4 OW4 (Nat.le_refl _) htq ⟨owns_baseS ho4 (Nat.zero_le _), fun k hk => (ho4.lt k hk).2⟩ (by show x.near.length ≤ 1048576; omega)
      have HN := hide (show storeB (fsts (instL qs (x, n1))) = true by rw [instL_fsts]; exact store_instD HST.out hok4 (by omega))
      have HLn := hide (show (instL qs (x, n1)).length ≤ k + 1 by
        have e1 : (fsts (instL qs (x, n1))).length = (instL qs (x, n1)).length := by simp [fsts]
        rw [instL_fsts] at e1
        have h5 := len_instD (fsts qs) x
        simp only [] at e1
        omega)
      have G4 := gro_same G3.out hg4
      obtain ⟨na, nc, rfl⟩ := owns_lenS ho4
      generalize instL qs (x, Value.slice na x.near.length nc) = qn at *
      obtain ⟨TT, hTT⟩ : ∃ T, T = takesB (fsts qs) (x, Value.slice na x.near.length nc).1 := ⟨_, rfl⟩
      rw [← hTT] at HIN
      have HI := hide HIN
      have HC4 := hide hc4
      have HG4 := hide G4
      clear HIN hst hok4 ho4 hc4 hg4 G4 OW4 OW3 G3 C3 HST HQL htq hfl hq hTT
      unfold recC at *
      go_wp2_with fail
      refine HI.out.mono ?_
      rintro e w5 ⟨x5, rfl, o5, b5⟩
      obtain ⟨x5a, x5c, rfl⟩ := owns_lenS o5.row
      have O5 := hide o5
      have C5 := hide (HC4.out.grown (grown_of_below b5) (fun b _ => by simp))
      have G5 := hide (gro_step HG4.out (grown_of_below b5) (fun k e => by cases e))
      clear o5 b5 HC4 HG4 HI
      go_wp2
      go_roundw
      case rel => exact ⟨k + 1, qn, _, by omega, by go_num, rfl, HLn, HN, O5.out, C5.out, G5.out⟩
      case measure => simp [intOf]; omega
    · go_wp2
      go_ret
      first
        | exact ⟨_, qs, rfl, OW3.out, HST.out, by have := HQL.out; omega, C3.out, G3.out⟩
        | exact ⟨_, rfl, qs, OW3.out, HST.out, by have := HQL.out; omega, C3.out, G3.out⟩

set_option maxRecDepth 100000 in
set_option maxHeartbeats 2000000 in
theorem drawStores_any (a : Option Addr) (len cap : Nat) (w : World) (hc : Code w a len w.heap.size) :
    Calls Try.prog 55 #[.slice a len cap] w fun e w' => ∃ (va vb : Value) (qa qb : List RP), e = .returned (.tuple #[va, vb]) ∧ RecsIn w' w'.heap.size va qa ∧ RecsIn w' w'.heap.size vb qb ∧ storeB (fsts qa) = true ∧ storeB (fsts qb) = true ∧ qa.length ≤ 12 ∧ qb.length ≤ 12 ∧ Below w.heap.size w w' := by
  have HC := hide hc
  clear hc
  go_enter Try.func55, Try.ntmps55
  go_wp2_with fail
  refine (new_any a len cap w HC.out).mono ?_
  rintro e w1 ⟨rfl, hc1, hb1⟩
  have C1 := hide hc1
  clear hc1 HC
  go_wp2_with fail
  refine (drawStore_any w.heap.size a len cap w1 C1.out).mono ?_
  rintro e w2 ⟨va, qa, rfl, oa, sa, la, hc2, hg2⟩
  obtain ⟨xa, xc, rfl⟩ := owns_lenS oa.row
  have B2 : Below w.heap.size w w2 := hb1.grown hg2 hb1.size (fun k hk => by simp at hk; omega)
  have OA := hide oa
  have SA := hide sa
  have LA := hide la
  have C2 := hide hc2
  clear oa sa la hc2 hg2 C1 hb1
  go_wp2_with fail
  refine (drawStore_any w.heap.size a len cap w2 C2.out).mono ?_
  rintro e w3 ⟨vb, qb, rfl, ob, sb, lb, hc3, hg3⟩
  obtain ⟨ya, yc, rfl⟩ := owns_lenS ob.row
  have B3 : Below w.heap.size w w3 := B2.grown hg3 B2.size (fun k hk => by simp at hk; omega)
  have OA3 := hide ((OA.out.cur C2.out hg3).wide hg3.size)
  have OB := hide ob
  have SB := hide sb
  have LB := hide lb
  clear ob sb lb hc3 hg3 OA C2
  go_wp2
  go_returns
  exact ⟨_, _, qa, qb, rfl, OA3.out, OB.out, SA.out, SB.out, LA.out, LB.out, B3⟩
end Go.Proofs.Ytmpfjlkncpckgaa
