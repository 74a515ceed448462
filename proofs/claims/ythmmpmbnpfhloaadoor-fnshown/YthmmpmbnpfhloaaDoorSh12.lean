/-
  Lists of records that may share the rows of others; spec.l04CopyList, impl.ownRecords.
  impl's order of records, lists in order, impl.StoreOk: their contracts.
  spec.l03In, l06Add: their contracts.
  spec.WayTo: its contract.
  One way more at the end of a list of the caller's own.
  Lists of numbers of the caller's own; laws.toIntS, eqIntS, markIntS, heldIntS over them.
  Lists of routes, each with a row of its own.
-/
import Derived.Test.YthmmpmbnpfhloaaDoorSh10
namespace Go.Proofs.YthmmpmbnpfhloaaDoor
open Go.RowKit

/-- a list whose records' rows are somebody's own, below hi -/
structure RecsIn (W : World) (hi : Nat) (v : Value) (ps : List RP) : Prop where
  row : W.ownsRow 0 81 8 v ps.length (flat encP ps)
  top : ∀ k, v.ownBlock = some k → k < hi
  nears : ∀ p ∈ ps, NearOwn W 0 hi p

theorem RecsOwn.in {W : World} {lo hi : Nat} {v : Value} {ps : List RP} (h : RecsOwn W lo hi v ps) : RecsIn W hi v ps := ⟨owns_baseS h.row (Nat.zero_le _), h.top, fun p hp => (h.nears p hp).wide (Nat.zero_le _) (Nat.le_refl _)⟩

theorem RecsIn.keep {W W' : World} {hi : Nat} {v : Value} {ps : List RP} (h : RecsIn W hi v ps) (hk : ∀ k, k < hi → k < W.heap.size → W'.heap[k]? = W.heap[k]?) : RecsIn W' hi v ps where
  row := owns_keepB h.row (fun k e => hk k (h.top k e) (h.row.lt k e).2)
  top := h.top
  nears := fun p hp => (h.nears p hp).keep (fun k _ h2 h3 => hk k h2 h3)

theorem RecsIn.below {W W' : World} {hi B : Nat} {v : Value} {ps : List RP} (h : RecsIn W hi v ps) (hb : Below B W W') (hB : hi ≤ B) : RecsIn W' hi v ps := h.keep (fun k h2 _ => hb.block k (by omega))

theorem RecsIn.wide {W : World} {hi hi' : Nat} {v : Value} {ps : List RP} (h : RecsIn W hi v ps) (hh : hi ≤ hi') : RecsIn W hi' v ps := ⟨h.row, fun k e => Nat.lt_of_lt_of_le (h.top k e) hh, fun p hp => (h.nears p hp).wide (Nat.le_refl _) hh⟩

theorem RecsIn.at {W : World} {hi : Nat} {v : Value} {ps : List RP} (h : RecsIn W hi v ps) : RecsAt W v ps hi := by
  refine ⟨?_, fun p hp => (h.nears p hp).at⟩
  have h1 := owns_rowAt h.row
  obtain ⟨a, cap, hv, h2⟩ := h1
  refine ⟨a, cap, hv, ?_⟩
  rcases h2 with h0 | ⟨b, off, ha, hb1, hx⟩
  · exact .inl h0
  · exact .inr ⟨b, off, ha, h.top b (by rw [hv, ha]; rfl), hx⟩

set_option maxRecDepth 100000 in
set_option maxHeartbeats 2000000 in
theorem copyList_any (v : Value) (ps : List RP) (hi : Nat) (w : World) (hv : RecsIn w hi v ps) (hhi : hi ≤ w.heap.size) (hn : tot ps ≤ 1048576) :
    Calls Tryd.prog 42 #[v] w fun e w' => ∃ x qs, e = .returned x ∧ fsts qs = fsts ps ∧ RecsOwn w' w.heap.size w'.heap.size x qs ∧ Below w.heap.size w w' := by
  have hnl := tot_len ps
  obtain ⟨a1, c1, rfl⟩ := owns_lenS hv.row
  have HV := hide hv
  clear hv
  have R0 := hide (recs_lit w w.heap.size (Nat.le_refl _))
  have B0 : Below w.heap.size w (w.alloc (.cells #[] 81)) := (Below.refl _ _).alloc (Nat.le_refl _) _
  go_enter Tryd.func42, Tryd.ntmps42
  go_wp2
  generalize w.alloc (.cells #[] 81) = w0 at *
  go_loopw [4, 3] (fun i o wr => ∃ (k : Nat) (qs : List RP) (u : Value), k ≤ ps.length ∧ i = .int .i64 k ∧ o = u ∧ fsts qs = fsts (ps.take k) ∧ RecsOwn wr w.heap.size wr.heap.size u qs ∧ Below w.heap.size w wr) (fun i _ _ => ps.length - (intOf i).toNat)
  case atStart => exact ⟨0, [], _, by omega, rfl, rfl, by simp [fsts], R0.out, B0⟩
  case round =>
    obtain ⟨k, qs, u, hk, rfl, rfl, hmap, hown, hnx⟩ := hrel
    obtain ⟨ua, uc, rfl⟩ := owns_lenS hown.row
    have hsz := hnx.size
    by_cases hlt : k < ps.length
    · obtain ⟨p, hp⟩ : ∃ p, ps[k]? = some p := ⟨ps[k], List.getElem?_eq_getElem hlt⟩
      have hat := HV.out.at
      obtain ⟨b, off, cap', hve, hbb, c0, c1, c2, c3, c4, c5, c6, c7, _⟩ := hat.cells k p hp
      cases hve
      rw [← hnx.cell (p := ⟨b, off + k * 8, none⟩) (Nat.lt_of_lt_of_le hbb hhi)] at c0
      rw [← hnx.cell (p := ⟨b, off + k * 8 + 1, none⟩) (Nat.lt_of_lt_of_le hbb hhi)] at c1
      rw [← hnx.cell (p := ⟨b, off + k * 8 + 2, none⟩) (Nat.lt_of_lt_of_le hbb hhi)] at c2
      rw [← hnx.cell (p := ⟨b, off + k * 8 + 3, none⟩) (Nat.lt_of_lt_of_le hbb hhi)] at c3
      rw [← hnx.cell (p := ⟨b, off + k * 8 + 4, none⟩) (Nat.lt_of_lt_of_le hbb hhi)] at c4
      rw [← hnx.cell (p := ⟨b, off + k * 8 + 5, none⟩) (Nat.lt_of_lt_of_le hbb hhi)] at c5
      rw [← hnx.cell (p := ⟨b, off + k * 8 + 6, none⟩) (Nat.lt_of_lt_of_le hbb hhi)] at c6
      rw [← hnx.cell (p := ⟨b, off + k * 8 + 7, none⟩) (Nat.lt_of_lt_of_le hbb hhi)] at c7
      have hno := (HV.out.nears p (List.mem_of_getElem? hp)).keep (W' := wr) (fun j _ h2 _ => hnx.block j (by omega))
      obtain ⟨pa, pc, hpn⟩ := owns_lenS hno.1
      have HC := copy5_any p.1 p.2 0 wr hno.1 (by have := tot_mem (List.mem_of_getElem? hp); omega)
      unfold recC at HC
      rw [hpn] at c5 HC
      have HCP := hide HC
      have HP := hide hp
      have HM := hide hmap
      have OW := hide hown
      have HQL := hide (show qs.length ≤ 1048576 by
        have h1 := congrArg List.length hmap
        simp [fsts] at h1
        omega)
      clear hp hmap hown hno hpn HC hat
      have hki : (0 : Int) ≤ (k : Int) := by omega
      have hkj : (k : Int) < (ps.length : Int) := by omega
      go_wp2_with fail
      refine HCP.out.mono ?_
      rintro e w2 ⟨v1, rfl, hn2, b2⟩
      obtain ⟨n1a, n1c, rfl⟩ := owns_lenS hn2
      have b2s := b2.size
      go_wp2_with (first
        | (at_builtin; refine append_struct5 encP_len (by omega) (by omega) _ rfl _ _ 67 rfl w.heap.size 81 Tryd.underlying67 (.agg (recC zeroRD (.slice none 0 0))) rfl Tryd.infoRec _ qs (p.1, .slice n1a p.1.near.length n1c) (encP_one _ _ _ _) rfl ((owns_below OW.out.row b2 (Nat.le_refl _)).alloc _) ⟨w2.heap.size, 0, none⟩ 1 rfl (news_struct (cs := encP (p.1, .slice n1a p.1.near.length n1c))) (by have := HQL.out; omega) (by simp; omega) ?_))
      intro v' w4 hown' hgrow
      have ow4 := OW.out.push (p := (p.1, .slice n1a p.1.near.length n1c)) (b2.alloc b2.size _) (by omega) (NearOwn.wide (NearOwn.keep ⟨hn2, fun k hk => (hn2.lt k hk).2⟩ (fun j _ _ h3 => Below.heap_alloc _ _ _ h3)) (Nat.le_refl _) (by simp)) hown' hgrow
      obtain ⟨va, vc, rfl⟩ := owns_lenS hown'
      have B4 : Below w.heap.size w w4 := ((hnx.trans (b2.mono hsz)).alloc (by omega) _).grown hgrow (by simp; omega) (fun k hk => (OW.out.row.lt k hk).1)
      have OW4 := hide ow4
      clear ow4 hown' hgrow hn2
      go_wp2
      go_roundw
      case rel => exact ⟨k + 1, qs ++ [(p.1, .slice n1a p.1.near.length n1c)], _, by omega, by go_num, rfl, by rw [show fsts (ps.take (k + 1)) = fsts (ps.take k) ++ [p.1] from map_take HP.out, ← HM.out]; simp [fsts], OW4.out, B4⟩
      case measure => simp [intOf]; omega
    · have hkn : k = ps.length := by omega
      have KN := hide hkn
      have OW := hide hown
      have HM := hide hmap
      clear hkn hown hmap
      go_wp2
      go_ret
      have h1 := HM.out
      rw [KN.out, List.take_length] at h1
      first
        | exact ⟨_, qs, rfl, h1, OW.out, hnx⟩
        | exact ⟨_, rfl, qs, h1, OW.out, hnx⟩

end Go.Proofs.YthmmpmbnpfhloaaDoor
namespace Go.Proofs.YthmmpmbnpfhloaaDoor
open Go.RowKit

def ordR (x y : RecD) : Int := cmpK (cmpN x.area y.area) (cmpN x.kind y.kind) (cmpN x.owner y.owner) (cmpN x.key y.key)

theorem ordR_neg (x y : RecD) : decide (ordR x y < 0) = beforeB x y := cmpK_neg x y

def storeB (xs : List RecD) : Bool := decide (xs.length ≤ 150) && allOk recOkB xs && ascB ordR xs

theorem store_long {xs : List RecD} (h : ¬ xs.length ≤ 150) : storeB xs = false := by unfold storeB; rw [decide_eq_false h]; rfl

theorem store_bad {xs : List RecD} {k : Nat} (hk : k < xs.length) (h : okAt recOkB xs k = false) : storeB xs = false := by unfold storeB allOk; rw [all_false hk h]; simp

end Go.Proofs.YthmmpmbnpfhloaaDoor
namespace Go.Proofs.YthmmpmbnpfhloaaDoor
open Go.RowKit

set_option linter.unusedSimpArgs false

theorem take_mem {l : List Int} {k : Nat} {z y : Int} (h : l[k]? = some y) (hn : z ∉ l.take k) (hz : z ≠ y) : z ∉ l.take (k + 1) := by
  obtain ⟨hk, e⟩ := List.getElem?_eq_some_iff.1 h
  rw [List.take_succ_eq_append_getElem hk, e]
  simp [hn, hz]

set_option maxRecDepth 100000 in
set_option maxHeartbeats 1000000 in
theorem sin_any (v : Value) (l : List Int) (z : Int) (w : World) (hn : l.length ≤ 1048576) (hv : HopsAt w v l w.heap.size) :
    Calls Tryd.prog 73 #[v, .int .i64 z] w fun e w' => e = .returned (.bool (decide (z ∈ l))) ∧ Below w.heap.size w w' := by
  obtain ⟨R, hR⟩ : ∃ R, R = decide (z ∈ l) := ⟨_, rfl⟩
  rw [← hR]
  have HR := hide hR
  clear hR
  obtain ⟨a, cap, rfl⟩ := hv.shape
  have HV := hide hv
  clear hv
  go_enter Tryd.func73, Tryd.ntmps73
  go_wp2
  go_loopw [5] (fun i wr => ∃ k : Nat, k ≤ l.length ∧ i = .int .i64 k ∧ Hid (z ∉ l.take k) ∧ Below w.heap.size w wr) (fun i _ => l.length - (intOf i).toNat)
  case atStart => exact ⟨0, by omega, rfl, hide (by simp), Below.refl _ _⟩
  case round =>
    obtain ⟨k, hk, rfl, HNO, hnx⟩ := hrel
    by_cases hlt : k < l.length
    · obtain ⟨y, hy⟩ : ∃ y, l[k]? = some y := ⟨l[k], List.getElem?_eq_getElem hlt⟩
      obtain ⟨b, off, cap', hve, hbb, c0⟩ := HV.out.cell k y hy
      cases hve
      rw [← hnx.cell (p := ⟨b, off + k, none⟩) hbb] at c0
      have hki : (0 : Int) ≤ (k : Int) := by omega
      have hkj : (k : Int) < (l.length : Int) := by omega
      by_cases hzy : z = y
      · subst hzy
        have HF := hide (show R = true by rw [HR.out]; exact decide_eq_true (List.mem_of_getElem? hy))
        clear hy
        go_wp2
        (try go_quiet (fail))
        (try go_wp2)
        go_ret
        exact ⟨ret_bool HF.out, by first | exact hnx | exact hnx.trans ⟨rfl, rfl, rfl, Nat.le_refl _, fun _ _ => rfl⟩⟩
      · have HN := hide (take_mem hy HNO.out hzy)
        have hyz : ¬ y = z := fun e => hzy e.symm
        have hd : (y == z) = false := by simpa using hyz
        clear hy
        go_wp2
        (try go_quiet (fail))
        (try go_wp2)
        go_roundw
        case rel => exact ⟨k + 1, by omega, by go_num, HN, by first | exact hnx | exact hnx.trans ⟨rfl, rfl, rfl, Nat.le_refl _, fun _ _ => rfl⟩⟩
        case measure => simp [intOf]; omega
    · have HF := hide (show R = false by
        rw [HR.out]
        have h := HNO.out
        rw [List.take_of_length_le (by omega)] at h
        exact decide_eq_false h)
      go_wp2
      go_ret
      exact ⟨ret_bool HF.out, hnx⟩

/-- the numbers of 1 .. k that stand in one of the two -/
def addT (a b : List Int) : Nat → List Int
  | 0 => []
  | k + 1 => addT a b k ++ (if (k : Int) + 1 ∈ a ∨ (k : Int) + 1 ∈ b then [(k : Int) + 1] else [])

def addL (a b : List Int) : List Int := addT a b 6

theorem addT_len (a b : List Int) (k : Nat) : (addT a b k).length ≤ k := by
  induction k with
  | zero => simp [addT]
  | succ k ih =>
    unfold addT
    rw [List.length_append]
    split <;> simp <;> omega

set_option maxRecDepth 100000 in
set_option maxHeartbeats 2000000 in
theorem sadd_any (v1 v2 : Value) (xs ys : List Int) (w : World) (hx : xs.length ≤ 1048576) (hy : ys.length ≤ 1048576) (h1 : HopsAt w v1 xs w.heap.size) (h2 : HopsAt w v2 ys w.heap.size) :
    Calls Tryd.prog 62 #[v1, v2] w fun e w' => ∃ x, e = .returned x ∧ w'.ownsRow w.heap.size 3 1 x (addL xs ys).length (flat intE (addL xs ys)) ∧ Below w.heap.size w w' := by
  obtain ⟨a1, c1, rfl⟩ := h1.shape
  obtain ⟨a2, c2, rfl⟩ := h2.shape
  have HI1 := hide (fun z W (hb : Below w.heap.size w W) => sin_any (.slice a1 xs.length c1) xs z W hx ((RowAt.later h1 hb (Nat.le_refl _)).more hb.size))
  have HI2 := hide (fun z W (hb : Below w.heap.size w W) => sin_any (.slice a2 ys.length c2) ys z W hy ((RowAt.later h2 hb (Nat.le_refl _)).more hb.size))
  have O0 := hide (own_litI w w.heap.size w.heap.size rfl (Nat.le_refl _))
  have B0 : Below w.heap.size w (w.alloc (.cells #[] 3)) := (Below.refl _ _).alloc (Nat.le_refl _) _
  clear h1 h2
  go_enter Tryd.func62, Tryd.ntmps62
  go_wp2
  generalize w.alloc (.cells #[] 3) = w0 at *
  go_loopw [6, 5] (fun i o wr => ∃ (k : Nat) (l : List Int) (u : Value), k ≤ 6 ∧ i = .int .i64 ((k : Int) + 1) ∧ o = u ∧ Hid (l = addT xs ys k) ∧ wr.ownsRow w.heap.size 3 1 u l.length (flat intE l) ∧ Below w.heap.size w wr) (fun i _ _ => 8 - (intOf i).toNat)
  case atStart => exact ⟨0, [], _, by omega, rfl, rfl, hide rfl, O0.out, B0⟩
  case round =>
    obtain ⟨k, l, u, hk, rfl, rfl, HL, hown, hnx⟩ := hrel
    obtain ⟨ua, uc, rfl⟩ := owns_lenS hown
    have hsz := hnx.size
    have hll : l.length ≤ 6 := by rw [HL.out]; have := addT_len xs ys k; omega
    have OW := hide hown
    clear hown
    by_cases hlt : k < 6
    · have hk6 : (k : Int) + 1 ≤ 6 := by omega
      have hw1 : IntKind.i64.wrap ((k : Int) + 1 + 1) = ((k + 1 : Nat) : Int) + 1 := by rw [wrap_fit _ (by omega) (by omega)]; omega
      obtain ⟨P, hP⟩ : ∃ P, P = decide ((k : Int) + 1 ∈ xs) := ⟨_, rfl⟩
      obtain ⟨Q, hQ⟩ : ∃ Q, Q = decide ((k : Int) + 1 ∈ ys) := ⟨_, rfl⟩
      have H1 := HI1.out ((k : Int) + 1)
      have H2 := HI2.out ((k : Int) + 1)
      rw [← hP] at H1
      rw [← hQ] at H2
      have J1 := hide H1
      have J2 := hide H2
      have HST := hide (show addT xs ys (k + 1) = l ++ (if P = true ∨ Q = true then [(k : Int) + 1] else []) by
        rw [HL.out, hP, hQ]
        simp [addT])
      clear H1 H2 hP hQ HI1 HI2
      cases P
      · go_wp2_with fail
        refine (J1.out _ hnx).mono ?_
        rintro e w2 ⟨rfl, b2⟩
        have b2s := b2.size
        go_wp2_with fail
        refine (J2.out _ (hnx.trans (b2.mono hsz))).mono ?_
        rintro e w3 ⟨rfl, b3⟩
        have b3s := b3.size
        have B3 : Below wr.heap.size wr w3 := b2.trans (b3.mono b2s)
        clear b2 b3
        cases Q
        · have HN := hide (show l = addT xs ys (k + 1) by rw [HST.out]; simp)
          have OW3 := hide (owns_below OW.out B3 (Nat.le_refl _))
          go_wp2
          go_roundw
          case rel => exact ⟨k + 1, l, _, by omega, rfl, rfl, HN, OW3.out, hnx.trans (B3.mono hsz)⟩
          case measure => simp [intOf]; omega
        · have HN := hide (show l ++ [(k : Int) + 1] = addT xs ys (k + 1) by rw [HST.out]; simp)
          go_wp2_with (first
            | (at_builtin; refine append_struct5 intE_len (by omega) (by omega) _ rfl _ _ 24 rfl w.heap.size 3 Tryd.underlying24 (.int .i64 0) rfl Tryd.info3 _ l ((k : Int) + 1) (intE_one _) rfl ((owns_below OW.out B3 (Nat.le_refl _)).alloc _) ⟨w3.heap.size, 0, none⟩ 1 rfl (news_struct (cs := intE ((k : Int) + 1))) (by omega) (by simp; omega) ?_))
          intro v' w4 hown' hgrow
          obtain ⟨va, vc, rfl⟩ := owns_lenS hown'
          have B4 : Below w.heap.size w w4 := ((hnx.trans (B3.mono hsz)).alloc (by omega) _).grown hgrow (by simp; omega) (fun j hj => (OW.out.lt j hj).1)
          have OW4 := hide hown'
          clear hown' hgrow
          go_wp2
          go_roundw
          case rel => exact ⟨k + 1, l ++ [(k : Int) + 1], _, by omega, rfl, rfl, HN, (by simpa using OW4.out), B4⟩
          case measure => simp [intOf]; omega
      · have HN := hide (show l ++ [(k : Int) + 1] = addT xs ys (k + 1) by rw [HST.out]; simp)
        go_wp2_with fail
        refine (J1.out _ hnx).mono ?_
        rintro e w3 ⟨rfl, B3⟩
        have b3s := B3.size
        go_wp2_with (first
          | (at_builtin; refine append_struct5 intE_len (by omega) (by omega) _ rfl _ _ 24 rfl w.heap.size 3 Tryd.underlying24 (.int .i64 0) rfl Tryd.info3 _ l ((k : Int) + 1) (intE_one _) rfl ((owns_below OW.out B3 (Nat.le_refl _)).alloc _) ⟨w3.heap.size, 0, none⟩ 1 rfl (news_struct (cs := intE ((k : Int) + 1))) (by omega) (by simp; omega) ?_))
        intro v' w4 hown' hgrow
        obtain ⟨va, vc, rfl⟩ := owns_lenS hown'
        have B4 : Below w.heap.size w w4 := ((hnx.trans (B3.mono hsz)).alloc (by omega) _).grown hgrow (by simp; omega) (fun j hj => (OW.out.lt j hj).1)
        have OW4 := hide hown'
        clear hown' hgrow
        go_wp2
        go_roundw
        case rel => exact ⟨k + 1, l ++ [(k : Int) + 1], _, by omega, rfl, rfl, HN, (by simpa using OW4.out), B4⟩
        case measure => simp [intOf]; omega
    · have hk6 : ¬ (k : Int) + 1 ≤ 6 := by omega
      have KN := hide (show l = addL xs ys by rw [HL.out, show k = 6 by omega]; rfl)
      go_wp2
      go_ret
      have h := OW.out
      rw [KN.out] at h
      exact ⟨_, by rw [KN.out]; rfl, h, hnx⟩
end Go.Proofs.YthmmpmbnpfhloaaDoor
namespace Go.Proofs.YthmmpmbnpfhloaaDoor
open Go.RowKit

set_option linter.unusedSimpArgs false

theorem results_cell_row_tmpW {P : Program} {fn : Func} {p u : Tmp} {ty : TypeId} (h : fn.results = #[.cell p ty, .tmp u]) (tmps : Array Value) (w : World) (g : Nat) (t : TypeId) (cs : Array Value) (fr : Nat × Nat) (d : TypeDesc)
    (hp : tmps.getD p undef = .pointer (some ⟨g, 0, none⟩)) (hg : w.heap[g]? = some (.cells cs t fr))
    (hu : P.underlying ty = some d) (hd : (match d with | .struct _ | .array _ _ => true | _ => false) = true) (hi : (P.info? ty).map (·.size) = some cs.size) :
    (results fn tmps).run P w = .ok (.tuple #[.agg cs, tmps.getD u undef]) w := by
  have hp' : tmps[p]?.getD undef = .pointer (some ⟨g, 0, none⟩) := by simpa using hp
  rw [results_cell_tmp h]
  simp [hp', asAddr, run_loadVar_row w g t ty cs fr d hg hu hd hi]

/-- the first way to z -/
def wayToD (xs : List WayD) (z : Int) : WayD := (xs.find? (fun x => x.to == z)).getD zeroWD

def wayToB (xs : List WayD) (z : Int) : Bool := (xs.find? (fun x => x.to == z)).isSome

theorem wayTo_hit {ps : List WP} {k : Nat} {p : WP} {z : Int} (h : ps[k]? = some p) (hno : ∀ q ∈ ps.take k, q.1.to ≠ z) (hz : p.1.to = z) : wayToD (fstsW ps) z = p.1 ∧ wayToB (fstsW ps) z = true := by
  have e : (fstsW ps).find? (fun x => x.to == z) = some p.1 := by
    have h1 := fstsW_at h
    obtain ⟨hk, e1⟩ := List.getElem?_eq_some_iff.1 h1
    rw [List.find?_eq_some_iff_append]
    refine ⟨by simpa using hz, (fstsW ps).take k, (fstsW ps).drop (k + 1), ?_, ?_⟩
    · rw [← e1, ← List.drop_eq_getElem_cons hk, List.take_append_drop]
    · intro x hx
      have e2 : (fstsW ps).take k = fstsW (ps.take k) := by simp [fstsW]
      rw [e2] at hx
      simp only [fstsW, List.mem_map] at hx
      obtain ⟨q, hq, rfl⟩ := hx
      simpa using hno q hq
  unfold wayToD wayToB
  rw [e]
  exact ⟨rfl, rfl⟩

theorem wayTo_none {ps : List WP} {z : Int} (hno : ∀ q ∈ ps, q.1.to ≠ z) : wayToD (fstsW ps) z = zeroWD ∧ wayToB (fstsW ps) z = false := by
  have e : (fstsW ps).find? (fun x => x.to == z) = none := by
    rw [List.find?_eq_none]
    intro x hx
    simp only [fstsW, List.mem_map] at hx
    obtain ⟨q, hq, rfl⟩ := hx
    simpa using hno q hq
  unfold wayToD wayToB
  rw [e]
  exact ⟨rfl, rfl⟩

theorem take_all {ps : List WP} {k : Nat} {p : WP} {z : Int} (h : ps[k]? = some p) (hno : ∀ q ∈ ps.take k, q.1.to ≠ z) (hz : p.1.to ≠ z) : ∀ q ∈ ps.take (k + 1), q.1.to ≠ z := by
  obtain ⟨hk, e⟩ := List.getElem?_eq_some_iff.1 h
  rw [List.take_succ_eq_append_getElem hk, e]
  intro q hq
  rcases List.mem_append.1 hq with h1 | h1
  · exact hno q h1
  · have : q = p := by simpa using h1
    subst this
    exact hz

set_option maxRecDepth 100000 in
set_option maxHeartbeats 2000000 in
theorem swayTo_any (v : Value) (ps : List WP) (lo hi : Nat) (z : Int) (w : World) (hv : WaysOwn w lo hi v ps) (hhi : hi ≤ w.heap.size) (hn : totW ps ≤ 1048576) :
    Calls Tryd.prog 57 #[v, .int .i64 z] w fun e w' => ∃ u, e = .returned (.tuple #[.agg (wayC (wayToD (fstsW ps) z) u), .bool (wayToB (fstsW ps) z)]) ∧ w'.ownsRow w.heap.size 3 1 u (wayToD (fstsW ps) z).hops.length (flat intE (wayToD (fstsW ps) z).hops) ∧ Below w.heap.size w w' := by
  have hnl := totW_len ps
  obtain ⟨D, hD⟩ : ∃ D, D = wayToD (fstsW ps) z := ⟨_, rfl⟩
  obtain ⟨F, hF⟩ : ∃ F, F = wayToB (fstsW ps) z := ⟨_, rfl⟩
  rw [← hD, ← hF]
  have HD := hide hD
  have HF := hide hF
  clear hD hF
  obtain ⟨a1, c1, rfl⟩ := owns_lenS hv.row
  have HV := hide hv
  clear hv
  have BX : Below w.heap.size w (w.alloc (.cells #[.int .i64 0, .int .i64 0, .slice none 0 0] 93)) := (Below.refl _ _).alloc (Nat.le_refl _) _
  have hq := heap_alloc_new w (.cells #[.int .i64 0, .int .i64 0, .slice none 0 0] 93)
  obtain ⟨w0, hw0⟩ : ∃ W, W = w.alloc (.cells #[.int .i64 0, .int .i64 0, .slice none 0 0] 93) := ⟨_, rfl⟩
  rw [← hw0] at BX hq
  have hs0 := lt_of_heap hq
  have HQ := hide hq
  clear hq
  unfold wayC
  go_enter Tryd.func57, Tryd.ntmps57
  go_wp2
  rw [← hw0]
  clear hw0
  go_loopw [6] (fun i wr => ∃ k : Nat, k ≤ ps.length ∧ i = .int .i64 k ∧ Hid (∀ q ∈ ps.take k, q.1.to ≠ z) ∧ Below w0.heap.size w0 wr) (fun i _ => ps.length - (intOf i).toNat)
  case atStart => exact ⟨0, by omega, rfl, hide (by simp), Below.refl _ _⟩
  case round =>
    obtain ⟨k, hk, rfl, HNO, hnx⟩ := hrel
    have hsz := hnx.size
    have BWR : Below w.heap.size w wr := BX.trans (hnx.mono (by omega))
    have hz1 := (hnx.block _ hs0).trans HQ.out
    by_cases hlt : k < ps.length
    · obtain ⟨p, hp⟩ : ∃ p, ps[k]? = some p := ⟨ps[k], List.getElem?_eq_getElem hlt⟩
      obtain ⟨b, off, cp, hve, hbb, c0, c1, c2, _⟩ := HV.out.at.cells k p hp
      cases hve
      have hbw : b < w.heap.size := by omega
      have hno := HV.out.nears p (List.mem_of_getElem? hp)
      obtain ⟨pa, pc, hpn⟩ := owns_lenS hno.1
      have HCP := hide (fun W (hb : Below w.heap.size w W) => copyW_any p.1 p.2 lo W (owns_below hno.1 hb (Nat.le_refl _)) (by have := totW_mem (List.mem_of_getElem? hp); omega))
      unfold wayC at HCP
      rw [hpn] at c2 HCP
      rw [← BWR.cell (p := ⟨b, off + k * 3, none⟩) hbw] at c0
      rw [← BWR.cell (p := ⟨b, off + k * 3 + 1, none⟩) hbw] at c1
      rw [← BWR.cell (p := ⟨b, off + k * 3 + 2, none⟩) hbw] at c2
      have hki : (0 : Int) ≤ (k : Int) := by omega
      have hkj : (k : Int) < (ps.length : Int) := by omega
      by_cases hzz : p.1.to = z
      · have hh := wayTo_hit hp HNO.out hzz
        have hDe : D = p.1 := HD.out.trans hh.1
        have hFe : F = true := HF.out.trans hh.2
        subst hDe hFe
        subst hzz
        clear hp hno hpn hh
        go_wp2_with fail
        refine (HCP.out _ BWR).mono ?_
        rintro e w2 ⟨v1, rfl, hn2, b2⟩
        obtain ⟨na, nc, rfl⟩ := owns_lenS hn2
        have b2s := b2.size
        have hz2 := (b2.block _ (lt_of_heap hz1)).trans hz1
        have u0 := cells_at hz2 0
        have u1 := cells_at hz2 1
        have u2 := cells_at hz2 2
        simp at u0 u1 u2
        have fu := frozen_at hz2
        have FF := hide (finW3 p.1 (.slice na p.1.hops.length nc) hz2)
        have G8 := grownW3 w2 w.heap.size p.1 (.slice na p.1.hops.length nc)
        have O3 := hide (owns_baseS (b0 := w.heap.size) (hn2.kept G8 (by
          cases hv : (Value.slice na p.1.hops.length nc).ownBlock with
          | none => exact .inl rfl
          | some g => exact .inr (fun e => by have := (hn2.lt g hv).1; simp at e; omega))) (by omega))
        have B2 : Below w.heap.size w w2 := BWR.trans (b2.mono (by omega))
        have BF := hide (B2.grown G8 B2.size (fun k hk => by simp at hk; omega))
        clear hz2 hn2 b2 G8 hz1
        go_wp2_with fail
        (try simp only [Exit.inBlock, Exit.then])
        refine bodyPost_ret (results_cell_row_tmpW rfl _ _ w.heap.size 93 (wayC p.1 (.slice na p.1.hops.length nc)) (0, 0) _ rfl FF.out Tryd.underlying93 rfl (by kernel_rfl)) rfl ?_
        exact ⟨_, rfl, O3.out, BF.out⟩
      · have HN := hide (take_all hp HNO.out hzz)
        have hd : (p.1.to == z) = false := by simpa using hzz
        clear hp hno hpn hz1
        go_wp2
        go_roundw
        case rel => exact ⟨k + 1, by omega, by go_num, HN, hnx⟩
        case measure => simp [intOf]; omega
    · have hh := wayTo_none (ps := ps) (z := z) (by have h := HNO.out; rw [List.take_of_length_le (by omega)] at h; exact h)
      have hDe : D = zeroWD := HD.out.trans hh.1
      have hFe : F = false := HF.out.trans hh.2
      subst hDe hFe
      have u0 := cells_at hz1 0
      have u1 := cells_at hz1 1
      have u2 := cells_at hz1 2
      simp at u0 u1 u2
      have fu := frozen_at hz1
      have FF := hide (finW3 zeroWD (.slice none 0 0) hz1)
      have G8 := hide (grownW3 wr w.heap.size zeroWD (.slice none 0 0))
      clear hz1 hh
      go_wp2_with fail
      (try simp only [Exit.inBlock, Exit.then])
      refine bodyPost_ret (results_cell_row_tmpW rfl _ _ w.heap.size 93 (wayC zeroWD (.slice none 0 0)) (0, 0) _ rfl FF.out Tryd.underlying93 rfl (by kernel_rfl)) rfl ?_
      exact ⟨.slice none 0 0, rfl, World.ownsRow_nil _ _ _ _, BWR.grown G8.out BWR.size (fun k hk => by simp at hk; omega)⟩
end Go.Proofs.YthmmpmbnpfhloaaDoor
namespace Go.Proofs.YthmmpmbnpfhloaaDoor
open Go.RowKit

theorem encW_one (x : WayD) (a : Option Addr) (n c : Nat) : ∀ u ∈ encW (x, .slice a n c), u.oneCell' = true := by
  intro u hu
  simp only [encW, List.mem_cons, List.not_mem_nil, or_false] at hu
  rcases hu with rfl | rfl | rfl <;> rfl

theorem hop_row_ne {W : World} {lo lo2 hi n size2 : Nat} {v : Value} {xs : List Value} {q : WP} (hq : HopOwn W lo hi q) (hr : W.ownsRow lo2 93 size2 v n xs) (j : Nat) (hj : q.2.ownBlock = some j) : some j ≠ v.ownBlock := by
  intro e
  rcases hr.2 with ⟨h0, _⟩ | ⟨g, cap, cur, hv, _, hh, _⟩
  · rw [h0] at e; simp [Value.ownBlock] at e
  · rw [hv] at e
    simp [Value.ownBlock] at e
    subst e
    exact own_type_ne2 hq.1 hh (by decide) hj.symm

/-- one more way, its row behind all that was there -/
theorem WaysOwn.push {W Wa W2 : World} {lo : Nat} {v v' : Value} {qs : List WP} {p : WP} (h : WaysOwn W lo W.heap.size v qs) (hb : Below W.heap.size W Wa) (hlo : lo ≤ W.heap.size) (hp : HopOwn Wa W.heap.size Wa.heap.size p)
    (row : W2.ownsRow lo 93 3 v' (qs.length + 1) (flat encW (qs ++ [p]))) (hg : Wa.grownBy W2 v.ownBlock) : WaysOwn W2 lo W2.heap.size v' (qs ++ [p]) where
  row := by simpa using row
  top := fun k hk => (row.lt k hk).2
  apart := apartW_add h.apart h.nears (fun k hk => (hp.1.lt k hk).1)
  nears := by
    have rowa := owns_below h.row hb (Nat.le_refl _)
    have key : ∀ q, HopOwn Wa lo Wa.heap.size q → HopOwn W2 lo W2.heap.size q := fun q hq =>
      ⟨owns_keepB hq.1 (fun j hj => hg.block j (hq.2 j hj) (hop_row_ne hq rowa j hj)), fun k hk => Nat.lt_of_lt_of_le (hq.2 k hk) hg.size⟩
    intro q hq
    rcases List.mem_append.1 hq with h1 | h1
    · exact key q (((h.nears q h1).keep (W' := Wa) (fun j _ h2 _ => hb.block j h2)).wide (Nat.le_refl _) hb.size)
    · have : q = p := by simpa using h1
      subst this
      exact key q (hp.wide hlo (Nat.le_refl _))
end Go.Proofs.YthmmpmbnpfhloaaDoor
namespace Go.Proofs.YthmmpmbnpfhloaaDoor
open Go.RowKit

/-- a row of numbers of the caller's own, in blocks of lo .. hi -/
structure IntsOwn (W : World) (lo hi : Nat) (v : Value) (l : List Int) : Prop where
  row : W.ownsRow lo 3 1 v l.length (flat intE l)
  top : ∀ k, v.ownBlock = some k → k < hi

theorem IntsOwn.keep {W W' : World} {lo hi : Nat} {v : Value} {l : List Int} (h : IntsOwn W lo hi v l) (hk : ∀ k, lo ≤ k → k < hi → k < W.heap.size → W'.heap[k]? = W.heap[k]?) : IntsOwn W' lo hi v l :=
  ⟨owns_keepB h.row (fun k e => hk k (h.row.lt k e).1 (h.top k e) (h.row.lt k e).2), h.top⟩

theorem IntsOwn.below {W W' : World} {lo hi B : Nat} {v : Value} {l : List Int} (h : IntsOwn W lo hi v l) (hb : Below B W W') (hB : hi ≤ B) : IntsOwn W' lo hi v l := h.keep (fun k _ h2 _ => hb.block k (by omega))

theorem IntsOwn.frame {W W' : World} {lo hi l2 h2 : Nat} {v : Value} {l : List Int} (h : IntsOwn W lo hi v l) (hb : Frame l2 h2 W W') (hB : hi ≤ l2 ∨ h2 ≤ lo) : IntsOwn W' lo hi v l := h.keep (fun k h1 h2 h3 => hb.block k h3 (by omega))

theorem IntsOwn.wide {W : World} {lo hi lo' hi' : Nat} {v : Value} {l : List Int} (h : IntsOwn W lo hi v l) (hl : lo' ≤ lo) (hh : hi ≤ hi') : IntsOwn W lo' hi' v l := ⟨owns_baseS h.row hl, fun k e => Nat.lt_of_lt_of_le (h.top k e) hh⟩

theorem IntsOwn.at {W : World} {lo hi : Nat} {v : Value} {l : List Int} (h : IntsOwn W lo hi v l) : HopsAt W v l hi := by
  obtain ⟨a, cap, hv, h2⟩ := owns_rowAt h.row
  refine ⟨a, cap, hv, ?_⟩
  rcases h2 with h0 | ⟨b, off, ha, hb1, hx⟩
  · exact .inl h0
  · exact .inr ⟨b, off, ha, h.top b (by rw [hv, ha]; rfl), hx⟩

theorem IntsOwn.of {W : World} {lo : Nat} {v : Value} {l : List Int} (h : W.ownsRow lo 3 1 v l.length (flat intE l)) : IntsOwn W lo W.heap.size v l := ⟨h, fun k e => (h.lt k e).2⟩

end Go.Proofs.YthmmpmbnpfhloaaDoor
namespace Go.Proofs.YthmmpmbnpfhloaaDoor
open Go.RowKit

/-- a way, and the value of its row -/
abbrev QP := RtD × Value

def encQ (p : QP) : List Value := [.bool p.1.thing, .int .i64 p.1.to, .int .i64 p.1.kind, .int .i64 p.1.cost, .int .i64 p.1.far, p.2]

def zeroQD : RtD := ⟨false, 0, 0, 0, 0, []⟩

theorem encQ_len (p : QP) : (encQ p).length = 6 := rfl

/-- a list to read: its cells, and each record's row, below B -/
def RtsAt (W : World) (v : Value) (ps : List QP) (B : Nat) : Prop := StructsAt encQ 6 W v ps B ∧ ∀ p ∈ ps, HopsAt W p.2 p.1.hops B

theorem RtsAt.shape {W : World} {v : Value} {ps : List QP} {B : Nat} (h : RtsAt W v ps B) : ∃ a cap, v = .slice a ps.length cap := by
  obtain ⟨⟨a, cap, h, _⟩, _⟩ := h
  exact ⟨a, cap, h⟩

theorem RtsAt.later {W W' : World} {v : Value} {ps : List QP} {B C : Nat} (h : RtsAt W v ps B) (hb : Below C W W') (hBC : B ≤ C) : RtsAt W' v ps B :=
  ⟨RowAt.later h.1 hb hBC, fun p hp => RowAt.later (h.2 p hp) hb hBC⟩

theorem RtsAt.more {W : World} {v : Value} {ps : List QP} {B C : Nat} (h : RtsAt W v ps B) (hBC : B ≤ C) : RtsAt W v ps C :=
  ⟨RowAt.more h.1 hBC, fun p hp => RowAt.more (h.2 p hp) hBC⟩

theorem RtsAt.then {W W' : World} {v : Value} {ps : List QP} (h : RtsAt W v ps W.heap.size) (hb : Below W.heap.size W W') : RtsAt W' v ps W'.heap.size := (h.later hb (Nat.le_refl _)).more hb.size

/-- its row is the caller's own, in blocks of lo .. hi -/
def RHopOwn (W : World) (lo hi : Nat) (p : QP) : Prop := W.ownsRow lo 3 1 p.2 p.1.hops.length (flat intE p.1.hops) ∧ ∀ k, p.2.ownBlock = some k → k < hi

def ApartQ (p q : QP) : Prop := ∀ k, p.2.ownBlock = some k → q.2.ownBlock ≠ some k

/-- a list of the caller's own: its row and those of its records, no two in one block, all in blocks of lo .. hi -/
structure RtsOwn (W : World) (lo hi : Nat) (v : Value) (ps : List QP) : Prop where
  row : W.ownsRow lo 26 6 v ps.length (flat encQ ps)
  top : ∀ k, v.ownBlock = some k → k < hi
  nears : ∀ p ∈ ps, RHopOwn W lo hi p
  apart : ps.Pairwise ApartQ

theorem RHopOwn.keep {W W' : World} {lo hi : Nat} {p : QP} (h : RHopOwn W lo hi p) (hk : ∀ k, lo ≤ k → k < hi → k < W.heap.size → W'.heap[k]? = W.heap[k]?) : RHopOwn W' lo hi p :=
  ⟨owns_keepB h.1 (fun k e => hk k (h.1.lt k e).1 (h.2 k e) (h.1.lt k e).2), h.2⟩

theorem RHopOwn.wide {W : World} {lo hi lo' hi' : Nat} {p : QP} (h : RHopOwn W lo hi p) (hl : lo' ≤ lo) (hh : hi ≤ hi') : RHopOwn W lo' hi' p :=
  ⟨owns_baseS h.1 hl, fun k e => Nat.lt_of_lt_of_le (h.2 k e) hh⟩

theorem RHopOwn.at {W : World} {lo hi : Nat} {p : QP} (h : RHopOwn W lo hi p) : HopsAt W p.2 p.1.hops hi := by
  have h1 := owns_rowAt h.1
  obtain ⟨a, cap, hv, h2⟩ := h1
  refine ⟨a, cap, hv, ?_⟩
  rcases h2 with h0 | ⟨b, off, ha, hb1, hx⟩
  · exact .inl h0
  · exact .inr ⟨b, off, ha, h.2 b (by rw [hv, ha]; rfl), hx⟩

theorem RtsOwn.keep {W W' : World} {lo hi : Nat} {v : Value} {ps : List QP} (h : RtsOwn W lo hi v ps) (hk : ∀ k, lo ≤ k → k < hi → k < W.heap.size → W'.heap[k]? = W.heap[k]?) : RtsOwn W' lo hi v ps where
  row := owns_keepB h.row (fun k e => hk k (h.row.lt k e).1 (h.top k e) (h.row.lt k e).2)
  top := h.top
  nears := fun p hp => (h.nears p hp).keep hk
  apart := h.apart

theorem RtsOwn.below {W W' : World} {lo hi B : Nat} {v : Value} {ps : List QP} (h : RtsOwn W lo hi v ps) (hb : Below B W W') (hB : hi ≤ B) : RtsOwn W' lo hi v ps := h.keep (fun k _ h2 _ => hb.block k (by omega))

theorem RtsOwn.wide {W : World} {lo hi lo' hi' : Nat} {v : Value} {ps : List QP} (h : RtsOwn W lo hi v ps) (hl : lo' ≤ lo) (hh : hi ≤ hi') : RtsOwn W lo' hi' v ps where
  row := owns_baseS h.row hl
  top := fun k e => Nat.lt_of_lt_of_le (h.top k e) hh
  nears := fun p hp => (h.nears p hp).wide hl hh
  apart := h.apart

theorem RtsOwn.at {W : World} {lo hi : Nat} {v : Value} {ps : List QP} (h : RtsOwn W lo hi v ps) : RtsAt W v ps hi := by
  refine ⟨?_, fun p hp => (h.nears p hp).at⟩
  have h1 := owns_rowAt h.row
  obtain ⟨a, cap, hv, h2⟩ := h1
  refine ⟨a, cap, hv, ?_⟩
  rcases h2 with h0 | ⟨b, off, ha, hb1, hx⟩
  · exact .inl h0
  · exact .inr ⟨b, off, ha, h.top b (by rw [hv, ha]; rfl), hx⟩

theorem RtsOwn.frame {W W' : World} {lo hi l2 h2 : Nat} {v : Value} {ps : List QP} (h : RtsOwn W lo hi v ps) (hb : Frame l2 h2 W W') (hB : hi ≤ l2 ∨ h2 ≤ lo) : RtsOwn W' lo hi v ps := h.keep (fun k h1 h2 h3 => hb.block k h3 (by omega))

/-- how many numbers a list has -/
def totQ (ps : List QP) : Nat := (ps.map (fun p => 1 + p.1.hops.length)).sum

theorem totQ_cons (p : QP) (ps : List QP) : totQ (p :: ps) = 1 + p.1.hops.length + totQ ps := by simp [totQ]

theorem totQ_len (ps : List QP) : ps.length ≤ totQ ps := by
  induction ps with
  | nil => simp [totQ]
  | cons p ps ih => rw [totQ_cons, List.length_cons]; omega

theorem RtsAt.cells {W : World} {v : Value} {ps : List QP} {B : Nat} (h : RtsAt W v ps B) (i : Nat) (p : QP) (hp : ps[i]? = some p) :
    ∃ b off cap, v = .slice (some ⟨b, off, none⟩) ps.length cap ∧ b < B ∧ W.cell? ⟨b, off + i * 6, none⟩ = some (.bool p.1.thing) ∧ W.cell? ⟨b, off + i * 6 + 1, none⟩ = some (.int .i64 p.1.to) ∧ W.cell? ⟨b, off + i * 6 + 2, none⟩ = some (.int .i64 p.1.kind) ∧ W.cell? ⟨b, off + i * 6 + 3, none⟩ = some (.int .i64 p.1.cost) ∧ W.cell? ⟨b, off + i * 6 + 4, none⟩ = some (.int .i64 p.1.far) ∧ W.cell? ⟨b, off + i * 6 + 5, none⟩ = some p.2 ∧ HopsAt W p.2 p.1.hops B := by
  obtain ⟨b, off, cap, hv, hb, hc⟩ := StructsAt.cell h.1 encQ_len i p hp
  exact ⟨b, off, cap, hv, hb, hc 0 _ rfl, hc 1 _ rfl, hc 2 _ rfl, hc 3 _ rfl, hc 4 _ rfl, hc 5 _ rfl, h.2 p (List.mem_of_getElem? hp)⟩

end Go.Proofs.YthmmpmbnpfhloaaDoor
