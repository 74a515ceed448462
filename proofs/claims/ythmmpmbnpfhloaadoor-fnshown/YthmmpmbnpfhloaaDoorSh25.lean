/-
  spec.WaysIn: its contract.
-/
import Derived.Test.YthmmpmbnpfhloaaDoorSh23
namespace Go.Proofs.YthmmpmbnpfhloaaDoor
open Go.RowKit

set_option linter.unusedSimpArgs false

theorem Tryd.infoI : (Tryd.prog.info? 24).map (fun i => (i.zero, i.size, i.bytes)) = some (some (.slice none 0 0), 1, 24) := by kernel_rfl
theorem Tryd.infoBl : (Tryd.prog.info? 4).map (fun i => (i.zero, i.size, i.bytes)) = some (some (.bool false), 1, 1) := by kernel_rfl

theorem drewB {B : Nat} {w W : World} (h : Below B w W) : Below B w W.drew := h.trans ⟨rfl, rfl, rfl, Nat.le_refl _, fun _ _ => rfl⟩

theorem bdrewM (n : Nat) (w : World) : Below w.heap.size w (w.drewN n) := ⟨rfl, rfl, rfl, Nat.le_refl _, fun _ _ => rfl⟩

theorem SSt.grow {W W' : World} {g b lo n : Nat} {o : Nat → Nat → Int} {F : Nat → Bool} {c : Nat → Int} {h : Nat → List Int} {hv : Nat → Value} {u : Value} {xs : List Value} (s : SSt W g b o F c h hv) (hr : W.ownsRow lo 93 3 u n xs) (hk : ∀ k, k < W.heap.size → some k ≠ u.ownBlock → W'.heap[k]? = W.heap[k]?) : SSt W' g b o F c h hv :=
  ⟨s.gb, (hk g (lt_of_heap s.ln) (own_type_ne2 hr s.ln (by decide))).trans s.ln, (hk b (lt_of_heap s.cs) (own_type_ne2 hr s.cs (by decide))).trans s.cs, (hk (b + 1) (lt_of_heap s.hs) (own_type_ne2 hr s.hs (by decide))).trans s.hs, (hk (b + 1 + 1) (lt_of_heap s.ds) (own_type_ne2 hr s.ds (by decide))).trans s.ds, fun v => owns_keepB (s.rows v) (fun k hk2 => hk k ((s.rows v).lt k hk2).2 (by
    rcases (s.rows v).2 with ⟨e1, _⟩ | ⟨g2, cap, cur, e1, _, hh, _⟩
    · rw [e1] at hk2; cases hk2
    · rw [e1] at hk2
      simp [Value.ownBlock] at hk2
      subst hk2
      exact own_type_ne2 hr hh (by decide))), s.short⟩

set_option maxRecDepth 100000 in
set_option maxHeartbeats 8000000 in
theorem swaysIn_any (v : Value) (ps : List RP) (hi : Nat) (area src : Int) (w : World) (hv : RecsIn w hi v ps) (hhi : hi ≤ w.heap.size) (hn : tot ps ≤ 1048576) :
    Calls Tryd.prog 56 #[v, .int .i64 area, .int .i64 src] w fun e w' => ∃ u qs, e = .returned u ∧ IsWays (fsts ps) area src (fstsW qs) ∧ WaysOwn w' w.heap.size w'.heap.size u qs ∧ Below w.heap.size w w' := by
  obtain ⟨a1, c1, rfl⟩ := owns_lenS hv.row
  have BW0 : Below w.heap.size w (w.alloc (.cells #[] 93)) := (Below.refl _ _).alloc (Nat.le_refl _) _
  have WO0 := ways_lit w w.heap.size (Nat.le_refl _)
  have hs0 : (w.alloc (.cells #[] 93)).heap.size = w.heap.size + 1 := by simp
  obtain ⟨w0, hw0⟩ : ∃ W, W = w.alloc (.cells #[] 93) := ⟨_, rfl⟩
  rw [← hw0] at BW0 WO0 hs0
  have hv0 := hv.below BW0 hhi
  have hh0 : hi ≤ w0.heap.size := by omega
  have HN := hide (fun W (hb : Below w0.heap.size w0 W) => snode_any (.slice a1 ps.length c1) ps hi area src W (hv0.below hb hh0) (Nat.le_trans hh0 hb.size) hn)
  have HS := hide (fun W (hb : Below w0.heap.size w0 W) => sstoreOk_any (.slice a1 ps.length c1) ps W hn (RecsAt.more ((hv0.below hb hh0).at) (Nat.le_trans hh0 hb.size)))
  have HL := hide (fun W (hb : Below w0.heap.size w0 W) => slinks_any (.slice a1 ps.length c1) ps hi area W (hv0.below hb hh0) (Nat.le_trans hh0 hb.size) hn)
  have WO := hide WO0
  clear hv hv0 WO0
  obtain ⟨D, hD⟩ : ∃ D, D = nodeD (fsts ps) area src := ⟨_, rfl⟩
  obtain ⟨NB, hNB⟩ : ∃ b, b = nodeB (fsts ps) area src := ⟨_, rfl⟩
  obtain ⟨SB, hSB⟩ : ∃ b, b = storeB (fsts ps) := ⟨_, rfl⟩
  obtain ⟨IB, hIB⟩ : ∃ b, b = inB src 1 6 := ⟨_, rfl⟩
  rw [← hD, ← hNB] at HN
  rw [← hSB] at HS
  have HNB := hide hNB
  have HSB := hide hSB
  have HIB := hide hIB
  clear hD hNB hSB hIB
  unfold recC at HN
  go_enter Tryd.func56, Tryd.ntmps56
  go_wp2_with fail
  rw [← hw0]
  clear hw0
  refine (HN.out _ (Below.refl _ _)).mono ?_
  rintro e w1 ⟨u, rfl, hu, hul, b1⟩
  obtain ⟨ua, uc, rfl⟩ := NearsAt.shape hu
  have BX : Below w0.heap.size w0 (w1.alloc (.cells #[.int .i64 D.area, .int .i64 D.kind, .int .i64 D.owner, .int .i64 D.key, .int .i64 D.seq, .slice ua D.near.length uc, .int .i64 D.cost, .bool D.far] 81)) := b1.alloc b1.size _
  obtain ⟨w2, hw2⟩ : ∃ W, W = w1.alloc (.cells #[.int .i64 D.area, .int .i64 D.kind, .int .i64 D.owner, .int .i64 D.key, .int .i64 D.seq, .slice ua D.near.length uc, .int .i64 D.cost, .bool D.far] 81) := ⟨_, rfl⟩
  rw [← hw2] at BX
  clear hu hul HN
  go_wp2_with fail
  rw [← hw2]
  clear hw2 b1
  refine (HS.out _ BX).mono ?_
  rintro e w3 ⟨rfl, b3⟩
  have B3 : Below w0.heap.size w0 w3 := BX.trans (b3.mono BX.size)
  have B3w : Below w.heap.size w w3 := BW0.trans (B3.mono (by omega))
  have EMP := hide (fun (e : (SB && IB && NB) = false) => show IsWays (fsts ps) area src (fstsW []) by unfold IsWays; rw [← HSB.out, ← HIB.out, ← HNB.out, e]; rfl)
  have WO3 := hide ((WO.out.below B3 (Nat.le_refl _)).wide (Nat.le_refl _) B3.size)
  clear HS b3
  cases SB
  · go_wp2
    go_ret
    exact ⟨_, [], rfl, EMP.out rfl, WO3.out, B3w⟩
  · go_wp2_with fail
    refine (in_any _ _ _ _).mono ?_
    rintro e w4 ⟨rfl, rfl⟩
    rw [← HIB.out]
    cases IB
    · go_wp2
      go_ret
      exact ⟨_, [], rfl, EMP.out rfl, WO3.out, B3w⟩
    · cases NB
      · go_wp2
        go_ret
        exact ⟨_, [], rfl, EMP.out rfl, WO3.out, B3w⟩
      · go_wp2_with fail
        refine (HL.out _ B3).mono ?_
        rintro e w4 ⟨o, rfl, hg, ho, b4⟩
        obtain ⟨s, rfl⟩ : ∃ s : Nat, src = (s : Int) := ⟨src.toNat, by have := inB_iff.1 HIB.out.symm; omega⟩
        have hs6 := inB_iff.1 HIB.out.symm
        have hs1 : 1 ≤ s := by omega
        have hs7 : s ≤ 6 := by omega
        have HLK := hide (linkN_links (area := area) HSB.out.symm)
        have HO := hide (show ∀ u v, 1 ≤ u → u ≤ 6 → 1 ≤ v → v ≤ 6 → o u v = linkN (fsts ps) area u v by
          intro u v h1 h2 h3 h4
          rw [ho u v h1 h2 h3 h4]
          unfold linkN
          rw [if_pos ⟨⟨h1, h2⟩, h3, h4⟩])
        have FIN := hide (fun c h (hf : Fix (linkN (fsts ps) area) s c h) => show IsWays (fsts ps) area (s : Int) (collT c h 6) by
          unfold IsWays
          rw [← HSB.out, ← HIB.out, ← HNB.out]
          exact ⟨c, h, by simpa using hf, rfl⟩)
        obtain ⟨L, hLL⟩ : ∃ L, L = linkN (fsts ps) area := ⟨_, rfl⟩
        rw [← hLL] at HLK HO FIN
        clear hLL ho EMP HSB HIB HNB
        obtain ⟨g, hgg⟩ : ∃ g, g = w3.heap.size := ⟨_, rfl⟩
        rw [← hgg] at hg ⊢
        have B4 : Below w0.heap.size w0 w4 := B3.trans (b4.mono B3.size)
        have S5 := SSt.start hg
        have B5 : Below w0.heap.size w0 (((w4.alloc (.cells (rowA (fun _ => .int .i64 0) 7) 3)).alloc (.cells (rowA (fun _ => .slice none 0 0) 7) 24)).alloc (.cells (rowA (fun _ => .bool false) 7) 4)) := ((B4.alloc B4.size _).alloc (by have := B4.size; simp; omega) _).alloc (by have := B4.size; simp; omega) _
        have hb4 := B4.size
        have hgz : w0.heap.size ≤ g := by rw [hgg]; exact B3.size
        clear b4 B3 B3w WO3 hg BX hgg HL
        go_wp2_with (first | (at_make; first | refine wpList_make_rowA _ rfl _ _ 24 rfl 3 (.int .i64 0) 8 Tryd.underlying24 Tryd.info3 rfl 7 rfl rfl (by omega) (by omega) ?_ | refine wpList_make_rowA _ rfl _ _ 125 rfl 24 (.slice none 0 0) 24 Tryd.underlying125 Tryd.infoI rfl 7 rfl rfl (by omega) (by omega) ?_ | refine wpList_make_rowA _ rfl _ _ 47 rfl 4 (.bool false) 1 Tryd.underlying47 Tryd.infoBl rfl 7 rfl rfl (by omega) (by omega) ?_))
        generalize (((w4.alloc (.cells (rowA (fun _ => .int .i64 0) 7) 3)).alloc (.cells (rowA (fun _ => .slice none 0 0) 7) 24)).alloc (.cells (rowA (fun _ => .bool false) 7) 4)) = w5 at *
        obtain ⟨b, hb⟩ : ∃ b, b = w4.heap.size := ⟨_, rfl⟩
        go_wp2
        rw [← hb] at S5 hb4 ⊢
        clear hb B4
        have HS5 := hide S5
        clear S5
        go_loopw [14] (fun i wr => ∃ k : Nat, 1 ≤ k ∧ k ≤ 7 ∧ i = .int .i64 (k : Int) ∧ SSt wr g b o (fun _ => false) (fun v => if v < k then -1 else 0) (fun _ => []) (fun _ => .slice none 0 0) ∧ Below w0.heap.size w0 wr) (fun i _ => 8 - (intOf i).toNat)
        case atStart => exact ⟨1, by omega, by omega, rfl, HS5.out.congr (fun v h1 h2 => by rw [if_neg (by omega)]), B5⟩
        case round =>
          rename World => wa
          obtain ⟨k, hk1, hk, rfl, hst, hnx⟩ := hrel
          have HST := hide hst
          clear hst HS5 B5
          by_cases hlt : k < 7
          · have hk6 : (k : Int) ≤ 6 := by omega
            have hj1 : (0 : Int) ≤ (k : Int) := by omega
            have hj2 : (k : Int) < 7 := by omega
            obtain ⟨x1, d1⟩ : ∃ x, wa.cell? ⟨b, k, none⟩ = some (.int .i64 x) := ⟨_, HST.out.cost (v := k) (by omega) (by omega)⟩
            have f1 := frozen_at HST.out.cs
            have S6 := hide ((HST.out.setC (v := k) (by omega) (-1)).congr (d := fun v => if v < k + 1 then -1 else 0) (fun v h1 h2 => by
              show (if v < k + 1 then (-1 : Int) else 0) = if v = k then -1 else if v < k then -1 else 0
              by_cases e : v = k
              · rw [if_pos e, if_pos (by omega)]
              · rw [if_neg e]
                by_cases e2 : v < k
                · rw [if_pos e2, if_pos (by omega)]
                · rw [if_neg (by omega), if_neg (by omega)]))
            have B6 := hide (hnx.setCell (p := ⟨b, k, none⟩) (by show w0.heap.size ≤ b; omega) (.int .i64 (-1)))
            go_wp2
            go_roundw
            case rel => exact ⟨k + 1, by omega, by omega, by go_num, S6.out, B6.out⟩
            case measure => simp [intOf]; omega
          · have hk6 : ¬ (k : Int) ≤ 6 := by omega
            have hkk : k = 7 := by omega
            subst hkk
            obtain ⟨x1, d1⟩ : ∃ x, wa.cell? ⟨b, s, none⟩ = some (.int .i64 x) := ⟨_, HST.out.cost (v := s) (by omega) (by omega)⟩
            have f1 := frozen_at HST.out.cs
            have hj1 : (0 : Int) ≤ (s : Int) := by omega
            have hj2 : (s : Int) < 7 := by omega
            have S6 := hide ((HST.out.setC (v := s) (by omega) 0).congr (d := fun v => if v = s then 0 else -1) (fun v h1 h2 => by
              show (if v = s then (0 : Int) else -1) = if v = s then 0 else if v < 7 then -1 else 0
              by_cases e : v = s
              · rw [if_pos e, if_pos e]
              · rw [if_neg e, if_neg e, if_pos (by omega)]))
            have B6 := hide (hnx.setCell (p := ⟨b, s, none⟩) (by show w0.heap.size ≤ b; omega) (.int .i64 0))
            go_wp2
            generalize wa.setCell ⟨b, s, none⟩ (.int .i64 0) = w6 at *
            clear HST d1 f1 hnx hk6
            go_loopw [15] (fun i wr => ∃ (r : Nat) (F : Nat → Bool) (c : Nat → Int) (h : Nat → List Int) (hv : Nat → Value), 1 ≤ r ∧ r ≤ 7 ∧ i = .int .i64 (r : Int) ∧ Hid (SSt wr g b o F c h hv) ∧ Hid (AtRound L s F c h r) ∧ Below w0.heap.size w0 wr) (fun i _ => 8 - (intOf i).toNat)
            case atStart => exact ⟨1, _, _, _, _, by omega, by omega, rfl, S6, hide (AtRound.init ⟨hs1, hs7⟩), B6.out⟩
            case round =>
              rename World => wb
              obtain ⟨r, F, c, h, hv, hr1, hr7, rfl, HS, HA, hnx⟩ := hrel
              clear S6 B6
              by_cases hrl : r < 7
              · have hr6 : (r : Int) ≤ 6 := by omega
                go_wp2
                go_loopw [17, 16] (fun i a' wr => ∃ (v a : Nat), 1 ≤ v ∧ v ≤ 7 ∧ a ≤ 6 ∧ i = .int .i64 (v : Int) ∧ a' = .int .i64 (a : Int) ∧ Hid (MinAt F c v a) ∧ Hid (SSt wr g b o F c h hv) ∧ Below w0.heap.size w0 wr) (fun i _ _ => 8 - (intOf i).toNat)
                case atStart => exact ⟨1, 0, by omega, by omega, by omega, rfl, rfl, hide (.inl ⟨rfl, fun x h1 h2 => by omega⟩), HS, hnx⟩
                case round =>
                  rename World => wc
                  obtain ⟨v, a, hv1, hv7, ha6, rfl, rfl, HM, HSc, hnc⟩ := hrel
                  clear HS hnx
                  by_cases hvl : v < 7
                  · have hv6 : (v : Int) ≤ 6 := by omega
                    have hvi : (0 : Int) ≤ (v : Int) := by omega
                    have hvj : (v : Int) < 7 := by omega
                    have dd := HSc.out.done (v := v) (by omega)
                    have dc := HSc.out.cost (v := v) hv1 (by omega)
                    have SB := hide (fun W (hb : Below wc.heap.size wc W) => HSc.out.below hb)
                    obtain ⟨x, hx⟩ : ∃ x, x = c v := ⟨_, rfl⟩
                    rw [← hx] at dc
                    have HX := hide hx
                    clear hx
                    cases hF : F v with
                    | true =>
                      rw [hF] at dd
                      have HM2 := hide (minAt_skip HM.out (.inl hF))
                      clear HSc
                      go_wp2
                      go_quiet (fail)
                      go_wp2
                      go_roundw
                      case rel => exact ⟨v + 1, a, by omega, by omega, ha6, by go_num, rfl, HM2, hide (SB.out _ (bdrewM _ _)), hnc.trans ((bdrewM _ _).mono hnc.size)⟩
                      case measure => simp [intOf]; omega
                    | false =>
                      rw [hF] at dd
                      by_cases hx0 : 0 ≤ x
                      · by_cases ha : a = 0
                        · subst ha
                          have HM2 := hide (minAt_take HM.out hv1 hF (by rw [← HX.out]; exact hx0) (.inl rfl))
                          clear HSc
                          go_wp2
                          go_quiet (fail)
                          go_wp2
                          go_roundw
                          case rel => exact ⟨v + 1, v, by omega, by omega, by omega, by go_num, rfl, HM2, hide (SB.out _ (bdrewM _ _)), hnc.trans ((bdrewM _ _).mono hnc.size)⟩
                          case measure => simp [intOf]; omega
                        · obtain ⟨y, hy⟩ : ∃ y, y = c a := ⟨_, rfl⟩
                          have da := HSc.out.cost (v := a) (by omega) ha6
                          rw [← hy] at da
                          have HY := hide hy
                          have hai : (0 : Int) ≤ (a : Int) := by omega
                          have haj : (a : Int) < 7 := by omega
                          have hane : ((a : Int) == 0) = false := by simpa using (show ¬ (a : Int) = 0 by omega)
                          have hane2 : ¬ (a : Int) = 0 := by omega
                          clear hy HSc
                          by_cases hxy : x < y
                          · have HM2 := hide (minAt_take HM.out hv1 hF (by rw [← HX.out]; exact hx0) (.inr (by rw [← HX.out, ← HY.out]; exact hxy)))
                            go_wp2
                            go_quiet (fail)
                            go_wp2
                            go_roundw
                            case rel => exact ⟨v + 1, v, by omega, by omega, by omega, by go_num, rfl, HM2, hide (SB.out _ (bdrewM _ _)), hnc.trans ((bdrewM _ _).mono hnc.size)⟩
                            case measure => simp [intOf]; omega
                          · have HM2 := hide (minAt_skip HM.out (.inr (.inr ⟨by omega, by rw [← HX.out, ← HY.out]; omega⟩)))
                            go_wp2
                            go_quiet (fail)
                            go_wp2
                            go_roundw
                            case rel => exact ⟨v + 1, a, by omega, by omega, ha6, by go_num, rfl, HM2, hide (SB.out _ (bdrewM _ _)), hnc.trans ((bdrewM _ _).mono hnc.size)⟩
                            case measure => simp [intOf]; omega
                      · have HM2 := hide (minAt_skip HM.out (.inr (.inl (by rw [← HX.out]; omega))))
                        have hxd : decide (0 ≤ x) = false := by simpa using hx0
                        have hxe : decide (x ≥ 0) = false := by simpa using hx0
                        clear HSc
                        go_wp2
                        go_quiet (fail)
                        go_wp2
                        go_roundw
                        case rel => exact ⟨v + 1, a, by omega, by omega, ha6, by go_num, rfl, HM2, hide (SB.out _ (bdrewM _ _)), hnc.trans ((bdrewM _ _).mono hnc.size)⟩
                        case measure => simp [intOf]; omega
                  · have hv6 : ¬ (v : Int) ≤ 6 := by omega
                    have hvv : v = 7 := by omega
                    subst hvv
                    by_cases ha : a = 0
                    · subst ha
                      have HA2 := hide (HA.out.none HM.out)
                      go_wp2
                      go_roundw
                      case rel => exact ⟨7, F, c, h, hv, by omega, by omega, by go_num, HSc, HA2, hnc⟩
                      case measure => simp [intOf]; omega
                    · have HMA := HM.out
                      have hm2 : 1 ≤ a ∧ a < 7 ∧ F a = false ∧ 0 ≤ c a := by
                        rcases HMA with ⟨h1, _⟩ | ⟨h1, h2, h3, h4, _⟩
                        · exact absurd h1 ha
                        · exact ⟨h1, h2, h3, h4⟩
                      have hai : (0 : Int) ≤ (a : Int) := by omega
                      have haj : (a : Int) < 7 := by omega
                      have hane : ((a : Int) == 0) = false := by
                        have h1 : ¬ (a : Int) = 0 := by omega
                        simpa using h1
                      have hane2 : ¬ (a : Int) = 0 := by omega
                      have dd := HSc.out.done (v := a) ha6
                      have fd := frozen_at HSc.out.ds
                      have SD := hide (HSc.out.setD a)
                      have BD := hide (hnc.setCell (p := ⟨b + 1 + 1, a, none⟩) (by show w0.heap.size ≤ b + 1 + 1; omega) (.bool true))
                      have HFa := hide hm2.2.2.1
                      have hca := hm2.2.2.2
                      have HAN := hide (HA.out.next HLK.out hrl HM.out (by omega))
                      have hcb := HA.out.bnd a
                      have hcard : cardF F ≤ 5 := by
                        have h1 := card_add (F := F) (u := a) ⟨by omega, by omega⟩ hm2.2.2.1
                        have h2 := card_le (fun v => F v || v == a)
                        omega
                      have hcb2 : c a ≤ 5000 := by omega
                      clear HMA HM hm2 hcb hcard
                      go_wp2
                      generalize wc.setCell ⟨b + 1 + 1, a, none⟩ (.bool true) = wd at *
                      clear dd fd HSc hnc
                      go_loopw [18] (fun i wr => ∃ (v : Nat) (hw : Nat → Value), 1 ≤ v ∧ v ≤ 7 ∧ i = .int .i64 (v : Int) ∧ Hid (SSt wr g b o (fun x => F x || x == a) (mixC L c a v) (mixH L s c h a v) hw) ∧ Below w0.heap.size w0 wr) (fun i _ => 8 - (intOf i).toNat)
                      case atStart => exact ⟨1, hv, by omega, by omega, rfl, hide (by rw [mixC_one HLK.out, mixH_one HLK.out]; exact SD.out), BD.out⟩
                      case round =>
                        rename World => we
                        obtain ⟨v, hw, hv1, hv7, rfl, HSe, hne⟩ := hrel
                        clear SD BD
                        by_cases hvl : v < 7
                        · have hv6 : (v : Int) ≤ 6 := by omega
                          have hvi : (0 : Int) ≤ (v : Int) := by omega
                          have hvj : (v : Int) < 7 := by omega
                          have hm1 : IntKind.i64.wrap ((a : Int) * 7) = ((a * 7 : Nat) : Int) := by rw [wrap_fit _ (by omega) (by omega)]; omega
                          have hm2 : IntKind.i64.wrap (((a * 7 : Nat) : Int) + (v : Int)) = ((a * 7 + v : Nat) : Int) := by rw [wrap_fit _ (by omega) (by omega)]; omega
                          have hm3 : (0 : Int) ≤ ((a * 7 + v : Nat) : Int) := by omega
                          have hm4 : ((a * 7 + v : Nat) : Int) < 49 := by omega
                          have dl := HSe.out.link (u := a) (v := v) ha6 (by omega)
                          have dd := HSe.out.done (v := v) (by omega)
                          have dcv := HSe.out.cost (v := v) hv1 (by omega)
                          have dca := HSe.out.cost (v := a) (by omega) ha6
                          have dhv := HSe.out.hop (v := v) (by omega)
                          have dha := HSe.out.hop (v := a) ha6
                          rw [HO.out a v (by omega) ha6 hv1 (by omega)] at dl
                          rw [mixC_next] at dcv
                          rw [mixC_at hca] at dca
                          have RV := HSe.out.rows v
                          have RA := HSe.out.rows a
                          rw [mixH_next] at RV
                          rw [mixH_at hca] at RA
                          have hlv : (h v).length ≤ 6 := by have := HSe.out.short v; rw [mixH_next] at this; exact this
                          have hla : (h a).length ≤ 6 := by have := HSe.out.short a; rw [mixH_at hca] at this; exact this
                          obtain ⟨pv, qv, epv⟩ := owns_lenS RV
                          obtain ⟨pa, qa, epa⟩ := owns_lenS RA
                          rw [epv] at dhv RV
                          rw [epa] at dha RA
                          have hsz := HSe.out.size
                          have hgb := HSe.out.gb
                          have HRV := hide RV
                          have HRA := hide RA
                          clear RV RA epv epa
                          have hl0 := HLK.out.pos a v
                          have hl1 := HLK.out.le a v
                          obtain ⟨lk, hlk⟩ : ∃ x, x = L a v := ⟨_, rfl⟩
                          obtain ⟨fd, hfd⟩ : ∃ x, x = (F v || v == a) := ⟨_, rfl⟩
                          obtain ⟨cv, hcv⟩ : ∃ x, x = c v := ⟨_, rfl⟩
                          obtain ⟨ca, hcae⟩ : ∃ x, x = c a := ⟨_, rfl⟩
                          rw [← hlk] at dl hl0 hl1
                          rw [← hfd] at dd
                          rw [← hcv] at dcv
                          rw [← hcae] at dca
                          have hca' : 0 ≤ ca := by rw [hcae]; exact hca
                          have hca5 : ca ≤ 5000 := by rw [hcae]; exact hcb2
                          have HLk := hide hlk
                          have HFd := hide hfd
                          have HCv := hide hcv
                          have HCa := hide hcae
                          clear hlk hfd hcv hcae
                          have KEEP := hide (fun (hk : relaxL L s c h a v = h v ∧ relaxC L c a v = c v) => show SSt we g b o (fun x => F x || x == a) (mixC L c a (v + 1)) (mixH L s c h a (v + 1)) hw by rw [mixC_keep hk.2, mixH_keep hk.1]; exact HSe.out)
                          by_cases hlz : lk = 0
                          · have HK := hide (KEEP.out (relaxL_none (by rw [← HLk.out]; omega)))
                            subst hlz
                            clear KEEP HSe
                            go_wp2
                            go_roundw
                            case rel => exact ⟨v + 1, hw, by omega, by omega, by go_num, HK, hne⟩
                            case measure => simp [intOf]; omega
                          · have hlb : (lk == 0) = false := by simpa using hlz
                            have hlp : 0 < lk := by omega
                            cases fd
                            · have hw9 : IntKind.i64.wrap (ca + lk) = ca + lk := wrap_fit _ (by omega) (by omega)
                              have hgl : g < we.heap.size := by omega
                              have hbl : b < we.heap.size := by omega
                              have hbl1 : b + 1 < we.heap.size := by omega
                              have hbl2 : b + 1 + 1 < we.heap.size := by omega
                              by_cases has : a = s
                              · subst has
                                have hnw : we.heap.size < (we.alloc (.cells #[.int .i64 (v : Int)] 3)).heap.size := by simp
                                have S0 := HSe.out.below ((Below.refl we.heap.size we).alloc (Nat.le_refl _) (.cells #[.int .i64 (v : Int)] 3))
                                have RW : (we.alloc (.cells #[.int .i64 (v : Int)] 3)).ownsRow (b + 3) 3 1 (.slice (some ⟨we.heap.size, 0, none⟩) 1 1) [(v : Int)].length (flat intE [(v : Int)]) := World.ownsRow_lit we #[.int .i64 (v : Int)] 1 hsz (by unfold maxLen; omega) (by simp)
                                have RV0 := owns_below HRV.out ((Below.refl we.heap.size we).alloc (Nat.le_refl _) (.cells #[.int .i64 (v : Int)] 3)) (Nat.le_refl _)
                                have BW : Below w0.heap.size w0 (we.alloc (.cells #[.int .i64 (v : Int)] 3)) := hne.alloc hne.size _
                                have hwl : wayL a h a v = [(v : Int)] := by unfold wayL; rw [if_pos rfl]
                                have HWL := hide hwl
                                have HS0 := hide S0
                                have HRW := hide RW
                                have HRV0 := hide RV0
                                have HBW := hide BW
                                clear S0 RW RV0 BW hwl
                                by_cases hc0 : cv < 0
                                · have hrx := relaxL_less (L := L) (src := a) (c := c) (h := h) (u := a) (v := v) (by rw [← HLk.out]; exact hlp) (by rw [← HCv.out]; exact .inl hc0)
                                  rw [HWL.out, ← HCa.out, ← HLk.out] at hrx
                                  have HRX := hide hrx
                                  have ez : (we.setCell ⟨b, v, none⟩ (.int .i64 (ca + lk))).heap.size = we.heap.size := by simp
                                  have S1 := ((HSe.out.setC (v := v) hv1 (ca + lk)).below ((Below.refl _ _).alloc (Nat.le_refl _) (.cells #[.int .i64 (v : Int)] 3))).below ((Below.refl _ _).alloc (Nat.le_refl _) (.cells #[] 3))
                                  have RWx : ((we.setCell ⟨b, v, none⟩ (.int .i64 (ca + lk))).alloc (.cells #[.int .i64 (v : Int)] 3)).ownsRow (b + 3) 3 1 (.slice (some ⟨(we.setCell ⟨b, v, none⟩ (.int .i64 (ca + lk))).heap.size, 0, none⟩) 1 1) [(v : Int)].length (flat intE [(v : Int)]) := World.ownsRow_lit _ #[.int .i64 (v : Int)] 1 (by rw [ez]; exact hsz) (by unfold maxLen; omega) (by simp)
                                  rw [ez] at RWx
                                  have R1 := hops_of (owns_below RWx ((Below.refl _ _).alloc (Nat.le_refl _) (.cells #[] 3)) (Nat.le_refl _))
                                  have R0 : HopsAt (((we.setCell ⟨b, v, none⟩ (.int .i64 (ca + lk))).alloc (.cells #[.int .i64 (v : Int)] 3)).alloc (.cells #[] 3)) (.slice (some ⟨we.heap.size + 1, 0, none⟩) 0 0) [] (((we.setCell ⟨b, v, none⟩ (.int .i64 (ca + lk))).alloc (.cells #[.int .i64 (v : Int)] 3)).alloc (.cells #[] 3)).heap.size := hops_of (own_litI _ _ 0 (by simp) (Nat.zero_le _))
                                  have HAD := hide (sadd_any _ _ [] [(v : Int)] _ (by simp) (by simp) R0 R1)
                                  have B1 : Below w0.heap.size w0 (((we.setCell ⟨b, v, none⟩ (.int .i64 (ca + lk))).alloc (.cells #[.int .i64 (v : Int)] 3)).alloc (.cells #[] 3)) := (((hne.setCell (p := ⟨b, v, none⟩) (by show w0.heap.size ≤ b; omega) _).alloc (by have := hne.size; simp; omega) _).alloc (by have := hne.size; simp; omega) _)
                                  clear RWx
                                  have HS1 := hide S1
                                  have HB1 := hide B1
                                  have fc := frozen_at HSe.out.cs
                                  clear hrx S1 R1 R0 B1 KEEP HSe HS0 HRW HRV0 HBW
                                  go_wp2_with fail
                                  refine HAD.out.mono ?_
                                  rintro e w7 ⟨x, rfl, hox, b7⟩
                                  obtain ⟨xa, xc, rfl⟩ := owns_lenS hox
                                  have S7 := HS1.out.below b7
                                  have B7 : Below w0.heap.size w0 w7 := HB1.out.trans (b7.mono HB1.out.size)
                                  have d7 := S7.hop (v := v) (by omega)
                                  have f7 := frozen_at S7.hs
                                  have S8 := hide (S7.setH v (owns_baseS hox HS1.out.size) (addL_len6 _ _))
                                  have B8 := hide (B7.setCell (p := ⟨b + 1, v, none⟩) (by show w0.heap.size ≤ b + 1; omega) (.slice xa (addL [] [(v : Int)]).length xc))
                                  clear S7 B7 hox b7 HAD
                                  go_wp2
                                  go_roundw
                                  case rel => exact ⟨v + 1, _, by omega, by omega, by go_num, hide (by rw [mixC_step, mixH_step, HRX.out.1, HRX.out.2]; exact S8.out), B8.out⟩
                                  case measure => simp [intOf]; omega
                                · have hc0' : 0 ≤ cv := by omega
                                  by_cases hcl : ca + lk < cv
                                  · have hrx := relaxL_less (L := L) (src := a) (c := c) (h := h) (u := a) (v := v) (by rw [← HLk.out]; exact hlp) (by rw [← HCv.out, ← HCa.out, ← HLk.out]; exact .inr hcl)
                                    rw [HWL.out, ← HCa.out, ← HLk.out] at hrx
                                    have HRX := hide hrx
                                    have ez : (we.setCell ⟨b, v, none⟩ (.int .i64 (ca + lk))).heap.size = we.heap.size := by simp
                                    have S1 := ((HSe.out.setC (v := v) hv1 (ca + lk)).below ((Below.refl _ _).alloc (Nat.le_refl _) (.cells #[.int .i64 (v : Int)] 3))).below ((Below.refl _ _).alloc (Nat.le_refl _) (.cells #[] 3))
                                    have RWx : ((we.setCell ⟨b, v, none⟩ (.int .i64 (ca + lk))).alloc (.cells #[.int .i64 (v : Int)] 3)).ownsRow (b + 3) 3 1 (.slice (some ⟨(we.setCell ⟨b, v, none⟩ (.int .i64 (ca + lk))).heap.size, 0, none⟩) 1 1) [(v : Int)].length (flat intE [(v : Int)]) := World.ownsRow_lit _ #[.int .i64 (v : Int)] 1 (by rw [ez]; exact hsz) (by unfold maxLen; omega) (by simp)
                                    rw [ez] at RWx
                                    have R1 := hops_of (owns_below RWx ((Below.refl _ _).alloc (Nat.le_refl _) (.cells #[] 3)) (Nat.le_refl _))
                                    have R0 : HopsAt (((we.setCell ⟨b, v, none⟩ (.int .i64 (ca + lk))).alloc (.cells #[.int .i64 (v : Int)] 3)).alloc (.cells #[] 3)) (.slice (some ⟨we.heap.size + 1, 0, none⟩) 0 0) [] (((we.setCell ⟨b, v, none⟩ (.int .i64 (ca + lk))).alloc (.cells #[.int .i64 (v : Int)] 3)).alloc (.cells #[] 3)).heap.size := hops_of (own_litI _ _ 0 (by simp) (Nat.zero_le _))
                                    have HAD := hide (sadd_any _ _ [] [(v : Int)] _ (by simp) (by simp) R0 R1)
                                    have B1 : Below w0.heap.size w0 (((we.setCell ⟨b, v, none⟩ (.int .i64 (ca + lk))).alloc (.cells #[.int .i64 (v : Int)] 3)).alloc (.cells #[] 3)) := (((hne.setCell (p := ⟨b, v, none⟩) (by show w0.heap.size ≤ b; omega) _).alloc (by have := hne.size; simp; omega) _).alloc (by have := hne.size; simp; omega) _)
                                    clear RWx
                                    have HS1 := hide S1
                                    have HB1 := hide B1
                                    have fc := frozen_at HSe.out.cs
                                    clear hrx S1 R1 R0 B1 KEEP HSe HS0 HRW HRV0 HBW
                                    go_wp2_with fail
                                    refine HAD.out.mono ?_
                                    rintro e w7 ⟨x, rfl, hox, b7⟩
                                    obtain ⟨xa, xc, rfl⟩ := owns_lenS hox
                                    have S7 := HS1.out.below b7
                                    have B7 : Below w0.heap.size w0 w7 := HB1.out.trans (b7.mono HB1.out.size)
                                    have d7 := S7.hop (v := v) (by omega)
                                    have f7 := frozen_at S7.hs
                                    have S8 := hide (S7.setH v (owns_baseS hox HS1.out.size) (addL_len6 _ _))
                                    have B8 := hide (B7.setCell (p := ⟨b + 1, v, none⟩) (by show w0.heap.size ≤ b + 1; omega) (.slice xa (addL [] [(v : Int)]).length xc))
                                    clear S7 B7 hox b7 HAD
                                    go_wp2
                                    go_roundw
                                    case rel => exact ⟨v + 1, _, by omega, by omega, by go_num, hide (by rw [mixC_step, mixH_step, HRX.out.1, HRX.out.2]; exact S8.out), B8.out⟩
                                    case measure => simp [intOf]; omega
                                  · by_cases hce : ca + lk = cv
                                    · have hrx := relaxL_like (L := L) (src := a) (c := c) (h := h) (u := a) (v := v) (by rw [← HLk.out]; exact hlp) (by rw [← HCv.out]; exact hc0') (by rw [← HCv.out, ← HCa.out, ← HLk.out]; exact hce)
                                      rw [HWL.out] at hrx
                                      have HRX := hide hrx
                                      have HAD := hide (sadd_any _ _ (h v) [(v : Int)] (we.alloc (.cells #[.int .i64 (v : Int)] 3)) (by omega) (by simp) (hops_of HRV0.out) (hops_of HRW.out))
                                      have hceb : (ca + lk == cv) = true := by simpa using hce
                                      have hcln : ¬ ca + lk < cv := hcl
                                      have HCE := hide hce
                                      clear hrx KEEP hce HSe
                                      go_wp2_with fail
                                      refine HAD.out.mono ?_
                                      rintro e w7 ⟨x, rfl, hox, b7⟩
                                      obtain ⟨xa, xc, rfl⟩ := owns_lenS hox
                                      have S7 := HS0.out.below b7
                                      have B7 : Below w0.heap.size w0 w7 := HBW.out.trans (b7.mono HBW.out.size)
                                      have d7 := S7.hop (v := v) (by omega)
                                      have f7 := frozen_at S7.hs
                                      have S8 := hide (S7.setH v (owns_baseS hox HS0.out.size) (addL_len6 _ _))
                                      have B8 := hide (B7.setCell (p := ⟨b + 1, v, none⟩) (by show w0.heap.size ≤ b + 1; omega) (.slice xa (addL (h v) [(v : Int)]).length xc))
                                      have HU := hide (show mixC L c a (v + 1) = mixC L c a v from mixC_keep HRX.out.2)
                                      clear S7 B7 hox b7 HAD
                                      go_wp2
                                      go_roundw
                                      case rel => exact ⟨v + 1, _, by omega, by omega, by go_num, hide (by rw [HU.out, mixH_step, HRX.out.1]; exact S8.out), B8.out⟩
                                      case measure => simp [intOf]; omega
                                    · have hrx := relaxL_dear (L := L) (src := a) (c := c) (h := h) (u := a) (v := v) (by rw [← HCv.out]; exact hc0') (by rw [← HCv.out, ← HCa.out, ← HLk.out]; omega)
                                      have HK := hide (show SSt (we.alloc (.cells #[.int .i64 (v : Int)] 3)) g b o (fun x => F x || x == a) (mixC L c a (v + 1)) (mixH L a c h a (v + 1)) hw by rw [mixC_keep hrx.2, mixH_keep hrx.1]; exact HS0.out)
                                      have hceb : (ca + lk == cv) = false := by simpa using hce
                                      clear hrx KEEP
                                      go_wp2
                                      go_roundw
                                      case rel => exact ⟨v + 1, hw, by omega, by omega, by go_num, HK, HBW.out⟩
                                      case measure => simp [intOf]; omega
                              · have hasb : ((a : Int) == (s : Int)) = false := by
                                  have h1 : ¬ (a : Int) = (s : Int) := by omega
                                  simpa using h1
                                have hasn : ¬ (a : Int) = (s : Int) := by omega
                                have S0 := HSe.out
                                have RW := HRA.out
                                have RV0 := HRV.out
                                have BW := hne
                                have hwl : wayL s h a v = h a := by unfold wayL; rw [if_neg has]
                                have HWL := hide hwl
                                have HS0 := hide S0
                                have HRW := hide RW
                                have HRV0 := hide RV0
                                have HBW := hide BW
                                clear S0 RW RV0 BW hwl
                                by_cases hc0 : cv < 0
                                · have hrx := relaxL_less (L := L) (src := s) (c := c) (h := h) (u := a) (v := v) (by rw [← HLk.out]; exact hlp) (by rw [← HCv.out]; exact .inl hc0)
                                  rw [HWL.out, ← HCa.out, ← HLk.out] at hrx
                                  have HRX := hide hrx
                                  have S1 := (HSe.out.setC (v := v) hv1 (ca + lk)).below ((Below.refl _ _).alloc (Nat.le_refl _) (.cells #[] 3))
                                  have R1 := hops_of (owns_below (owns_set (p := b) (j := v) (u := .int .i64 (ca + lk)) HRW.out (by omega)) ((Below.refl _ _).alloc (Nat.le_refl _) (.cells #[] 3)) (Nat.le_refl _))
                                  have R0 : HopsAt ((we.setCell ⟨b, v, none⟩ (.int .i64 (ca + lk))).alloc (.cells #[] 3)) (.slice (some ⟨we.heap.size, 0, none⟩) 0 0) [] ((we.setCell ⟨b, v, none⟩ (.int .i64 (ca + lk))).alloc (.cells #[] 3)).heap.size := hops_of (own_litI _ _ 0 (by simp) (Nat.zero_le _))
                                  have HAD := hide (sadd_any _ _ [] (h a) _ (by simp) (by omega) R0 R1)
                                  have B1 : Below w0.heap.size w0 ((we.setCell ⟨b, v, none⟩ (.int .i64 (ca + lk))).alloc (.cells #[] 3)) := ((hne.setCell (p := ⟨b, v, none⟩) (by show w0.heap.size ≤ b; omega) _).alloc (by have := hne.size; simp; omega) _)
                                  have HS1 := hide S1
                                  have HB1 := hide B1
                                  have fc := frozen_at HSe.out.cs
                                  clear hrx S1 R1 R0 B1 KEEP HSe HS0 HRW HRV0 HBW
                                  go_wp2_with fail
                                  refine HAD.out.mono ?_
                                  rintro e w7 ⟨x, rfl, hox, b7⟩
                                  obtain ⟨xa, xc, rfl⟩ := owns_lenS hox
                                  have S7 := HS1.out.below b7
                                  have B7 : Below w0.heap.size w0 w7 := HB1.out.trans (b7.mono HB1.out.size)
                                  have d7 := S7.hop (v := v) (by omega)
                                  have f7 := frozen_at S7.hs
                                  have S8 := hide (S7.setH v (owns_baseS hox HS1.out.size) (addL_len6 _ _))
                                  have B8 := hide (B7.setCell (p := ⟨b + 1, v, none⟩) (by show w0.heap.size ≤ b + 1; omega) (.slice xa (addL [] (h a)).length xc))
                                  clear S7 B7 hox b7 HAD
                                  go_wp2
                                  go_roundw
                                  case rel => exact ⟨v + 1, _, by omega, by omega, by go_num, hide (by rw [mixC_step, mixH_step, HRX.out.1, HRX.out.2]; exact S8.out), B8.out⟩
                                  case measure => simp [intOf]; omega
                                · have hc0' : 0 ≤ cv := by omega
                                  by_cases hcl : ca + lk < cv
                                  · have hrx := relaxL_less (L := L) (src := s) (c := c) (h := h) (u := a) (v := v) (by rw [← HLk.out]; exact hlp) (by rw [← HCv.out, ← HCa.out, ← HLk.out]; exact .inr hcl)
                                    rw [HWL.out, ← HCa.out, ← HLk.out] at hrx
                                    have HRX := hide hrx
                                    have S1 := (HSe.out.setC (v := v) hv1 (ca + lk)).below ((Below.refl _ _).alloc (Nat.le_refl _) (.cells #[] 3))
                                    have R1 := hops_of (owns_below (owns_set (p := b) (j := v) (u := .int .i64 (ca + lk)) HRW.out (by omega)) ((Below.refl _ _).alloc (Nat.le_refl _) (.cells #[] 3)) (Nat.le_refl _))
                                    have R0 : HopsAt ((we.setCell ⟨b, v, none⟩ (.int .i64 (ca + lk))).alloc (.cells #[] 3)) (.slice (some ⟨we.heap.size, 0, none⟩) 0 0) [] ((we.setCell ⟨b, v, none⟩ (.int .i64 (ca + lk))).alloc (.cells #[] 3)).heap.size := hops_of (own_litI _ _ 0 (by simp) (Nat.zero_le _))
                                    have HAD := hide (sadd_any _ _ [] (h a) _ (by simp) (by omega) R0 R1)
                                    have B1 : Below w0.heap.size w0 ((we.setCell ⟨b, v, none⟩ (.int .i64 (ca + lk))).alloc (.cells #[] 3)) := ((hne.setCell (p := ⟨b, v, none⟩) (by show w0.heap.size ≤ b; omega) _).alloc (by have := hne.size; simp; omega) _)
                                    have HS1 := hide S1
                                    have HB1 := hide B1
                                    have fc := frozen_at HSe.out.cs
                                    clear hrx S1 R1 R0 B1 KEEP HSe HS0 HRW HRV0 HBW
                                    go_wp2_with fail
                                    refine HAD.out.mono ?_
                                    rintro e w7 ⟨x, rfl, hox, b7⟩
                                    obtain ⟨xa, xc, rfl⟩ := owns_lenS hox
                                    have S7 := HS1.out.below b7
                                    have B7 : Below w0.heap.size w0 w7 := HB1.out.trans (b7.mono HB1.out.size)
                                    have d7 := S7.hop (v := v) (by omega)
                                    have f7 := frozen_at S7.hs
                                    have S8 := hide (S7.setH v (owns_baseS hox HS1.out.size) (addL_len6 _ _))
                                    have B8 := hide (B7.setCell (p := ⟨b + 1, v, none⟩) (by show w0.heap.size ≤ b + 1; omega) (.slice xa (addL [] (h a)).length xc))
                                    clear S7 B7 hox b7 HAD
                                    go_wp2
                                    go_roundw
                                    case rel => exact ⟨v + 1, _, by omega, by omega, by go_num, hide (by rw [mixC_step, mixH_step, HRX.out.1, HRX.out.2]; exact S8.out), B8.out⟩
                                    case measure => simp [intOf]; omega
                                  · by_cases hce : ca + lk = cv
                                    · have hrx := relaxL_like (L := L) (src := s) (c := c) (h := h) (u := a) (v := v) (by rw [← HLk.out]; exact hlp) (by rw [← HCv.out]; exact hc0') (by rw [← HCv.out, ← HCa.out, ← HLk.out]; exact hce)
                                      rw [HWL.out] at hrx
                                      have HRX := hide hrx
                                      have HAD := hide (sadd_any _ _ (h v) (h a) we (by omega) (by omega) (hops_of HRV0.out) (hops_of HRW.out))
                                      have hceb : (ca + lk == cv) = true := by simpa using hce
                                      have hcln : ¬ ca + lk < cv := hcl
                                      have HCE := hide hce
                                      clear hrx KEEP hce HSe
                                      go_wp2_with fail
                                      refine HAD.out.mono ?_
                                      rintro e w7 ⟨x, rfl, hox, b7⟩
                                      obtain ⟨xa, xc, rfl⟩ := owns_lenS hox
                                      have S7 := HS0.out.below b7
                                      have B7 : Below w0.heap.size w0 w7 := HBW.out.trans (b7.mono HBW.out.size)
                                      have d7 := S7.hop (v := v) (by omega)
                                      have f7 := frozen_at S7.hs
                                      have S8 := hide (S7.setH v (owns_baseS hox HS0.out.size) (addL_len6 _ _))
                                      have B8 := hide (B7.setCell (p := ⟨b + 1, v, none⟩) (by show w0.heap.size ≤ b + 1; omega) (.slice xa (addL (h v) (h a)).length xc))
                                      have HU := hide (show mixC L c a (v + 1) = mixC L c a v from mixC_keep HRX.out.2)
                                      clear S7 B7 hox b7 HAD
                                      go_wp2
                                      go_roundw
                                      case rel => exact ⟨v + 1, _, by omega, by omega, by go_num, hide (by rw [HU.out, mixH_step, HRX.out.1]; exact S8.out), B8.out⟩
                                      case measure => simp [intOf]; omega
                                    · have hrx := relaxL_dear (L := L) (src := s) (c := c) (h := h) (u := a) (v := v) (by rw [← HCv.out]; exact hc0') (by rw [← HCv.out, ← HCa.out, ← HLk.out]; omega)
                                      have HK := hide (show SSt we g b o (fun x => F x || x == a) (mixC L c a (v + 1)) (mixH L s c h a (v + 1)) hw by rw [mixC_keep hrx.2, mixH_keep hrx.1]; exact HS0.out)
                                      have hceb : (ca + lk == cv) = false := by simpa using hce
                                      clear hrx KEEP
                                      go_wp2
                                      go_roundw
                                      case rel => exact ⟨v + 1, hw, by omega, by omega, by go_num, HK, HBW.out⟩
                                      case measure => simp [intOf]; omega
                            · have HK := hide (KEEP.out (by
                                have h1 := HFd.out
                                have h2 : F v = true ∨ v = a := by
                                  cases e : F v with
                                  | true => exact .inl rfl
                                  | false => rw [e] at h1; simp at h1; exact .inr h1
                                rcases h2 with h2 | h2
                                · exact relaxL_done (HA.out.inv.fnode v h2).2 (HA.out.inv.mono v a h2 HFa.out hca)
                                · subst h2; exact relaxL_done hca (Int.le_refl _)))
                              clear KEEP HSe
                              go_wp2
                              go_roundw
                              case rel => exact ⟨v + 1, hw, by omega, by omega, by go_num, HK, hne⟩
                              case measure => simp [intOf]; omega
                        · have hv6 : ¬ (v : Int) ≤ 6 := by omega
                          have hvv : v = 7 := by omega
                          subst hvv
                          have S9 := HSe.out
                          rw [mixC_all HLK.out, mixH_all HLK.out] at S9
                          have HS9 := hide S9
                          clear S9
                          go_wp2
                          go_roundw
                          case rel => exact ⟨r + 1, _, _, _, _, by omega, by omega, by go_num, HS9, HAN, hne⟩
                          case measure => simp [intOf]; omega
              · have hr6 : ¬ (r : Int) ≤ 6 := by omega
                have hrr : r = 7 := by omega
                subst hrr
                have hfin := HA.out.fin
                have HW5 := hide (FIN.out c h hfin.1)
                have HF5 := hide hfin.2
                have BWB : Below w.heap.size w wb := BW0.trans (hnx.mono (by omega))
                have WOB := hide ((WO.out.below hnx (Nat.le_refl _)).wide (Nat.le_refl _) hnx.size)
                clear hfin HA FIN WO hnx
                go_wp2
                go_loopw [22, 7] (fun i o' wr => ∃ (v : Nat) (qs : List WP) (u : Value), 1 ≤ v ∧ v ≤ 7 ∧ i = .int .i64 (v : Int) ∧ o' = u ∧ Hid (fstsW qs = collT c h (v - 1)) ∧ Hid (WaysOwn wr w.heap.size wr.heap.size u qs) ∧ Hid (SSt wr g b o F c h hv) ∧ Below w.heap.size w wr) (fun i _ _ => 8 - (intOf i).toNat)
                case atStart => exact ⟨1, [], _, by omega, by omega, rfl, rfl, hide rfl, WOB, HS, BWB⟩
                case round =>
                  rename World => wf
                  obtain ⟨v, qs, u, hv1, hv7, rfl, rfl, HQ, HWO, HSf, hnf⟩ := hrel
                  obtain ⟨ua2, uc2, rfl⟩ := owns_lenS HWO.out.row
                  clear HS WOB BWB
                  by_cases hvl : v < 7
                  · have hv6 : (v : Int) ≤ 6 := by omega
                    have hvi : (0 : Int) ≤ (v : Int) := by omega
                    have hvj : (v : Int) < 7 := by omega
                    have dd := HSf.out.done (v := v) (by omega)
                    cases hF : F v with
                    | false =>
                      rw [hF] at dd
                      have HQ2 := hide (show fstsW qs = collT c h (v + 1 - 1) by
                        rw [Nat.add_sub_cancel, coll_step c h hv1, if_neg (fun hc => by have := (HF5.out v).2 hc; rw [hF] at this; cases this), List.append_nil]
                        exact HQ.out)
                      go_wp2
                      go_roundw
                      case rel => exact ⟨v + 1, qs, _, by omega, by omega, by go_num, rfl, HQ2, HWO, HSf, hnf⟩
                      case measure => simp [intOf]; omega
                    | true =>
                      rw [hF] at dd
                      have hc0 := (HF5.out v).1 hF
                      have hql : qs.length ≤ 6 := by
                        have h1 := congrArg List.length HQ.out
                        have h2 := coll_len c h (v - 1)
                        simp only [fstsW, List.length_map] at h1
                        omega
                      go_wp2
                      refine wp_region_noPanic ?_
                      have SQ : SSt wf.drew g b o F c h hv := HSf.out.below ⟨rfl, rfl, rfl, Nat.le_refl _, fun _ _ => rfl⟩
                      have d1 := SQ.cost (v := v) hv1 (by omega)
                      have d2 := SQ.hop (v := v) (by omega)
                      have RV := SQ.rows v
                      have hlv := SQ.short v
                      obtain ⟨pv, qv, epv⟩ := owns_lenS RV
                      rw [epv] at d2 RV
                      have WQ : WaysOwn wf.drew w.heap.size wf.drew.heap.size (.slice ua2 qs.length uc2) qs := HWO.out.keep (fun _ _ _ _ => rfl)
                      refine wp_region_start (S := fun W => W.cell? ⟨b, v, none⟩ = some (.int .i64 (c v)) ∧ W.cell? ⟨b + 1, v, none⟩ = some (.slice pv (h v).length qv)) (by kernel_rfl) 16 rfl ⟨d1, d2⟩ ?_
                      intro ops hops _
                      refine way_reg _ _ _ _ _ _ _ _ _ _ _ _ _ _ _ _ _ _ _ _ _ _ _ _ _ _ _ _ _ _ _ _ _ _ _ _ _ _ _ _ _ _ _ _ _ _ _ _ _ _ _ _ _ _ _ _ _ _ _ _ _ _ _ _ _ _ _ _ _ _ _ _ _ _ _ _ _ _ _ _ _ _ _ _ _ _ _ _ _ _ _ _ _ _ _ _ _ _ _ _ _ _ _ _ _ _ _ _ _ _ _ _ _ _ _ _ _ _ _ _ _ _ _ _ _ _ _ _ _ _ _ _ _ _ _ _ _ _ _ _ _ _ _ _ _ _ _ _ _ _ _ _ _ _ _ _ _ _ _ _ _ _ _ _ _ _ _ _ _ _ _ _ _ _ _ _ _ _ _ _ _ _ _ _ _ _ _ _ _ _ _ _ _ wf.drew w.heap.size b v (c v) (h v) pv qv ua2 uc2 qs _ _ _ ops hops (fun _ _ _ _ h => h) (by omega) hlv hql hnf.size SQ.cs SQ.hs d1 d2 (owns_baseS RV (Nat.zero_le _)) WQ ?_
                      intro W4 xa xc na nc NN ow k4 B4
                      refine NoPanic.normal ?_
                      have HQ2 := hide (show fstsW (qs ++ [(⟨(v : Int), c v, h v⟩, .slice na (h v).length nc)]) = collT c h (v + 1 - 1) by
                        rw [Nat.add_sub_cancel, coll_step c h hv1, if_pos hc0, ← HQ.out]
                        simp [fstsW])
                      have S4 := hide (SQ.grow WQ.row k4)
                      have OW4 := hide ow
                      have B5 : Below w.heap.size w W4 := (drewB hnf).trans B4
                      clear ow k4 B4 hops ops d1 d2 RV WQ SQ HSf HWO
                      go_wp2
                      go_roundw
                      case rel => exact ⟨v + 1, _, _, by omega, by omega, by go_num, rfl, HQ2, OW4, S4, B5⟩
                      case measure => simp [intOf]; omega
                  · have hv6 : ¬ (v : Int) ≤ 6 := by omega
                    have hvv : v = 7 := by omega
                    subst hvv
                    have HEND := hide (show IsWays (fsts ps) area (s : Int) (fstsW qs) by rw [HQ.out]; exact HW5.out)
                    go_wp2
                    go_ret
                    exact ⟨_, rfl, qs, HEND.out, HWO.out, hnf⟩
end Go.Proofs.YthmmpmbnpfhloaaDoor
