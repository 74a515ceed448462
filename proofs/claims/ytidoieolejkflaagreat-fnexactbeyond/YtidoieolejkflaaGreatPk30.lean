/-
  (*impl.wayFinder).ways: its contract.
  impl.WaysIn: its contract.
  impl.RoutesWithin: its contract.
  What the laws of lists of records want.
  What the laws of ways want.
-/
import Derived.Test.YtidoieolejkflaaGreatPk26
import Derived.Test.YtidoieolejkflaaGreatPk16
import Derived.Test.YtidoieolejkflaaGreatPk29
import Derived.Test.YtidoieolejkflaaGreatPk11
import Derived.Test.YtidoieolejkflaaGreatPk23
import Derived.Test.YtidoieolejkflaaGreatPk4
import Derived.Test.YtidoieolejkflaaGreatPk12
namespace Go.Proofs.YtidoieolejkflaaGreat
open Go.RowKit

set_option linter.unusedSimpArgs false

def collP (bp : Nat → Option Nat) (wd : Nat → WayD) (wv : Nat → Value) : Nat → List WP
  | 0 => []
  | t + 1 => collP bp wd wv t ++ (match bp t with
    | some k => [(wd k, wv k)]
    | none => [])

theorem collP_some {bp : Nat → Option Nat} {wd : Nat → WayD} {wv : Nat → Value} {t k : Nat} (h : bp t = some k) : collP bp wd wv (t + 1) = collP bp wd wv t ++ [(wd k, wv k)] := by
  show collP bp wd wv t ++ (match bp t with
    | some k => [(wd k, wv k)]
    | none => []) = _
  rw [h]

theorem collP_none {bp : Nat → Option Nat} {wd : Nat → WayD} {wv : Nat → Value} {t : Nat} (h : bp t = none) : collP bp wd wv (t + 1) = collP bp wd wv t := by
  show collP bp wd wv t ++ (match bp t with
    | some k => [(wd k, wv k)]
    | none => []) = _
  rw [h]
  simp

theorem collP_mem {bp : Nat → Option Nat} {wd : Nat → WayD} {wv : Nat → Value} {p : WP} : ∀ {t : Nat}, p ∈ collP bp wd wv t → ∃ v k, v < t ∧ bp v = some k ∧ p = (wd k, wv k)
  | 0, h => by cases h
  | t + 1, h => by
    cases e : bp t with
    | none =>
      rw [collP_none e] at h
      obtain ⟨v, k, h1, h2⟩ := collP_mem h
      exact ⟨v, k, by omega, h2⟩
    | some k =>
      rw [collP_some e] at h
      rcases List.mem_append.1 h with h1 | h1
      · obtain ⟨v, k, h1, h2⟩ := collP_mem h1
        exact ⟨v, k, by omega, h2⟩
      · exact ⟨t, k, by omega, e, by simpa using h1⟩

theorem collP_len (bp : Nat → Option Nat) (wd : Nat → WayD) (wv : Nat → Value) : ∀ t, (collP bp wd wv t).length ≤ t
  | 0 => by simp [collP]
  | t + 1 => by
    have := collP_len bp wd wv t
    cases e : bp t with
    | none => rw [collP_none e]; omega
    | some k => rw [collP_some e]; simp; omega

theorem collP_apart {bp : Nat → Option Nat} {wd : Nat → WayD} {wv : Nat → Value} (h : ∀ v v' k k', v ≠ v' → bp v = some k → bp v' = some k' → ∀ b, (wv k).ownBlock = some b → (wv k').ownBlock ≠ some b) : ∀ t, (collP bp wd wv t).Pairwise ApartW
  | 0 => by simp [collP]
  | t + 1 => by
    cases e : bp t with
    | none => rw [collP_none e]; exact collP_apart h t
    | some k =>
      rw [collP_some e, List.pairwise_append]
      refine ⟨collP_apart h t, by simp, fun p hp q hq => ?_⟩
      obtain ⟨v, k', hv, e2, rfl⟩ := collP_mem hp
      have : q = (wd k, wv k) := by simpa using hq
      subst this
      intro b hb
      exact h v t k' k (by omega) e2 e b hb

theorem collP_coll {bp : Nat → Option Nat} {wd : Nat → WayD} {wv : Nat → Value} {c : Nat → Int} {h : Nat → List Int} (h0 : bp 0 = none) (hc : ∀ v, cOf bp wd v = c v) (hh : ∀ v, hOf bp wd v = h v) (hto : ∀ v k, bp v = some k → (wd k).to = (v : Int)) (hnn : ∀ v k, bp v = some k → 0 ≤ (wd k).cost) : ∀ t, fstsW (collP bp wd wv (t + 1)) = collT c h t
  | 0 => by rw [collP_none h0]; rfl
  | t + 1 => by
    have ih := collP_coll h0 hc hh hto hnn t (wv := wv)
    have e1 := hc (t + 1)
    have e2 := hh (t + 1)
    unfold collT
    cases e : bp (t + 1) with
    | none =>
      rw [cOf_none e] at e1
      rw [collP_none e, ih, if_neg (by omega), List.append_nil]
    | some k =>
      rw [cOf_some e] at e1
      rw [hOf_some e] at e2
      have h1 := hnn (t + 1) k e
      have h2 := hto (t + 1) k e
      rw [collP_some e, if_pos (by omega), ← ih, ← e1, ← e2, ← h2]
      simp [fstsW]

set_option maxRecDepth 100000 in
theorem run_best (f : Nat → Value) (W : World) {t : Nat} (ht : t ≤ 6) : (Instr.index 122 (.agg #[f 0, f 1, f 2, f 3, f 4, f 5, f 6]) (.int .i64 (t : Int))).run Tryz.prog W = .ok (f t) W := by
  have h : t = 0 ∨ t = 1 ∨ t = 2 ∨ t = 3 ∨ t = 4 ∨ t = 5 ∨ t = 6 := by omega
  rcases h with rfl | rfl | rfl | rfl | rfl | rfl | rfl <;> rfl

set_option maxRecDepth 100000 in
set_option maxHeartbeats 2000000 in
theorem ways_any (W : World) (lo z : Nat) (u : Value) (n : Nat) (q : Nat → Nat) (bp : Nat → Option Nat) (wd : Nat → WayD) (wv : Nat → Value) (s : FS W lo z u n q bp wd wv) :
    Calls Tryz.prog 89 #[.pointer (some ⟨z, 0, none⟩)] W fun e W' => ∃ x, e = .returned x ∧ WaysOwn W' lo W'.heap.size x (collP bp wd wv 7) ∧ Below lo W W' := by
  have hlo := s.size
  have lz := lt_of_heap s.hb.box
  have B0 : Below W.heap.size W (W.alloc (.cells #[] 46)) := (Below.refl _ _).alloc (Nat.le_refl _) _
  have O0 : (W.alloc (.cells #[] 46)).ownsRow W.heap.size 46 3 (.slice (some ⟨W.heap.size, 0, none⟩) 0 0) 0 (flat encW []) := World.ownsRow_lit W #[] 0 (Nat.le_refl _) (by unfold maxLen; omega) (by simp)
  obtain ⟨W0, hW0⟩ : ∃ V, V = W.alloc (.cells #[] 46) := ⟨_, rfl⟩
  rw [← hW0] at B0 O0
  have bx := s.hb.box
  unfold finC at bx
  have d0 := cells_at bx 0
  have d1 := cells_at bx 1
  have d2 := cells_at bx 2
  have d3 := cells_at bx 3
  have d4 := cells_at bx 4
  have d5 := cells_at bx 5
  have d6 := cells_at bx 6
  simp at d0 d1 d2 d3 d4 d5 d6
  have FIN := hide (fun (W' : World) (x : Value) (hb : Below W.heap.size W W') (ho : W'.ownsRow W.heap.size 46 3 x (collP bp wd wv 7).length (flat encW (collP bp wd wv 7))) => show WaysOwn W' lo W'.heap.size x (collP bp wd wv 7) from
    { row := owns_baseS ho hlo
      top := fun k hk => (ho.lt k hk).2
      nears := fun p hp => by
        obtain ⟨v, k, _, e, rfl⟩ := collP_mem hp
        have hr := owns_below (s.row v k e) hb (Nat.le_refl _)
        exact ⟨hr, fun b hb => (hr.lt b hb).2⟩
      apart := collP_apart s.apart 7 })
  have HWY := hide (fun v k (e : bp v = some k) => (s.way v k e).1)
  have HSL := hide (fun v k (e : bp v = some k) => owns_lenS (s.row v k e))
  obtain ⟨f, hf⟩ : ∃ f : Nat → Value, f = fun t => ptrO (bp t) := ⟨_, rfl⟩
  have HF := hide hf
  rw [show ptrO (bp 0) = f 0 by rw [hf]] at d0
  rw [show ptrO (bp 1) = f 1 by rw [hf]] at d1
  rw [show ptrO (bp 2) = f 2 by rw [hf]] at d2
  rw [show ptrO (bp 3) = f 3 by rw [hf]] at d3
  rw [show ptrO (bp 4) = f 4 by rw [hf]] at d4
  rw [show ptrO (bp 5) = f 5 by rw [hf]] at d5
  rw [show ptrO (bp 6) = f 6 by rw [hf]] at d6
  have HO0 := hide O0
  clear hf s bx O0
  go_enter Tryz.func89, Tryz.ntmps89
  go_wp2
  rw [← hW0]
  clear hW0 d0 d1 d2 d3 d4 d5 d6
  go_loopw [11, 3] (fun i o wr => ∃ (t : Nat) (x : Value), t ≤ 7 ∧ i = .int .i64 (t : Int) ∧ o = x ∧ wr.ownsRow W.heap.size 46 3 x (collP bp wd wv t).length (flat encW (collP bp wd wv t)) ∧ Below W.heap.size W wr) (fun i _ _ => 8 - (intOf i).toNat)
  case atStart => exact ⟨0, _, by omega, rfl, rfl, HO0.out, B0⟩
  case round =>
    obtain ⟨t, x, ht, rfl, rfl, hown, hb⟩ := hrel
    clear HO0 B0
    obtain ⟨xa, xc, rfl⟩ := owns_lenS hown
    have hsz := hb.size
    have OW := hide hown
    have hcl := collP_len bp wd wv t
    clear hown
    by_cases htl : t < 7
    · have ht6 : (t : Int) < 7 := by omega
      have hix := fun V => run_best f V (t := t) (by omega)
      cases e : bp t with
      | none =>
        have hft : f t = .pointer none := by rw [HF.out]; show ptrO (bp t) = _; rw [e]; rfl
        rw [hft] at hix
        have HOW := hide (show wr.ownsRow W.heap.size 46 3 (.slice xa (collP bp wd wv t).length xc) (collP bp wd wv (t + 1)).length (flat encW (collP bp wd wv (t + 1))) by rw [collP_none e]; exact OW.out)
        clear e hft
        go_wp2
        go_roundw
        case rel => exact ⟨t + 1, _, by omega, by go_num, rfl, HOW.out, hb⟩
        case measure => simp [intOf]; omega
      | some k =>
        have hft : f t = .pointer (some ⟨k, 0, none⟩) := by rw [HF.out]; show ptrO (bp t) = _; rw [e]; rfl
        rw [hft] at hix
        obtain ⟨ya, yc, hyv⟩ := HSL.out t k e
        have hw := HWY.out t k e
        rw [hyv] at hw
        obtain ⟨y, hy⟩ : ∃ y, y = wd k := ⟨_, rfl⟩
        rw [← hy] at hw hyv
        have lk := lt_of_heap hw
        have hw2 := (hb.block _ lk).trans hw
        have s0 := cells_at hw2 0
        have s1 := cells_at hw2 1
        have s2 := cells_at hw2 2
        simp [wayC] at s0 s1 s2
        have HSP := hide (collP_some e (wd := wd) (wv := wv))
        rw [hyv, ← hy] at HSP
        obtain ⟨C, hC⟩ : ∃ C, C = collP bp wd wv t := ⟨_, rfl⟩
        rw [← hC] at OW HSP hcl ⊢
        clear e hft hw hw2 hy hyv hC
        go_wp2_with (first
          | (at_builtin; refine append_struct5 encW_len (by omega) (by omega) _ rfl _ _ 39 rfl W.heap.size 46 Tryz.underlying39 (.agg (wayC zeroWD (.slice none 0 0))) rfl Tryz.infoWay _ C (y, .slice ya y.hops.length yc) (encW_one _ _ _ _) rfl (OW.out.alloc _) ⟨wr.heap.size, 0, none⟩ 1 rfl (news_struct (cs := encW (y, .slice ya y.hops.length yc))) (by omega) (by simp; omega) ?_))
        intro v' w4 hown' hgrow
        have B4 : Below W.heap.size W w4 := (hb.alloc hsz _).grown hgrow (by simp; omega) (fun j hj => (OW.out.lt j hj).1)
        have O4 := hide (show w4.ownsRow W.heap.size 46 3 v' (collP bp wd wv (t + 1)).length (flat encW (collP bp wd wv (t + 1))) by rw [HSP.out]; simpa using hown')
        obtain ⟨va, vc, rfl⟩ := owns_lenS hown'
        clear hown' hgrow
        go_wp2
        go_roundw
        case rel => exact ⟨t + 1, _, by omega, by go_num, rfl, O4.out, B4⟩
        case measure => simp [intOf]; omega
    · have ht6 : ¬ (t : Int) < 7 := by omega
      have htt : t = 7 := by omega
      subst htt
      have HE := hide (FIN.out wr _ hb OW.out)
      have HBB := hide (hb.mono hlo)
      obtain ⟨C, hC⟩ : ∃ C, C = collP bp wd wv 7 := ⟨_, rfl⟩
      rw [← hC] at HE ⊢
      have HCC := hide hC
      clear hC OW FIN
      go_wp2
      go_ret
      exact ⟨_, rfl, by rw [← HCC.out]; exact HE.out, HBB.out⟩
end Go.Proofs.YtidoieolejkflaaGreat
namespace Go.Proofs.YtidoieolejkflaaGreat
open Go.RowKit

set_option linter.unusedSimpArgs false

theorem gi_none (q : Nat → Nat) (wd : Nat → WayD) : GI (fun _ => false) (fun _ => -1) (fun _ => []) 0 q (fun _ => none) wd :=
  ⟨fun _ => rfl, fun _ => rfl, fun _ _ e => (by cases e), fun i hi => (by omega), fun _ _ e => (by cases e), fun i j hi => (by omega), fun _ _ e => (by cases e)⟩

theorem fs_new (W : World) (wd : Nat → WayD) (wv : Nat → Value) (q : Nat → Nat) : FS (W.alloc (.cells #[.pointer none, .pointer none, .pointer none, .pointer none, .pointer none, .pointer none, .pointer none, .slice none 0 0] 126)) W.heap.size W.heap.size (.slice none 0 0) 0 q (fun _ => none) wd wv where
  lz := Nat.le_refl _
  hb := ⟨heap_alloc_new W _, rfl, World.ownsRow_nil _ _ _ _, fun i hi => by omega, fun i hi => by omega⟩
  hp := fun i _ hi => by omega
  way := fun _ _ e => by cases e
  row := fun _ _ e => by cases e
  short := fun _ _ e => by cases e
  apart := fun _ _ _ _ _ e => by cases e
  to := fun _ _ e => by cases e
  b0 := rfl

set_option maxRecDepth 100000 in
set_option maxHeartbeats 4000000 in
theorem iwaysIn_any (v : Value) (ps : List RP) (hi : Nat) (area src : Int) (w : World) (hv : RecsIn w hi v ps) (hhi : hi ≤ w.heap.size) (hn : tot ps ≤ 1048576) :
    Calls Tryz.prog 39 #[v, .int .i64 area, .int .i64 src] w fun e w' => ∃ u qs, e = .returned u ∧ IsWays (fsts ps) area src (fstsW qs) ∧ WaysOwn w' w.heap.size w'.heap.size u qs ∧ Below w.heap.size w w' := by
  obtain ⟨a1, c1, rfl⟩ := owns_lenS hv.row
  have HS := hide (istoreOk_any (.slice a1 ps.length c1) ps w hn (RecsAt.more hv.at hhi))
  have HP := hide (fun W (hb : Below w.heap.size w W) => placeN_any (.slice a1 ps.length c1) ps hi area src W (hv.below hb hhi) (Nat.le_trans hhi hb.size) hn)
  have HV := hide hv
  clear hv
  obtain ⟨SB, hSB⟩ : ∃ b, b = storeB (fsts ps) := ⟨_, rfl⟩
  obtain ⟨IB, hIB⟩ : ∃ b, b = inB src 1 6 := ⟨_, rfl⟩
  rw [← hSB] at HS
  have HSB := hide hSB
  have HIB := hide hIB
  clear hSB hIB
  have EMP := hide (fun (e : (storeB (fsts ps) && inB src 1 6 && nodeB (fsts ps) area src) = false) => show IsWays (fsts ps) area src (fstsW []) by unfold IsWays; rw [e]; rfl)
  have LIT := hide (fun W (hb : Below w.heap.size w W) => ways_lit W w.heap.size hb.size)
  go_enter Tryz.func39, Tryz.ntmps39
  go_wp2_with fail
  refine HS.out.mono ?_
  rintro e w1 ⟨rfl, b1⟩
  cases SB
  · have HE := hide (EMP.out (by rw [← HSB.out]; rfl))
    have HL := hide (LIT.out w1 b1)
    have HB := hide (b1.alloc b1.size (.cells #[] 46))
    go_wp2
    go_ret
    exact ⟨_, [], rfl, HE.out, HL.out, HB.out⟩
  · go_wp2_with fail
    refine (isIn_any _ _ _ _).mono ?_
    rintro e w2 ⟨rfl, rfl⟩
    rw [← HIB.out]
    cases IB
    · have HE := hide (EMP.out (by rw [← HSB.out, ← HIB.out]; rfl))
      have HL := hide (LIT.out w1 b1)
      have HB := hide (b1.alloc b1.size (.cells #[] 46))
      go_wp2
      go_ret
      exact ⟨_, [], rfl, HE.out, HL.out, HB.out⟩
    · have hpl := HP.out w1 b1
      have hnb := node_right HSB.out.symm area src
      cases hR : plN (fsts ps) area src with
      | none =>
        rw [hR] at hpl hnb
        unfold plV2 at hpl
        have HPL := hide hpl
        have HE := hide (EMP.out (by rw [hnb, ← HSB.out, ← HIB.out]; rfl))
        clear hpl hnb hR
        go_wp2_with fail
        refine HPL.out.mono ?_
        rintro e w2 ⟨rfl, b2⟩
        have B2 : Below w.heap.size w w2 := b1.trans (b2.mono b1.size)
        have HL := hide (LIT.out w2 B2)
        have HB := hide (B2.alloc B2.size (.cells #[] 46))
        clear b2
        go_wp2
        go_ret
        exact ⟨_, [], rfl, HE.out, HL.out, HB.out⟩
      | some k0 =>
        rw [hR] at hpl hnb
        unfold plV2 at hpl
        have HPL := hide hpl
        obtain ⟨s, rfl⟩ : ∃ s : Nat, src = (s : Int) := ⟨src.toNat, by have := inB_iff.1 HIB.out.symm; omega⟩
        have hs6 := inB_iff.1 HIB.out.symm
        have hs : 1 ≤ s ∧ s ≤ 6 := by omega
        have FIN := hide (fun c h (hf : Fix (linkN (fsts ps) area) s c h) => show IsWays (fsts ps) area (s : Int) (collT c h 6) by
          unfold IsWays
          rw [hnb, ← HSB.out, ← HIB.out]
          exact ⟨c, h, by simpa using hf, rfl⟩)
        have HLK := hide (linkN_links (area := area) HSB.out.symm)
        have HLN := hide (fun (a b : Nat) (ha : 1 ≤ a ∧ a ≤ 6) (hb : 1 ≤ b ∧ b ≤ 6) => linked_right HSB.out.symm area ha hb)
        clear hpl hnb hR EMP LIT HP
        go_wp2_with fail
        refine HPL.out.mono ?_
        rintro e w2 ⟨rfl, b2⟩
        have B2 : Below w.heap.size w w2 := b1.trans (b2.mono b1.size)
        have B3 : Below w2.heap.size w2 (w2.alloc (.cells #[.pointer none, .pointer none, .pointer none, .pointer none, .pointer none, .pointer none, .pointer none, .slice none 0 0] 126)) := (Below.refl _ _).alloc (Nat.le_refl _) _
        have fs := fs_new w2 (fun _ => zeroWD) (fun _ => .slice none 0 0) (fun _ => 0)
        obtain ⟨w3, hw3⟩ : ∃ W, W = w2.alloc (.cells #[.pointer none, .pointer none, .pointer none, .pointer none, .pointer none, .pointer none, .pointer none, .slice none 0 0] 126) := ⟨_, rfl⟩
        rw [← hw3] at B3 fs
        obtain ⟨lo, hlo⟩ : ∃ l, l = w2.heap.size := ⟨_, rfl⟩
        have HFO := hide (found_any w3 w2.heap.size w2.heap.size (.slice none 0 0) 0 (fun _ => 0) (fun _ => none) (fun _ => zeroWD) (fun _ => .slice none 0 0) s ⟨(s : Int), 0, []⟩ (.slice none 0 0) fs (by omega) hs rfl (World.ownsRow_nil _ _ _ _) (by simp) (fun _ _ _ e => by cases e) (fun _ e => by cases e))
        unfold wayC at HFO
        have HHI : hi ≤ w2.heap.size := by have := B2.size; omega
        have hwlo : w.heap.size ≤ w2.heap.size := B2.size
        have HV3 := hide (HV.out.below (B2.trans (B3.mono hwlo)) hhi)
        clear fs b2 HPL HV
        go_wp2_with fail
        rw [← hw3]
        clear hw3
        refine HFO.out.mono ?_
        rintro e w4 ⟨rfl, b4, hcs⟩
        have HGO : Hid (∃ m, GO w4 w2.heap.size w2.heap.size (linkN (fsts ps) area) s m ∧ m ≤ 43) := by
          rcases hcs with ⟨hcase, u3, q3, fs4, hsh⟩ | ⟨kn, vy, e1, _⟩
          · refine ⟨7 * (6 - cardF (fun _ => false)) + 1, ⟨u3, 1, q3, _, _, _, (fun _ => false), (fun v => if v = s then 0 else -1), (fun _ => []), fs4, ?_, Inv.init hs, fun v => ?_, rfl⟩, by rw [card_zero]; omega⟩
            · have g := (gi_none (fun _ => 0) (fun _ => zeroWD)).push (t := s) (k := w3.heap.size) (x := ⟨(s : Int), 0, []⟩) rfl rfl (.inl (by omega)) (fun i hi => by omega) (fun v e => by cases e) hsh (by show (0 : Int) ≤ 0; omega)
              have ec : upd (fun _ => (-1 : Int)) s 0 = fun v => if v = s then 0 else -1 := by funext v; rfl
              have eh : upd (fun _ => ([] : List Int)) s [] = fun _ => [] := by funext v; unfold upd; split <;> rfl
              rw [← ec, ← eh]
              exact g
            · rw [card_zero]
              show (if v = s then (0 : Int) else -1) ≤ _
              split <;> omega
          · cases e1
        have HGN := hide (goOn_any w4 w2.heap.size w2.heap.size (.slice a1 ps.length c1) ps hi area (linkN (fsts ps) area) s (HV3.out.below b4 HHI) HHI hn HLK.out HLN.out HGO.out)
        have B4 : Below w.heap.size w w4 := (B2.trans (B3.mono hwlo)).trans (b4.mono hwlo)
        clear hcs b4 HGO HFO
        go_wp2_with fail
        refine HGN.out.mono ?_
        rintro e w5 ⟨rfl, hge, b5⟩
        obtain ⟨u5, q5, bp5, wd5, wv5, c5, h5, fs5, cc5, hh5, nn5, fx5⟩ := hge
        have B5 : Below w.heap.size w w5 := B4.trans (b5.mono hwlo)
        have HWA := hide (ways_any w5 w2.heap.size w2.heap.size u5 0 q5 bp5 wd5 wv5 fs5)
        have HIS := hide (show IsWays (fsts ps) area (s : Int) (fstsW (collP bp5 wd5 wv5 7)) by
          rw [collP_coll fs5.b0 cc5 hh5 fs5.to nn5 6]
          exact FIN.out c5 h5 fx5)
        clear fs5 cc5 hh5 nn5 fx5 b5 HGN
        go_wp2_with fail
        refine HWA.out.mono ?_
        rintro e w6 ⟨x, rfl, ow6, b6⟩
        obtain ⟨xa, xc, rfl⟩ := owns_lenS ow6.row
        have B6 := hide (B5.trans (b6.mono hwlo))
        have O6 := hide (ow6.wide hwlo (Nat.le_refl _))
        clear ow6 b6 HWA
        go_wp2
        go_ret
        first
          | exact ⟨_, _, rfl, HIS.out, O6.out, B6.out⟩
          | exact ⟨_, rfl, _, HIS.out, O6.out, B6.out⟩
end Go.Proofs.YtidoieolejkflaaGreat
namespace Go.Proofs.YtidoieolejkflaaGreat
open Go.RowKit

set_option linter.unusedSimpArgs false

theorem lit_own (W : World) (lo : Nat) (hb : lo ≤ W.heap.size) : WaysOwn (W.alloc (.cells #[] 46)) lo (W.alloc (.cells #[] 46)).heap.size (.slice (some ⟨W.heap.size, 0, none⟩) 0 0) [] := ways_lit W lo hb

set_option maxRecDepth 100000 in
set_option maxHeartbeats 4000000 in
theorem iwithin_any (v u : Value) (ps : List RP) (al : List Int) (hi : Nat) (src : Int) (w : World) (hv : RecsIn w hi v ps) (ha : HopsAt w u al hi) (hhi : hi ≤ w.heap.size) (hn : tot ps ≤ 1048576) (hal : al.length ≤ 1048576) :
    Calls Tryz.prog 16 #[v, u, .int .i64 src] w fun e w' => ∃ x qs, e = .returned x ∧ IsBest (withinS (fsts ps) al src) (fstsW qs) ∧ WaysOwn w' w.heap.size w'.heap.size x qs ∧ Below w.heap.size w w' := by
  obtain ⟨a1, c1, rfl⟩ := owns_lenS hv.row
  obtain ⟨a2, c2, rfl⟩ := ha.shape
  have BX : Below w.heap.size w (w.alloc (.cells #[] 46)) := (Below.refl _ _).alloc (Nat.le_refl _) _
  have LIT := lit_own w w.heap.size (Nat.le_refl _)
  have hs0 : (w.alloc (.cells #[] 46)).heap.size = w.heap.size + 1 := by simp
  obtain ⟨w0, hw0⟩ : ∃ W, W = w.alloc (.cells #[] 46) := ⟨_, rfl⟩
  rw [← hw0] at BX LIT hs0
  have HRE := hide (real_any (.slice a2 al.length c2) al hi w0 hal (RowAt.later ha BX hhi) (by omega))
  have HWI := hide (fun area W (hb : Below w.heap.size w W) => iwaysIn_any (.slice a1 ps.length c1) ps hi area src W (hv.below hb hhi) (Nat.le_trans hhi hb.size) hn)
  clear hv ha
  have HLIT := hide LIT
  clear LIT
  obtain ⟨L, hL⟩ : ∃ L, L = realT al 3 := ⟨_, rfl⟩
  have hLl : L.length ≤ 3 := by rw [hL]; exact realT_len al 3
  have HFIN := hide (show ∀ to d, withinS (fsts ps) L src to d ↔ withinS (fsts ps) al src to d from fun to d => withinS_areas (fun a h1 h2 => by rw [hL, realT_mem]; exact ⟨fun h => h.1, fun h => ⟨h, h1, h2⟩⟩) to d)
  rw [← hL] at HRE
  clear hL
  go_enter Tryz.func16, Tryz.ntmps16
  go_wp2_with fail
  rw [← hw0]
  clear hw0
  refine HRE.out.mono ?_
  rintro e w1 ⟨ra, rfl, hra, b1⟩
  obtain ⟨raa, rac, rfl⟩ := owns_lenS hra.row
  have b1s := b1.size
  have B1 : Below w.heap.size w w1 := BX.trans (b1.mono BX.size)
  have HO1 := hide ((HLIT.out.below b1 (Nat.le_refl _)).wide (Nat.le_refl _) b1s)
  have HRA := hide hra
  clear hra HLIT HRE b1
  go_wp2
  go_loopw [16, 7] (fun i o wr => ∃ (k : Nat) (x : Value) (qs : List WP), k ≤ L.length ∧ i = .int .i64 (k : Int) ∧ o = x ∧ WaysOwn wr w.heap.size wr.heap.size x qs ∧ Hid (IsBest (withinS (fsts ps) (L.take k) src) (fstsW qs)) ∧ Off x w0.heap.size w1.heap.size ∧ IntsOwn wr w0.heap.size w1.heap.size (.slice raa L.length rac) L ∧ Below w.heap.size w wr ∧ w1.heap.size ≤ wr.heap.size) (fun i _ _ => L.length - (intOf i).toNat)
  case atStart => exact ⟨0, _, [], by omega, rfl, rfl, HO1.out, hide (isBest_none (fun to d ⟨_, a, h, _⟩ => by simp at h)), fun b hb => by simp [Value.ownBlock] at hb; omega, HRA.out, B1, Nat.le_refl _⟩
  case round =>
    obtain ⟨k, x, qs, hk, rfl, rfl, hown, HB, hoff, hra, hnx, hsz⟩ := hrel
    clear HO1 HRA
    obtain ⟨xa, xc, rfl⟩ := owns_lenS hown.row
    rename World => wa
    by_cases hlt : k < L.length
    · obtain ⟨area, har⟩ : ∃ a, L[k]? = some a := ⟨L[k], List.getElem?_eq_getElem hlt⟩
      obtain ⟨b, off, cap', hve, hbb, c0⟩ := hra.at.cell k area har
      cases hve
      have hki : (0 : Int) ≤ (k : Int) := by omega
      have hkj : (k : Int) < (L.length : Int) := by omega
      have HOWN := hide hown
      have HOFF := hide hoff
      have HRA := hide hra
      have HAR := hide har
      clear hown hoff hra har
      go_wp2_with fail
      refine (HWI.out area _ hnx).mono ?_
      rintro e w2 ⟨uw, ws, rfl, hws, how, b2⟩
      obtain ⟨wsa, wsc, rfl⟩ := owns_lenS how.row
      have hwl := (waysD_asc (fsts ps) area src)
      have hwe := hws.eq
      have hwn : ws.length ≤ 6 := by
        have := asc_tos hwl.1 (fun d hd => (hwl.2 d hd).1.node)
        rw [← hwe] at this
        simpa [fstsW] using this
      have hb2 := b2.size
      have ST0 := PutSt.start HOWN.out HB.out HOFF.out hsz hnx.size b2 how
      have RA2 := HRA.out.below b2 hsz
      have B2 : Below w.heap.size w w2 := hnx.trans (b2.mono hnx.size)
      have HWE := hide hwe
      have HST0 := hide ST0
      have HRA2 := hide RA2
      clear hws how hwe hwl ST0 RA2 HOWN HOFF HRA HB b2
      go_wp2
      go_loopw [25, 7] (fun i o wr => ∃ (j : Nat) (x : Value) (qs : List WP), j ≤ ws.length ∧ i = .int .i64 (j : Int) ∧ o = x ∧ PutSt wr w.heap.size w0.heap.size w1.heap.size wa.heap.size w2.heap.size (fun to d => withinS (fsts ps) (L.take k) src to d ∨ (d.to = to ∧ d ∈ (fstsW ws).take j)) x qs (.slice wsa ws.length wsc) ws j ∧ IntsOwn wr w0.heap.size w1.heap.size (.slice (some ⟨b, off, none⟩) L.length rac) L ∧ Below w.heap.size w wr ∧ w2.heap.size ≤ wr.heap.size) (fun i _ _ => ws.length - (intOf i).toNat)
      case atStart => exact ⟨0, _, qs, by omega, rfl, rfl, { HST0.out with best := HST0.out.best.congr (fun to d => ⟨.inl, by rintro (h | ⟨_, h⟩); exact h; simp at h⟩) }, HRA2.out, B2, Nat.le_refl _⟩
      case round =>
        obtain ⟨j, y, qs2, hj, rfl, rfl, st, hra2, hnx2, hsz2⟩ := hrel
        clear HST0 HRA2 B2
        obtain ⟨ya, yc, rfl⟩ := owns_lenS st.own.row
        have hS : ∀ to d, (withinS (fsts ps) (L.take k) src to d ∨ (d.to = to ∧ d ∈ (fstsW ws).take j)) → GoodW d ∧ d.to = to := by
          rintro to d (h | ⟨h1, h2⟩)
          · exact withinS_good h
          · exact ⟨((waysD_asc (fsts ps) area src).2 d (by rw [← HWE.out]; exact List.mem_of_mem_take h2)).1, h1⟩
        by_cases hjl : j < ws.length
        · obtain ⟨r, hr⟩ : ∃ r, ws[j]? = some r := ⟨ws[j], List.getElem?_eq_getElem hjl⟩
          obtain ⟨b3, off3, cp3, hve, hbb3, c0, c1, c2, _⟩ := st.from_.at.cells j r hr
          cases hve
          have hgr : GoodW r.1 := ((waysD_asc (fsts ps) area src).2 r.1 (by rw [← HWE.out]; simp only [fstsW, List.mem_map]; exact ⟨r, List.mem_of_getElem? hr, rfl⟩)).1
          have hji : (0 : Int) ≤ (j : Int) := by omega
          have hjj : (j : Int) < (ws.length : Int) := by omega
          obtain ⟨rra, rrc, hrn⟩ := owns_lenS (st.from_.nears r (List.mem_of_getElem? hr)).1
          rw [hrn] at c2
          have hgd := st.good hS
          have hT : ∀ to d, ((withinS (fsts ps) (L.take k) src to d ∨ (d.to = to ∧ d ∈ (fstsW ws).take j)) ∨ (d = r.1 ∧ r.1.to = to)) ↔ (withinS (fsts ps) (L.take k) src to d ∨ (d.to = to ∧ d ∈ (fstsW ws).take (j + 1))) := by
            intro to d
            rw [take_mem_step (fstsW_at hr)]
            constructor
            · rintro ((h | ⟨h1, h2⟩) | ⟨h1, h2⟩)
              · exact .inl h
              · exact .inr ⟨h1, .inl h2⟩
              · exact .inr ⟨by rw [h1]; exact h2, .inr h1⟩
            · rintro (h | ⟨h1, h2 | h2⟩)
              · exact .inl (.inl h)
              · exact .inl (.inr ⟨h1, h2⟩)
              · exact .inr ⟨h2, by rw [← h2]; exact h1⟩
          have BA : Below wr.heap.size wr (wr.alloc (.cells #[.int .i64 r.1.to, .int .i64 r.1.cost, .slice rra r.1.hops.length rrc] 46)) := (Below.refl _ _).alloc (Nat.le_refl _) _
          obtain ⟨w3, hw3⟩ : ∃ W, W = wr.alloc (.cells #[.int .i64 r.1.to, .int .i64 r.1.cost, .slice rra r.1.hops.length rrc] 46) := ⟨_, rfl⟩
          rw [← hw3] at BA
          have st3 := st.below BA
          have ra3 := hra2.below BA (by omega)
          have B3 : Below w.heap.size w w3 := hnx2.trans (BA.mono hnx2.size)
          have hs3 := BA.size
          have HPW := putWay_any (.slice ya qs2.length yc) qs2 w.heap.size r w3 st3.own B3.size (by omega) (fun p hp => by have := hgd.2 p hp; omega) (by have := hgr.len; omega) st3.best.1 (st3.hop hr) (st3.apartR hr)
          unfold wayC at HPW
          rw [hrn] at HPW
          have HNX := hide (fun (W' : World) (x' : Value) (qs' : List WP) (hp : PutD (fstsW qs2) r.1 (fstsW qs')) (ho : WaysOwn W' w.heap.size W'.heap.size x' qs') (hf : FromPut w3.heap.size qs2 r qs') hn (hg : w3.grownBy W' (Value.slice ya qs2.length yc).ownBlock) => (⟨st3.put hr hS hgr hT hp ho hf hn hg, ra3.keep (st3.offR.kept hg), B3.grown hg B3.size (fun b hb => (st3.own.row.lt b hb).1), hg.size⟩ : _ ∧ _ ∧ _ ∧ _))
          have HP := hide HPW
          clear HPW hgd hT hS hr hrn st st3 hra2 ra3 hgr
          go_wp2_with fail
          rw [← hw3]
          clear hw3
          refine HP.out.mono ?_
          rintro e w4 ⟨x', qs', rfl, hp, ho, hf, hn', hg⟩
          obtain ⟨n1, n2, n3, n4⟩ := HNX.out w4 x' qs' hp ho hf hn' hg
          obtain ⟨x'a, x'c, rfl⟩ := owns_lenS ho.row
          have N1 := hide n1
          have N2 := hide n2
          have N3 := hide n3
          clear n1 n2 n3 hp ho hf hn' hg HNX HP
          go_wp2
          go_roundw
          case rel => exact ⟨j + 1, _, qs', by omega, by go_num, rfl, N1.out, N2.out, N3.out, by omega⟩
          case measure => simp [intOf]; omega
        · have hjn : ¬ (j : Int) < (ws.length : Int) := by omega
          have HBX := hide (show IsBest (withinS (fsts ps) (L.take (k + 1)) src) (fstsW qs2) from st.best.congr (fun to d => by
            rw [withinS_step HAR.out, show (fstsW ws).take j = fstsW ws from List.take_of_length_le (by simp [fstsW]; omega), HWE.out]))
          have HOX := hide st.own
          have HFX := hide st.offR
          have HRX := hide hra2
          have HNX := hide hnx2
          have hsf : w1.heap.size ≤ wr.heap.size := by omega
          clear st hra2 hnx2 hS
          go_wp2
          go_roundw
          case rel => exact ⟨k + 1, _, qs2, by omega, by go_num, rfl, HOX.out, HBX, HFX.out, HRX.out, HNX.out, hsf⟩
          case measure => simp [intOf]; omega
    · have hkn : ¬ (k : Int) < (L.length : Int) := by omega
      have HE := hide (show IsBest (withinS (fsts ps) al src) (fstsW qs) from by
        have h := HB.out
        rw [List.take_of_length_le (by omega)] at h
        exact h.congr HFIN.out)
      have HO := hide hown
      have HN := hide hnx
      clear hown hnx HB hoff hra
      go_wp2
      go_ret
      first
        | exact ⟨_, qs, rfl, HE.out, HO.out, HN.out⟩
        | exact ⟨_, rfl, qs, HE.out, HO.out, HN.out⟩
end Go.Proofs.YtidoieolejkflaaGreat
namespace Go.Proofs.YtidoieolejkflaaGreat
open Go.RowKit

def totD (xs : List RecD) : Nat := (xs.map (fun x => 1 + x.near.length)).sum

theorem tot_D (ps : List RP) : tot ps = totD (fsts ps) := by simp [tot, totD, fsts, List.map_map, Function.comp_def]

theorem totD_cons (x : RecD) (xs : List RecD) : totD (x :: xs) = 1 + x.near.length + totD xs := by simp [totD]

theorem totD_append (a b : List RecD) : totD (a ++ b) = totD a + totD b := by simp [totD]

theorem totD_filter (f : RecD → Bool) (xs : List RecD) : totD (xs.filter f) ≤ totD xs := by
  induction xs with
  | nil => simp [totD]
  | cons x xs ih =>
    rw [List.filter_cons]
    split
    · rw [totD_cons, totD_cons]; omega
    · rw [totD_cons]; omega

theorem eqRecS_own (v1 v2 : Value) (ps qs : List RP) (l1 h1 l2 h2 : Nat) (w : World) (k1 : RecsOwn w l1 h1 v1 ps) (k2 : RecsOwn w l2 h2 v2 qs) (he : fsts ps = fsts qs) (hn : tot ps ≤ 1048576) (g1 : h1 ≤ w.heap.size) (g2 : h2 ≤ w.heap.size) :
    Calls Tryz.prog 30 #[v1, v2] w fun e w' => e = .returned (.bool true) ∧ Below w.heap.size w w' := by
  have h := eqRecordS_any v1 v2 ps qs w (k1.at.more g1) (k2.at.more g2) (Nat.le_trans (tot_len ps) hn) (fun _ hp => Nat.le_trans (tot_mem hp) hn)
  rw [decide_eq_true he] at h
  exact h

theorem toRecS_own (v : Value) (ps : List RP) (w W : World) (h0 : RecsAt w v ps w.heap.size) (hb : Below w.heap.size w W) (hn : tot ps ≤ 1048576) :
    Calls Tryz.prog 27 #[v] W fun e w' => ∃ x qs, e = .returned x ∧ fsts qs = fsts ps ∧ RecsOwn w' W.heap.size w'.heap.size x qs ∧ Below W.heap.size W w' :=
  toRecordS_any v ps W (Nat.le_trans (tot_len ps) hn) (fun _ hp => Nat.le_trans (tot_mem hp) hn) ((h0.later hb (Nat.le_refl _)).more hb.size)

theorem tot_eq {ps qs : List RP} (h : fsts ps = fsts qs) : tot ps = tot qs := by rw [tot_D, tot_D, h]

theorem mkE_pos (ps : List RP) : ¬ mkE 1 ps < 0 := by have := mkE_tot 1 ps; omega

theorem heldS_own (v : Value) (ps : List RP) (l h : Nat) (w : World) (k : RecsOwn w l h v (mkL 1 ps)) (hn : tot ps ≤ 1048576) (g : h ≤ w.heap.size) :
    Calls Tryz.prog 38 #[v, .int .i64 1] w fun e w' => e = .returned (.int .i64 (mkE 1 ps)) ∧ w = w' :=
  heldRecordS_any v ps 1 w (k.at.more g) hn (by omega) (by omega)
end Go.Proofs.YtidoieolejkflaaGreat
namespace Go.Proofs.YtidoieolejkflaaGreat
open Go.RowKit

def totWD (xs : List WayD) : Nat := (xs.map (fun x => 1 + x.hops.length)).sum

theorem totW_D (ps : List WP) : totW ps = totWD (fstsW ps) := by simp [totW, totWD, fstsW, List.map_map, Function.comp_def]

theorem totWD_cons (x : WayD) (xs : List WayD) : totWD (x :: xs) = 1 + x.hops.length + totWD xs := by simp [totWD]

theorem totWD_append (a b : List WayD) : totWD (a ++ b) = totWD a + totWD b := by simp [totWD]

theorem totWD_filter (f : WayD → Bool) (xs : List WayD) : totWD (xs.filter f) ≤ totWD xs := by
  induction xs with
  | nil => simp [totWD]
  | cons x xs ih =>
    rw [List.filter_cons]
    split
    · rw [totWD_cons, totWD_cons]; omega
    · rw [totWD_cons]; omega

theorem eqWayS_own (v1 v2 : Value) (ps qs : List WP) (l1 h1 l2 h2 : Nat) (w : World) (k1 : WaysOwn w l1 h1 v1 ps) (k2 : WaysOwn w l2 h2 v2 qs) (he : fstsW ps = fstsW qs) (hn : totW ps ≤ 1048576) (g1 : h1 ≤ w.heap.size) (g2 : h2 ≤ w.heap.size) :
    Calls Tryz.prog 29 #[v1, v2] w fun e w' => e = .returned (.bool true) ∧ Below w.heap.size w w' := by
  have h := eqWayS_any v1 v2 ps qs w (k1.at.more g1) (k2.at.more g2) (Nat.le_trans (totW_len ps) hn) (fun _ hp => Nat.le_trans (totW_mem hp) hn)
  rw [decide_eq_true he] at h
  exact h

theorem totW_eq {ps qs : List WP} (h : fstsW ps = fstsW qs) : totW ps = totW qs := by rw [totW_D, totW_D, h]

theorem mkWE_pos (ps : List WP) : ¬ mkWE 1 ps < 0 := by have := mkWE_tot 1 ps; omega

theorem heldWS_own (v : Value) (ps : List WP) (l h : Nat) (w : World) (k : WaysOwn w l h v (mkWL 1 ps)) (hn : totW ps ≤ 1048576) (g : h ≤ w.heap.size) :
    Calls Tryz.prog 35 #[v, .int .i64 1] w fun e w' => e = .returned (.int .i64 (mkWE 1 ps)) ∧ w = w' :=
  heldWayS_any v ps 1 w (k.at.more g) hn (by omega) (by omega)

structure WayBox (W : World) (lo z : Nat) (x : WayD) (u : Value) : Prop where
  box : W.heap[z]? = some (.cells (wayC x u) 46)
  own : W.ownsRow lo 3 1 u x.hops.length (flat intE x.hops)
  low : lo ≤ z

set_option linter.unusedSimpArgs false

/-- the same, all its blocks in lo .. hi -/
structure WBoxH (W : World) (lo hi z : Nat) (x : WayD) (u : Value) : Prop where
  b : WayBox W lo z x u
  zh : z < hi
  uh : ∀ k, u.ownBlock = some k → k < hi

theorem WBoxH.of {W : World} {lo z : Nat} {x : WayD} {u : Value} (h : WayBox W lo z x u) : WBoxH W lo W.heap.size z x u := ⟨h, lt_of_heap h.box, fun k hk => (h.own.lt k hk).2⟩

theorem WBoxH.keep {W W' : World} {lo hi z : Nat} {x : WayD} {u : Value} (h : WBoxH W lo hi z x u) (hk : ∀ k, lo ≤ k → k < hi → k < W.heap.size → W'.heap[k]? = W.heap[k]?) : WBoxH W' lo hi z x u :=
  ⟨⟨(hk z h.b.low h.zh (lt_of_heap h.b.box)).trans h.b.box, owns_keepB h.b.own (fun k e => hk k (h.b.own.lt k e).1 (h.uh k e) (h.b.own.lt k e).2), h.b.low⟩, h.zh, h.uh⟩

theorem WBoxH.below {W W' : World} {lo hi z B : Nat} {x : WayD} {u : Value} (h : WBoxH W lo hi z x u) (hb : Below B W W') (hB : hi ≤ B) : WBoxH W' lo hi z x u := h.keep (fun k _ h2 _ => hb.block k (by omega))

theorem WBoxH.frame {W W' : World} {lo hi z l2 h2 : Nat} {x : WayD} {u : Value} (h : WBoxH W lo hi z x u) (hb : Frame l2 h2 W W') (hB : hi ≤ l2 ∨ h2 ≤ lo) : WBoxH W' lo hi z x u := h.keep (fun k h1 h2 h3 => hb.block k h3 (by omega))

theorem wbox_new {W : World} {lo : Nat} {x : WayD} {u : Value} (h : W.ownsRow lo 3 1 u x.hops.length (flat intE x.hops)) (hlo : lo ≤ W.heap.size) : WBoxH (W.alloc (.cells (wayC x u) 46)) lo (W.alloc (.cells (wayC x u) 46)).heap.size W.heap.size x u :=
  WBoxH.of ⟨heap_alloc_new _ _, h.alloc _, hlo⟩

theorem WBoxH.wayAt {W : World} {lo hi z : Nat} {x : WayD} {u : Value} (h : WBoxH W lo hi z x u) : WayAt W (.agg (wayC x u)) x W.heap.size := ⟨u, rfl, owns_rowAt h.b.own⟩

theorem eqWay_own (u1 u2 : Value) (x : WayD) (W : World) (h1 : WayAt W (.agg (wayC x u1)) x W.heap.size) (h2 : WayAt W (.agg (wayC x u2)) x W.heap.size) (hn : x.hops.length ≤ 1048576) :
    Calls Tryz.prog 78 #[.agg (wayC x u1), .agg (wayC x u2)] W fun e w' => e = .returned (.bool true) ∧ Below W.heap.size W w' := by
  have h := eqWay_any _ _ x x W h1 h2 hn
  rw [decide_eq_true rfl] at h
  exact h

theorem HopsM {W : World} {b n : Nat} {v : Value} {q : Int} (h : W.ownsRow b 3 1 v n (flat intE (marksI q n))) : HopsAt W v (marksI q n) W.heap.size := owns_rowAt (xs := marksI q n) (by rw [marksI_length]; exact h)

theorem kept_newW {X w3 : World} {o : Obj} (b : Below (X.alloc o).heap.size (X.alloc o) w3) : w3.heap[X.heap.size]? = some o := (b.block _ (by simp)).trans (heap_alloc_new _ _)

theorem below_alW {B : Nat} {w W : World} (h : Below B w W) (hB : B ≤ w.heap.size) (o : Obj) : Below B w (W.alloc o) := h.alloc (Nat.le_trans hB h.size) o

end Go.Proofs.YtidoieolejkflaaGreat
