/-
  (*impl.wayFinder).ways: its contract.
  impl.WaysIn: its contract.
  laws.sameInts: its contract; the hops of two ways are the same in either order.
  spec.l06Way: some way is drawn.
  The region of spec.DrawTogether that draws one more hop, in every order.
-/
import Derived.Test.YtdaigojpeofmpaaGreatQb23
import Derived.Test.YtdaigojpeofmpaaGreatQb12
import Derived.Test.YtdaigojpeofmpaaGreatQb25
import Derived.Test.YtdaigojpeofmpaaGreatQb5
import Derived.Test.YtdaigojpeofmpaaGreatQb7
import Derived.Test.YtdaigojpeofmpaaGreatQb9
import Derived.Test.YtdaigojpeofmpaaGreatQb20
import Derived.Test.YtdaigojpeofmpaaGreatQb2
namespace Go.Proofs.YtdaigojpeofmpaaGreat
open Go.RowKit

set_option linter.unusedSimpArgs false

def collP (bp : Nat → Option Nat) (wd : Nat → WayD) (wv : Nat → Value) : Nat → List WP
  | 0 => []
  | t + 1 => collP bp wd wv t ++ (match bp t with
    | some k => [(wd k, wv k)]
    | none => [])

theorem collP_some {bp : Nat → Option Nat} {wd : Nat → WayD} {wv : Nat → Value} {t k : Nat} (h : bp t = some k) : collP bp wd wv (t + 1) = collP bp wd wv t ++ [(wd k, wv k)] := by
  show collP bp wd wv t ++ (match bp t with
    | some k => [(wd k, wv k)]
    | none => []) = _
  rw [h]

theorem collP_none {bp : Nat → Option Nat} {wd : Nat → WayD} {wv : Nat → Value} {t : Nat} (h : bp t = none) : collP bp wd wv (t + 1) = collP bp wd wv t := by
  show collP bp wd wv t ++ (match bp t with
    | some k => [(wd k, wv k)]
    | none => []) = _
  rw [h]
  simp

theorem collP_mem {bp : Nat → Option Nat} {wd : Nat → WayD} {wv : Nat → Value} {p : WP} : ∀ {t : Nat}, p ∈ collP bp wd wv t → ∃ v k, v < t ∧ bp v = some k ∧ p = (wd k, wv k)
  | 0, h => by cases h
  | t + 1, h => by
    cases e : bp t with
    | none =>
      rw [collP_none e] at h
      obtain ⟨v, k, h1, h2⟩ := collP_mem h
      exact ⟨v, k, by omega, h2⟩
    | some k =>
      rw [collP_some e] at h
      rcases List.mem_append.1 h with h1 | h1
      · obtain ⟨v, k, h1, h2⟩ := collP_mem h1
        exact ⟨v, k, by omega, h2⟩
      · exact ⟨t, k, by omega, e, by simpa using h1⟩

theorem collP_len (bp : Nat → Option Nat) (wd : Nat → WayD) (wv : Nat → Value) : ∀ t, (collP bp wd wv t).length ≤ t
  | 0 => by simp [collP]
  | t + 1 => by
    have := collP_len bp wd wv t
    cases e : bp t with
    | none => rw [collP_none e]; omega
    | some k => rw [collP_some e]; simp; omega

theorem collP_apart {bp : Nat → Option Nat} {wd : Nat → WayD} {wv : Nat → Value} (h : ∀ v v' k k', v ≠ v' → bp v = some k → bp v' = some k' → ∀ b, (wv k).ownBlock = some b → (wv k').ownBlock ≠ some b) : ∀ t, (collP bp wd wv t).Pairwise ApartW
  | 0 => by simp [collP]
  | t + 1 => by
    cases e : bp t with
    | none => rw [collP_none e]; exact collP_apart h t
    | some k =>
      rw [collP_some e, List.pairwise_append]
      refine ⟨collP_apart h t, by simp, fun p hp q hq => ?_⟩
      obtain ⟨v, k', hv, e2, rfl⟩ := collP_mem hp
      have : q = (wd k, wv k) := by simpa using hq
      subst this
      intro b hb
      exact h v t k' k (by omega) e2 e b hb

theorem collP_coll {bp : Nat → Option Nat} {wd : Nat → WayD} {wv : Nat → Value} {c : Nat → Int} {h : Nat → List Int} (h0 : bp 0 = none) (hc : ∀ v, cOf bp wd v = c v) (hh : ∀ v, hOf bp wd v = h v) (hto : ∀ v k, bp v = some k → (wd k).to = (v : Int)) (hnn : ∀ v k, bp v = some k → 0 ≤ (wd k).cost) : ∀ t, fstsW (collP bp wd wv (t + 1)) = collT c h t
  | 0 => by rw [collP_none h0]; rfl
  | t + 1 => by
    have ih := collP_coll h0 hc hh hto hnn t (wv := wv)
    have e1 := hc (t + 1)
    have e2 := hh (t + 1)
    unfold collT
    cases e : bp (t + 1) with
    | none =>
      rw [cOf_none e] at e1
      rw [collP_none e, ih, if_neg (by omega), List.append_nil]
    | some k =>
      rw [cOf_some e] at e1
      rw [hOf_some e] at e2
      have h1 := hnn (t + 1) k e
      have h2 := hto (t + 1) k e
      rw [collP_some e, if_pos (by omega), ← ih, ← e1, ← e2, ← h2]
      simp [fstsW]

set_option maxRecDepth 100000 in
theorem run_best (f : Nat → Value) (W : World) {t : Nat} (ht : t ≤ 6) : (Instr.index 142 (.agg #[f 0, f 1, f 2, f 3, f 4, f 5, f 6]) (.int .i64 (t : Int))).run Tryz.prog W = .ok (f t) W := by
  have h : t = 0 ∨ t = 1 ∨ t = 2 ∨ t = 3 ∨ t = 4 ∨ t = 5 ∨ t = 6 := by omega
  rcases h with rfl | rfl | rfl | rfl | rfl | rfl | rfl <;> rfl

set_option maxRecDepth 100000 in
set_option maxHeartbeats 2000000 in
theorem ways_any (W : World) (lo z : Nat) (u : Value) (n : Nat) (q : Nat → Nat) (bp : Nat → Option Nat) (wd : Nat → WayD) (wv : Nat → Value) (s : FS W lo z u n q bp wd wv) :
    Calls Tryz.prog 113 #[.pointer (some ⟨z, 0, none⟩)] W fun e W' => ∃ x, e = .returned x ∧ WaysOwn W' lo W'.heap.size x (collP bp wd wv 7) ∧ Below lo W W' := by
  have hlo := s.size
  have lz := lt_of_heap s.hb.box
  have B0 : Below W.heap.size W (W.alloc (.cells #[] 73)) := (Below.refl _ _).alloc (Nat.le_refl _) _
  have O0 : (W.alloc (.cells #[] 73)).ownsRow W.heap.size 73 3 (.slice (some ⟨W.heap.size, 0, none⟩) 0 0) 0 (flat encW []) := World.ownsRow_lit W #[] 0 (Nat.le_refl _) (by unfold maxLen; omega) (by simp)
  obtain ⟨W0, hW0⟩ : ∃ V, V = W.alloc (.cells #[] 73) := ⟨_, rfl⟩
  rw [← hW0] at B0 O0
  have bx := s.hb.box
  unfold finC at bx
  have d0 := cells_at bx 0
  have d1 := cells_at bx 1
  have d2 := cells_at bx 2
  have d3 := cells_at bx 3
  have d4 := cells_at bx 4
  have d5 := cells_at bx 5
  have d6 := cells_at bx 6
  simp at d0 d1 d2 d3 d4 d5 d6
  have FIN := hide (fun (W' : World) (x : Value) (hb : Below W.heap.size W W') (ho : W'.ownsRow W.heap.size 73 3 x (collP bp wd wv 7).length (flat encW (collP bp wd wv 7))) => show WaysOwn W' lo W'.heap.size x (collP bp wd wv 7) from
    { row := owns_baseS ho hlo
      top := fun k hk => (ho.lt k hk).2
      nears := fun p hp => by
        obtain ⟨v, k, _, e, rfl⟩ := collP_mem hp
        have hr := owns_below (s.row v k e) hb (Nat.le_refl _)
        exact ⟨hr, fun b hb => (hr.lt b hb).2⟩
      apart := collP_apart s.apart 7 })
  have HWY := hide (fun v k (e : bp v = some k) => (s.way v k e).1)
  have HSL := hide (fun v k (e : bp v = some k) => owns_lenS (s.row v k e))
  obtain ⟨f, hf⟩ : ∃ f : Nat → Value, f = fun t => ptrO (bp t) := ⟨_, rfl⟩
  have HF := hide hf
  rw [show ptrO (bp 0) = f 0 by rw [hf]] at d0
  rw [show ptrO (bp 1) = f 1 by rw [hf]] at d1
  rw [show ptrO (bp 2) = f 2 by rw [hf]] at d2
  rw [show ptrO (bp 3) = f 3 by rw [hf]] at d3
  rw [show ptrO (bp 4) = f 4 by rw [hf]] at d4
  rw [show ptrO (bp 5) = f 5 by rw [hf]] at d5
  rw [show ptrO (bp 6) = f 6 by rw [hf]] at d6
  have HO0 := hide O0
  clear hf s bx O0
  go_enter Tryz.func113, Tryz.ntmps113
  go_wp2
  rw [← hW0]
  clear hW0 d0 d1 d2 d3 d4 d5 d6
  go_loopw [11, 3] (fun i o wr => ∃ (t : Nat) (x : Value), t ≤ 7 ∧ i = .int .i64 (t : Int) ∧ o = x ∧ wr.ownsRow W.heap.size 73 3 x (collP bp wd wv t).length (flat encW (collP bp wd wv t)) ∧ Below W.heap.size W wr) (fun i _ _ => 8 - (intOf i).toNat)
  case atStart => exact ⟨0, _, by omega, rfl, rfl, HO0.out, B0⟩
  case round =>
    obtain ⟨t, x, ht, rfl, rfl, hown, hb⟩ := hrel
    clear HO0 B0
    obtain ⟨xa, xc, rfl⟩ := owns_lenS hown
    have hsz := hb.size
    have OW := hide hown
    have hcl := collP_len bp wd wv t
    clear hown
    by_cases htl : t < 7
    · have ht6 : (t : Int) < 7 := by omega
      have hix := fun V => run_best f V (t := t) (by omega)
      cases e : bp t with
      | none =>
        have hft : f t = .pointer none := by rw [HF.out]; show ptrO (bp t) = _; rw [e]; rfl
        rw [hft] at hix
        have HOW := hide (show wr.ownsRow W.heap.size 73 3 (.slice xa (collP bp wd wv t).length xc) (collP bp wd wv (t + 1)).length (flat encW (collP bp wd wv (t + 1))) by rw [collP_none e]; exact OW.out)
        clear e hft
        go_wp2
        go_roundw
        case rel => exact ⟨t + 1, _, by omega, by go_num, rfl, HOW.out, hb⟩
        case measure => simp [intOf]; omega
      | some k =>
        have hft : f t = .pointer (some ⟨k, 0, none⟩) := by rw [HF.out]; show ptrO (bp t) = _; rw [e]; rfl
        rw [hft] at hix
        obtain ⟨ya, yc, hyv⟩ := HSL.out t k e
        have hw := HWY.out t k e
        rw [hyv] at hw
        obtain ⟨y, hy⟩ : ∃ y, y = wd k := ⟨_, rfl⟩
        rw [← hy] at hw hyv
        have lk := lt_of_heap hw
        have hw2 := (hb.block _ lk).trans hw
        have s0 := cells_at hw2 0
        have s1 := cells_at hw2 1
        have s2 := cells_at hw2 2
        simp [wayC] at s0 s1 s2
        have HSP := hide (collP_some e (wd := wd) (wv := wv))
        rw [hyv, ← hy] at HSP
        obtain ⟨C, hC⟩ : ∃ C, C = collP bp wd wv t := ⟨_, rfl⟩
        rw [← hC] at OW HSP hcl ⊢
        clear e hft hw hw2 hy hyv hC
        go_wp2_with (first
          | (at_builtin; refine append_struct5 encW_len (by omega) (by omega) _ rfl _ _ 70 rfl W.heap.size 73 Tryz.underlying70 (.agg (wayC zeroWD (.slice none 0 0))) rfl Tryz.infoWay _ C (y, .slice ya y.hops.length yc) (encW_one _ _ _ _) rfl (OW.out.alloc _) ⟨wr.heap.size, 0, none⟩ 1 rfl (news_struct (cs := encW (y, .slice ya y.hops.length yc))) (by omega) (by simp; omega) ?_))
        intro v' w4 hown' hgrow
        have B4 : Below W.heap.size W w4 := (hb.alloc hsz _).grown hgrow (by simp; omega) (fun j hj => (OW.out.lt j hj).1)
        have O4 := hide (show w4.ownsRow W.heap.size 73 3 v' (collP bp wd wv (t + 1)).length (flat encW (collP bp wd wv (t + 1))) by rw [HSP.out]; simpa using hown')
        obtain ⟨va, vc, rfl⟩ := owns_lenS hown'
        clear hown' hgrow
        go_wp2
        go_roundw
        case rel => exact ⟨t + 1, _, by omega, by go_num, rfl, O4.out, B4⟩
        case measure => simp [intOf]; omega
    · have ht6 : ¬ (t : Int) < 7 := by omega
      have htt : t = 7 := by omega
      subst htt
      have HE := hide (FIN.out wr _ hb OW.out)
      have HBB := hide (hb.mono hlo)
      obtain ⟨C, hC⟩ : ∃ C, C = collP bp wd wv 7 := ⟨_, rfl⟩
      rw [← hC] at HE ⊢
      have HCC := hide hC
      clear hC OW FIN
      go_wp2
      go_ret
      exact ⟨_, rfl, by rw [← HCC.out]; exact HE.out, HBB.out⟩
end Go.Proofs.YtdaigojpeofmpaaGreat
namespace Go.Proofs.YtdaigojpeofmpaaGreat
open Go.RowKit

set_option linter.unusedSimpArgs false

theorem gi_none (q : Nat → Nat) (wd : Nat → WayD) : GI (fun _ => false) (fun _ => -1) (fun _ => []) 0 q (fun _ => none) wd :=
  ⟨fun _ => rfl, fun _ => rfl, fun _ _ e => (by cases e), fun i hi => (by omega), fun _ _ e => (by cases e), fun i j hi => (by omega), fun _ _ e => (by cases e)⟩

theorem fs_new (W : World) (wd : Nat → WayD) (wv : Nat → Value) (q : Nat → Nat) : FS (W.alloc (.cells #[.pointer none, .pointer none, .pointer none, .pointer none, .pointer none, .pointer none, .pointer none, .slice none 0 0] 146)) W.heap.size W.heap.size (.slice none 0 0) 0 q (fun _ => none) wd wv where
  lz := Nat.le_refl _
  hb := ⟨heap_alloc_new W _, rfl, World.ownsRow_nil _ _ _ _, fun i hi => by omega, fun i hi => by omega⟩
  hp := fun i _ hi => by omega
  way := fun _ _ e => by cases e
  row := fun _ _ e => by cases e
  short := fun _ _ e => by cases e
  apart := fun _ _ _ _ _ e => by cases e
  to := fun _ _ e => by cases e
  b0 := rfl

set_option maxRecDepth 100000 in
set_option maxHeartbeats 4000000 in
theorem iwaysIn_any (v : Value) (ps : List RP) (hi : Nat) (area src : Int) (w : World) (hv : RecsIn w hi v ps) (hhi : hi ≤ w.heap.size) (hn : tot ps ≤ 1048576) :
    Calls Tryz.prog 39 #[v, .int .i64 area, .int .i64 src] w fun e w' => ∃ u qs, e = .returned u ∧ IsWays (fsts ps) area src (fstsW qs) ∧ WaysOwn w' w.heap.size w'.heap.size u qs ∧ Below w.heap.size w w' := by
  obtain ⟨a1, c1, rfl⟩ := owns_lenS hv.row
  have HS := hide (istoreOk_any (.slice a1 ps.length c1) ps w hn (RecsAt.more hv.at hhi))
  have HP := hide (fun W (hb : Below w.heap.size w W) => placeN_any (.slice a1 ps.length c1) ps hi area src W (hv.below hb hhi) (Nat.le_trans hhi hb.size) hn)
  have HV := hide hv
  clear hv
  obtain ⟨SB, hSB⟩ : ∃ b, b = storeB (fsts ps) := ⟨_, rfl⟩
  obtain ⟨IB, hIB⟩ : ∃ b, b = inB src 1 6 := ⟨_, rfl⟩
  rw [← hSB] at HS
  have HSB := hide hSB
  have HIB := hide hIB
  clear hSB hIB
  have EMP := hide (fun (e : (storeB (fsts ps) && inB src 1 6 && nodeB (fsts ps) area src) = false) => show IsWays (fsts ps) area src (fstsW []) by unfold IsWays; rw [e]; rfl)
  have LIT := hide (fun W (hb : Below w.heap.size w W) => ways_lit W w.heap.size hb.size)
  go_enter Tryz.func39, Tryz.ntmps39
  go_wp2_with fail
  refine HS.out.mono ?_
  rintro e w1 ⟨rfl, b1⟩
  cases SB
  · have HE := hide (EMP.out (by rw [← HSB.out]; rfl))
    have HL := hide (LIT.out w1 b1)
    have HB := hide (b1.alloc b1.size (.cells #[] 73))
    go_wp2
    go_ret
    exact ⟨_, [], rfl, HE.out, HL.out, HB.out⟩
  · go_wp2_with fail
    refine (isIn_any _ _ _ _).mono ?_
    rintro e w2 ⟨rfl, rfl⟩
    rw [← HIB.out]
    cases IB
    · have HE := hide (EMP.out (by rw [← HSB.out, ← HIB.out]; rfl))
      have HL := hide (LIT.out w1 b1)
      have HB := hide (b1.alloc b1.size (.cells #[] 73))
      go_wp2
      go_ret
      exact ⟨_, [], rfl, HE.out, HL.out, HB.out⟩
    · have hpl := HP.out w1 b1
      have hnb := node_right HSB.out.symm area src
      cases hR : plN (fsts ps) area src with
      | none =>
        rw [hR] at hpl hnb
        unfold plV2 at hpl
        have HPL := hide hpl
        have HE := hide (EMP.out (by rw [hnb, ← HSB.out, ← HIB.out]; rfl))
        clear hpl hnb hR
        go_wp2_with fail
        refine HPL.out.mono ?_
        rintro e w2 ⟨rfl, b2⟩
        have B2 : Below w.heap.size w w2 := b1.trans (b2.mono b1.size)
        have HL := hide (LIT.out w2 B2)
        have HB := hide (B2.alloc B2.size (.cells #[] 73))
        clear b2
        go_wp2
        go_ret
        exact ⟨_, [], rfl, HE.out, HL.out, HB.out⟩
      | some k0 =>
        rw [hR] at hpl hnb
        unfold plV2 at hpl
        have HPL := hide hpl
        obtain ⟨s, rfl⟩ : ∃ s : Nat, src = (s : Int) := ⟨src.toNat, by have := inB_iff.1 HIB.out.symm; omega⟩
        have hs6 := inB_iff.1 HIB.out.symm
        have hs : 1 ≤ s ∧ s ≤ 6 := by omega
        have FIN := hide (fun c h (hf : Fix (linkN (fsts ps) area) s c h) => show IsWays (fsts ps) area (s : Int) (collT c h 6) by
          unfold IsWays
          rw [hnb, ← HSB.out, ← HIB.out]
          exact ⟨c, h, by simpa using hf, rfl⟩)
        have HLK := hide (linkN_links (area := area) HSB.out.symm)
        have HLN := hide (fun (a b : Nat) (ha : 1 ≤ a ∧ a ≤ 6) (hb : 1 ≤ b ∧ b ≤ 6) => linked_right HSB.out.symm area ha hb)
        clear hpl hnb hR EMP LIT HP
        go_wp2_with fail
        refine HPL.out.mono ?_
        rintro e w2 ⟨rfl, b2⟩
        have B2 : Below w.heap.size w w2 := b1.trans (b2.mono b1.size)
        have B3 : Below w2.heap.size w2 (w2.alloc (.cells #[.pointer none, .pointer none, .pointer none, .pointer none, .pointer none, .pointer none, .pointer none, .slice none 0 0] 146)) := (Below.refl _ _).alloc (Nat.le_refl _) _
        have fs := fs_new w2 (fun _ => zeroWD) (fun _ => .slice none 0 0) (fun _ => 0)
        obtain ⟨w3, hw3⟩ : ∃ W, W = w2.alloc (.cells #[.pointer none, .pointer none, .pointer none, .pointer none, .pointer none, .pointer none, .pointer none, .slice none 0 0] 146) := ⟨_, rfl⟩
        rw [← hw3] at B3 fs
        obtain ⟨lo, hlo⟩ : ∃ l, l = w2.heap.size := ⟨_, rfl⟩
        have HFO := hide (found_any w3 w2.heap.size w2.heap.size (.slice none 0 0) 0 (fun _ => 0) (fun _ => none) (fun _ => zeroWD) (fun _ => .slice none 0 0) s ⟨(s : Int), 0, []⟩ (.slice none 0 0) fs (by omega) hs rfl (World.ownsRow_nil _ _ _ _) (by simp) (fun _ _ _ e => by cases e) (fun _ e => by cases e))
        unfold wayC at HFO
        have HHI : hi ≤ w2.heap.size := by have := B2.size; omega
        have hwlo : w.heap.size ≤ w2.heap.size := B2.size
        have HV3 := hide (HV.out.below (B2.trans (B3.mono hwlo)) hhi)
        clear fs b2 HPL HV
        go_wp2_with fail
        rw [← hw3]
        clear hw3
        refine HFO.out.mono ?_
        rintro e w4 ⟨rfl, b4, hcs⟩
        have HGO : Hid (∃ m, GO w4 w2.heap.size w2.heap.size (linkN (fsts ps) area) s m ∧ m ≤ 43) := by
          rcases hcs with ⟨hcase, u3, q3, fs4, hsh⟩ | ⟨kn, vy, e1, _⟩
          · refine ⟨7 * (6 - cardF (fun _ => false)) + 1, ⟨u3, 1, q3, _, _, _, (fun _ => false), (fun v => if v = s then 0 else -1), (fun _ => []), fs4, ?_, Inv.init hs, fun v => ?_, rfl⟩, by rw [card_zero]; omega⟩
            · have g := (gi_none (fun _ => 0) (fun _ => zeroWD)).push (t := s) (k := w3.heap.size) (x := ⟨(s : Int), 0, []⟩) rfl rfl (.inl (by omega)) (fun i hi => by omega) (fun v e => by cases e) hsh (by show (0 : Int) ≤ 0; omega)
              have ec : upd (fun _ => (-1 : Int)) s 0 = fun v => if v = s then 0 else -1 := by funext v; rfl
              have eh : upd (fun _ => ([] : List Int)) s [] = fun _ => [] := by funext v; unfold upd; split <;> rfl
              rw [← ec, ← eh]
              exact g
            · rw [card_zero]
              show (if v = s then (0 : Int) else -1) ≤ _
              split <;> omega
          · cases e1
        have HGN := hide (goOn_any w4 w2.heap.size w2.heap.size (.slice a1 ps.length c1) ps hi area (linkN (fsts ps) area) s (HV3.out.below b4 HHI) HHI hn HLK.out HLN.out HGO.out)
        have B4 : Below w.heap.size w w4 := (B2.trans (B3.mono hwlo)).trans (b4.mono hwlo)
        clear hcs b4 HGO HFO
        go_wp2_with fail
        refine HGN.out.mono ?_
        rintro e w5 ⟨rfl, hge, b5⟩
        obtain ⟨u5, q5, bp5, wd5, wv5, c5, h5, fs5, cc5, hh5, nn5, fx5⟩ := hge
        have B5 : Below w.heap.size w w5 := B4.trans (b5.mono hwlo)
        have HWA := hide (ways_any w5 w2.heap.size w2.heap.size u5 0 q5 bp5 wd5 wv5 fs5)
        have HIS := hide (show IsWays (fsts ps) area (s : Int) (fstsW (collP bp5 wd5 wv5 7)) by
          rw [collP_coll fs5.b0 cc5 hh5 fs5.to nn5 6]
          exact FIN.out c5 h5 fx5)
        clear fs5 cc5 hh5 nn5 fx5 b5 HGN
        go_wp2_with fail
        refine HWA.out.mono ?_
        rintro e w6 ⟨x, rfl, ow6, b6⟩
        obtain ⟨xa, xc, rfl⟩ := owns_lenS ow6.row
        have B6 := hide (B5.trans (b6.mono hwlo))
        have O6 := hide (ow6.wide hwlo (Nat.le_refl _))
        clear ow6 b6 HWA
        go_wp2
        go_ret
        first
          | exact ⟨_, _, rfl, HIS.out, O6.out, B6.out⟩
          | exact ⟨_, rfl, _, HIS.out, O6.out, B6.out⟩
end Go.Proofs.YtdaigojpeofmpaaGreat
namespace Go.Proofs.YtdaigojpeofmpaaGreat
open Go.RowKit

theorem hopsI_sym (a b : List Int) : hopsI a b = hopsI b a := asc_ext (hopsI_asc a b) (hopsI_asc b a) (fun x => by rw [hopsI_mem, hopsI_mem, or_comm])

set_option maxRecDepth 100000 in
set_option maxHeartbeats 1000000 in
theorem sameI_any (v1 v2 : Value) (xs ys : List Int) (w : World) (h1 : IntsAt w v1 xs w.heap.size) (h2 : IntsAt w v2 ys w.heap.size) (hn : xs.length ≤ 1048576) :
    Calls Tryz.prog 49 #[v1, v2] w fun e w' => e = .returned (.bool (decide (xs = ys))) ∧ Below w.heap.size w w' := by
  obtain ⟨a1, c1, rfl, k1⟩ := h1
  obtain ⟨a2, c2, rfl, k2⟩ := h2
  by_cases hl : xs.length = ys.length
  · have K1 := hide k1
    have K2 := hide k2
    clear k1 k2
    go_enter Tryz.func49, Tryz.ntmps49
    go_wp2
    go_loopw [5] (fun i wr => ∃ k : Nat, k ≤ xs.length ∧ i = .int .i64 k ∧ (∀ j, j < k → xs.getD j 0 = ys.getD j 0) ∧ Below w.heap.size w wr) (fun i _ => xs.length - (intOf i).toNat)
    case atStart => exact ⟨0, by omega, rfl, by omega, Below.refl _ _⟩
    case round =>
      obtain ⟨k, hk, rfl, hall, hnx⟩ := hrel
      have HALL := hide hall
      clear hall
      by_cases hlt : k < xs.length
      · obtain ⟨b1, o1, ha1, hb1, d1⟩ : ∃ b1 o1, a1 = some ⟨b1, o1, none⟩ ∧ b1 < w.heap.size ∧ wr.cell? ⟨b1, o1 + k, none⟩ = some (.int .i64 (xs.getD k 0)) := by
          rcases K1.out with h0 | ⟨b, off, ha, hb, hx⟩
          · omega
          · exact ⟨b, off, ha, hb, by rw [hnx.cell (p := ⟨b, off + k, none⟩) hb, hx k (by omega)]; rfl⟩
        obtain ⟨b2, o2, ha2, hb2, d2⟩ : ∃ b2 o2, a2 = some ⟨b2, o2, none⟩ ∧ b2 < w.heap.size ∧ wr.cell? ⟨b2, o2 + k, none⟩ = some (.int .i64 (ys.getD k 0)) := by
          rcases K2.out with h0 | ⟨b, off, ha, hb, hx⟩
          · omega
          · exact ⟨b, off, ha, hb, by rw [hnx.cell (p := ⟨b, off + k, none⟩) hb, hx k (by omega)]; rfl⟩
        subst ha1 ha2
        have hki : (0 : Int) ≤ (k : Int) := by omega
        have hkj : (k : Int) < (xs.length : Int) := by omega
        have hkl : (k : Int) < (ys.length : Int) := by omega
        obtain ⟨x, hx⟩ : ∃ x, x = xs.getD k 0 := ⟨_, rfl⟩
        obtain ⟨y, hy⟩ : ∃ y, y = ys.getD k 0 := ⟨_, rfl⟩
        rw [← hx] at d1
        rw [← hy] at d2
        have HX := hide hx
        have HY := hide hy
        clear hx hy
        by_cases hxy : x = y
        · subst hxy
          go_wp2
          go_quiet (fail)
          go_wp2
          go_roundw
          case rel => exact ⟨k + 1, by omega, by go_num, (fun j hj => by
            by_cases e : j = k
            · subst e; rw [← HX.out, ← HY.out]
            · exact HALL.out j (by omega)), below_drewN hnx _⟩
          case measure => simp [intOf]; omega
        · have hd : (x != y) = true := by simpa using hxy
          go_wp2
          go_quiet (fail)
          go_wp2
          go_ret
          exact ⟨ret_bool_no (list_ne_at (k := k) (by rw [← HX.out, ← HY.out]; exact hxy)), below_drewN hnx _⟩
      · have hkn : k = xs.length := by omega
        have KN := hide hkn
        clear hkn
        go_wp2
        go_ret
        exact ⟨ret_bool_yes (list_eq_all hl (by rw [← KN.out]; exact HALL.out)), hnx⟩
  · clear k1 k2
    have hd : ((xs.length : Int) != (ys.length : Int)) = true := by simp; omega
    go_enter Tryz.func49, Tryz.ntmps49
    go_wp2
    go_ret
    exact ⟨ret_bool_no (fun h => hl (by rw [h])), Below.refl _ _⟩

end Go.Proofs.YtdaigojpeofmpaaGreat
namespace Go.Proofs.YtdaigojpeofmpaaGreat
open Go.RowKit

set_option linter.unusedSimpArgs false

theorem own_one (W : World) (base : Nat) (z : Int) (hb : base ≤ W.heap.size) : (W.alloc (.cells #[.int .i64 z] 3)).ownsRow base 3 1 (.slice (some ⟨W.heap.size, 0, none⟩) 1 1) 1 (flat intE [z]) :=
  World.ownsRow_lit W #[.int .i64 z] 1 hb (by unfold maxLen; omega) (by simp)

set_option maxRecDepth 100000 in
set_option maxHeartbeats 2000000 in
theorem sway_any (p : Nat) (a : Option Addr) (len cap : Nat) (w : World) (hc : Cur w p a len cap) (hp : p < w.heap.size) :
    Calls Tryz.prog 122 #[.pointer (some ⟨p, 0, none⟩)] w fun e w' => ∃ x u, e = .returned (.agg (wayC x u)) ∧ x.hops.length ≤ 6 ∧ w'.ownsRow w.heap.size 3 1 u x.hops.length (flat intE x.hops) ∧ Cur w' p a len cap ∧ w.grownBy w' (some p) := by
  have hc0 := cur_alloc hc (.cells #[.int .i64 0, .int .i64 0, .slice none 0 0] 73)
  have h0 := heap_alloc_new w (.cells #[.int .i64 0, .int .i64 0, .slice none 0 0] 73)
  have g0 : w.grownBy (w.alloc (.cells #[.int .i64 0, .int .i64 0, .slice none 0 0] 73)) (some p) := World.grownBy_alloc w _ _
  have HC0 := hide hc0
  have H0 := hide h0
  clear hc hc0 h0
  go_enter Tryz.func122, Tryz.ntmps122
  go_wp2_with fail
  obtain ⟨w0, hw0⟩ : ∃ W, W = w.alloc (.cells #[.int .i64 0, .int .i64 0, .slice none 0 0] 73) := ⟨_, rfl⟩
  have hs0 : w0.heap.size = w.heap.size + 1 := by rw [hw0]; simp
  rw [← hw0] at HC0 H0 g0 ⊢
  have HS0 := hide hs0
  have hs0' : w.heap.size < w0.heap.size := by omega
  clear hw0 hs0
  refine (below_any p a len cap 3 w0 HC0.out (by omega) (by omega)).mono ?_
  rintro e w1 ⟨x1, rfl, hx1a, hx1b, c1, g1⟩
  have h1 := (g1.block _ (lt_of_heap H0.out) (by simp; omega)).trans H0.out
  have s1 := g1.size
  have C1 := hide c1
  have H1 := hide h1
  clear c1 h1 HC0 H0
  go_wp2_with fail
  refine (below_any p a len cap 4 w1 C1.out (by omega) (by omega)).mono ?_
  rintro e w2 ⟨x2, rfl, hx2a, hx2b, c2, g2⟩
  have h2 := (g2.block _ (lt_of_heap H1.out) (by simp; omega)).trans H1.out
  have s2 := g2.size
  have C2 := hide c2
  have H2 := hide h2
  clear c2 h2 C1 H1
  go_wp2_with fail
  refine (below_any p a len cap 5 w2 C2.out (by omega) (by omega)).mono ?_
  rintro e w3 ⟨x3, rfl, hx3a, hx3b, c3, g3⟩
  have h3 := (g3.block _ (lt_of_heap H2.out) (by simp; omega)).trans H2.out
  have s3 := g3.size
  have C3 := hide (cur_alloc c3 (.cells #[.int .i64 (1 + x3)] 3))
  have H3 := hide h3
  have R3 := hide (own_one w3 w0.heap.size (1 + x3) (by omega))
  have G3 := grown_trans (grown_trans (grown_trans g0 g1) g2) g3
  clear c3 h3 C2 H2
  go_wp2_with fail
  obtain ⟨w4, hw4⟩ : ∃ W, W = w3.alloc (.cells #[.int .i64 (1 + x3)] 3) := ⟨_, rfl⟩
  have b4 : Below w3.heap.size w3 w4 := by rw [hw4]; exact (Below.refl _ _).alloc (Nat.le_refl _) _
  have g4 : w3.grownBy w4 (some p) := by rw [hw4]; exact World.grownBy_alloc w3 _ _
  have s4 : w3.heap.size < w4.heap.size := by rw [hw4]; simp
  rw [← hw4] at C3 R3 ⊢
  clear hw4
  refine (below_any p a len cap 5 w4 C3.out (by omega) (by omega)).mono ?_
  rintro e w5 ⟨x5, rfl, hx5a, hx5b, c5, g5⟩
  have s5 := g5.size
  have R5 := hide (own_one w5 w0.heap.size (1 + x5) (by omega))
  have r3 := owns_keepB (W' := w5) R3.out (fun k hk => g5.block k (R3.out.lt k hk).2 (fun e => by have := (R3.out.lt k hk).1; simp at e; omega))
  have h5 := ((g5.block _ (by omega) (by simp; omega)).trans (b4.block _ (by omega))).trans H3.out
  have C5 := hide (cur_alloc c5 (.cells #[.int .i64 (1 + x5)] 3))
  have R3' := hide (r3.alloc (.cells #[.int .i64 (1 + x5)] 3))
  have H5 := hide h5
  have G5 := grown_trans (grown_trans G3 g4) g5
  clear c5 r3 h5 R3 H3 C3
  go_wp2_with fail
  obtain ⟨w6, hw6⟩ : ∃ W, W = w5.alloc (.cells #[.int .i64 (1 + x5)] 3) := ⟨_, rfl⟩
  have b6 : Below w5.heap.size w5 w6 := by rw [hw6]; exact (Below.refl _ _).alloc (Nat.le_refl _) _
  have g6 : w5.grownBy w6 (some p) := by rw [hw6]; exact World.grownBy_alloc w5 _ _
  have s6 : w5.heap.size < w6.heap.size := by rw [hw6]; simp
  rw [← hw6] at C5 R3' R5 ⊢
  clear hw6
  refine (sadd_any _ _ [1 + x3] [1 + x5] w6 (by simp) (by simp) (owns_rowAt R3'.out) (owns_rowAt R5.out)).mono ?_
  rintro e w7 ⟨u, rfl, ho, b7⟩
  obtain ⟨ua, uc, rfl⟩ := owns_lenS ho
  have s7 := b7.size
  have h7 := ((b7.block _ (by omega)).trans (b6.block _ (by omega))).trans H5.out
  have c7 : Cur w7 p a len cap := C5.out.grown (row := none) ⟨b7.os, b7.tape, b7.output, b7.size, fun k hk _ => b7.block k hk⟩ (fun _ _ => by simp)
  have k0 := cells_at h7 0
  have k1 := cells_at h7 1
  have k2 := cells_at h7 2
  simp at k0 k1 k2
  have f0 := frozen_at h7 0
  have f1 := frozen_at h7 1
  have f2 := frozen_at h7 2
  have HO := hide ho
  have H7 := hide h7
  have C7 := hide c7
  have B67 := hide (show w6.grownBy w7 (some p) from ⟨b7.os, b7.tape, b7.output, b7.size, fun k hk _ => b7.block k hk⟩)
  clear ho h7 c7 C5 R3' R5 H5
  have GG := grown_trans (grown_trans G5 g6) B67.out
  go_wp2
  have hfin : (((w7.setCell ⟨w.heap.size, 0, none⟩ (.int .i64 (1 + x1))).setCell ⟨w.heap.size, 1, none⟩ (.int .i64 x2)).setCell ⟨w.heap.size, 2, none⟩ (.slice ua (addL [1 + x3] [1 + x5]).length uc)).heap[w.heap.size]? = some (.cells (wayC ⟨1 + x1, x2, addL [1 + x3] [1 + x5]⟩ (.slice ua (addL [1 + x3] [1 + x5]).length uc)) 73) := by
    have kk1 := heap_setCell_same _ _ 0 _ _ (.int .i64 (1 + x1)) H7.out
    have kk2 := heap_setCell_same _ _ 1 _ _ (.int .i64 x2) kk1
    exact heap_setCell_same _ _ 2 _ _ (.slice ua (addL [1 + x3] [1 + x5]).length uc) kk2
  have hlen : (addL [1 + x3] [1 + x5]).length ≤ 6 := addT_len _ _ 6
  have hown := owns_baseS (b0 := w.heap.size) (owns_set (p := w.heap.size) (j := 2) (u := .slice ua (addL [1 + x3] [1 + x5]).length uc) (owns_set (p := w.heap.size) (j := 1) (u := .int .i64 x2) (owns_set (p := w.heap.size) (j := 0) (u := .int .i64 (1 + x1)) HO.out (by omega)) (by omega)) (by omega)) (by omega)
  have hg3 : w7.grownBy (((w7.setCell ⟨w.heap.size, 0, none⟩ (.int .i64 (1 + x1))).setCell ⟨w.heap.size, 1, none⟩ (.int .i64 x2)).setCell ⟨w.heap.size, 2, none⟩ (.slice ua (addL [1 + x3] [1 + x5]).length uc)) (some w.heap.size) := grown_trans (grown_trans (grown_set w7 w.heap.size _ _) (grown_set _ w.heap.size _ _)) (grown_set _ w.heap.size _ _)
  have hcur := C7.out.grown hg3 (fun b hb => by simp; omega)
  have hgf : w.grownBy (((w7.setCell ⟨w.heap.size, 0, none⟩ (.int .i64 (1 + x1))).setCell ⟨w.heap.size, 1, none⟩ (.int .i64 x2)).setCell ⟨w.heap.size, 2, none⟩ (.slice ua (addL [1 + x3] [1 + x5]).length uc)) (some p) := ⟨hg3.os.trans GG.os, hg3.tape.trans GG.tape, hg3.output.trans GG.output, Nat.le_trans GG.size hg3.size, fun k hk hne => (hg3.block k (by have := GG.size; omega) (by simp; omega)).trans (GG.block k hk hne)⟩
  try simp only [Exit.inBlock, Exit.then]
  refine bodyPost_ret (results_cell_row rfl _ _ w.heap.size 73 (wayC ⟨1 + x1, x2, addL [1 + x3] [1 + x5]⟩ (.slice ua (addL [1 + x3] [1 + x5]).length uc)) (0, 0) _ rfl hfin Tryz.underlying73 rfl (by kernel_rfl)) rfl ?_
  exact ⟨_, _, rfl, hlen, hown, hcur, hgf⟩
end Go.Proofs.YtdaigojpeofmpaaGreat
namespace Go.Proofs.YtdaigojpeofmpaaGreat
open Go.RowKit

set_option linter.unusedVariables false
set_option linter.unusedSimpArgs false

theorem wp_append_one {α : Type} {enc : α → List Value} {sz bytes : Nat} (hlen : ∀ a, (enc a).length = sz) (hpos : 0 < sz) (hbb : bytes ≤ 100) {P : Program} (w : World) {o : Oper} {a : Act} {K : Act → World → Prop} {Q : Exit → Act → World → Prop} (s x : Operand) (t : TypeId)
    (ho : o.op = .call { callee := .builtin .append, args := #[s, x], argTypes := #[t, t] }) (base : Nat) (e : TypeId) (ht : P.underlying t = some (.slice e)) (zv : Value) (hzv : zv.cells.size = sz)
    (hinfo : (P.info? e).map (fun i => (i.zero, i.size, i.bytes)) = some (some zv, sz, bytes))
    (v : Value) (l : List α) (y : α) (hone : ∀ u ∈ enc y, u.oneCell' = true) (hs : a.eval s = v) (hown : w.ownsRow base e sz v l.length (flat enc l))
    (ad : Addr) (c : Nat) (hx : a.eval x = .slice (some ad) 1 c) (hnews : ∀ j u, (enc y)[j]? = some u → w.cell? (ad.add j) = some u)
    (hl : l.length + 1 ≤ 1000000000) (hbase : base ≤ w.heap.size)
    (h : ∀ v' w', w'.ownsRow base e sz v' (l ++ [y]).length (flat enc (l ++ [y])) → w.grownBy w' v.ownBlock → K (a.put o.dst v') w') : o.wp P a w K Q := by
  obtain ⟨i0, hi, hz0, hz1, hz2⟩ := info_parts hinfo
  refine wp_append_own w s x t ho base e i0 zv sz bytes ht hi hz0 hz1 hz2 hzv hpos v l.length (flat enc l) hs hown ad 1 c (enc y) hx (by rw [hlen]; omega) hnews hone (by unfold maxLen; omega) ?_ hbase ?_
  · have : (l.length + 1) * bytes ≤ 1000000000 * 100 := Nat.mul_le_mul hl hbb
    omega
  · intro v' w' h1 h2 _
    have e1 : flat enc l ++ enc y = flat enc (l ++ [y]) := by rw [flat_append]; simp [flat]
    rw [e1] at h1
    exact h v' w' (by simpa using h1) h2

def dtOps : Array Oper := #[{ dst := some 18, op := Go.Op.fieldAddr 73 (Go.Operand.tmp 6) 2, type := 0, pos := "l06_way.go:192", after := #[], guard := none }, { dst := some 19, op := Go.Op.load 28 (Go.Operand.tmp 18), type := 28, pos := "l06_way.go:192", after := #[{ on := 0, ground := Go.Ground.data }], guard := none }, { dst := some 20, op := Go.Op.move (Go.Operand.tmp 4), type := 98, pos := "l06_way.go:192", after := #[], guard := none }, { dst := some 21, op := Go.Op.buildSlice 28 3 #[(0, Go.Operand.const (Go.Value.int Go.IntKind.i64 0)), (1, Go.Operand.const (Go.Value.int Go.IntKind.i64 7)), (2, Go.Operand.const (Go.Value.int Go.IntKind.i64 (-1)))], type := 28, pos := "l06_way.go:192", after := #[], guard := none }, { dst := some 22, op := Go.Op.call { callee := Go.Callee.value (Go.Operand.func 123), args := #[Go.Operand.tmp 20, Go.Operand.tmp 21], argTypes := #[98, 28] }, type := 3, pos := "l06_way.go:192", after := #[{ on := 2, ground := Go.Ground.data }, { on := 3, ground := Go.Ground.data }], guard := none }, { dst := some 23, op := Go.Op.buildSlice 28 1 #[(0, Go.Operand.tmp 22)], type := 28, pos := "l06_way.go:192", after := #[{ on := 4, ground := Go.Ground.data }], guard := none }, { dst := some 24, op := Go.Op.call { callee := Go.Callee.builtin Go.Builtin.append, args := #[Go.Operand.tmp 19, Go.Operand.tmp 23], argTypes := #[28, 28] }, type := 28, pos := "l06_way.go:192", after := #[{ on := 1, ground := Go.Ground.data }, { on := 5, ground := Go.Ground.data }, { on := 4, ground := Go.Ground.chain }], guard := none }, { dst := some 25, op := Go.Op.fieldAddr 73 (Go.Operand.tmp 6) 2, type := 0, pos := "l06_way.go:192", after := #[{ on := 0, ground := Go.Ground.phase }, { on := 1, ground := Go.Ground.phase }, { on := 2, ground := Go.Ground.phase }, { on := 3, ground := Go.Ground.phase }, { on := 4, ground := Go.Ground.phase }, { on := 5, ground := Go.Ground.phase }, { on := 6, ground := Go.Ground.phase }], guard := none }, { dst := none, op := Go.Op.store 28 (Go.Operand.tmp 25) (Go.Operand.tmp 24), type := 0, pos := "l06_way.go:192", after := #[{ on := 7, ground := Go.Ground.data }, { on := 6, ground := Go.Ground.data }, { on := 6, ground := Go.Ground.chain }, { on := 0, ground := Go.Ground.phase }, { on := 1, ground := Go.Ground.phase }, { on := 2, ground := Go.Ground.phase }, { on := 3, ground := Go.Ground.phase }, { on := 4, ground := Go.Ground.phase }, { on := 5, ground := Go.Ground.phase }, { on := 6, ground := Go.Ground.phase }], guard := none }]

set_option maxRecDepth 100000 in
set_option maxHeartbeats 8000000 in
theorem dt_dag {t0 t1 t2 t3 t5 t7 t8 t9 t10 t11 t12 t13 t14 t15 t16 t17 t19 t21 t22 t23 t24 t25 t26 t27 : Value} (p zB base : Nat) (a : Option Addr) (len cap : Nat) (to cost : Int) (h : List Int) (ua : Option Addr) (uc : Nat) (w1 : World) (Q : Exit → Act → World → Prop) (ops : Array Oper) (hops : Hid (ops = dtOps)) (hp : p < w1.heap.size) (hzB : zB < w1.heap.size) (hpz : zB ≠ p) (hc : Cur w1 p a len cap) (hh : h.length ≤ 1000) (hbase : base ≤ w1.heap.size)
    (HB : w1.heap[zB]? = some (.cells #[.int .i64 to, .int .i64 cost, (.slice ua h.length uc)] 73)) (HU : w1.ownsRow base 3 1 (.slice ua h.length uc) h.length (flat intE h)) (hUp : (Value.slice ua h.length uc).ownBlock ≠ some p) (hUz : (Value.slice ua h.length uc).ownBlock ≠ some zB)
    (hend : ∀ W w2 g3 g1 y va vc, w1.grownBy W (some p) → Cur W p a len cap → W.grownBy w2 (Value.slice ua h.length uc).ownBlock → w2.ownsRow base 3 1 (.slice va (h.length + 1) vc) (h.length + 1) (flat intE (h ++ [y])) → w2.heap[zB]? = some (.cells #[.int .i64 to, .int .i64 cost, (.slice ua h.length uc)] 73) → Q .normal { tmps := #[t0, t1, t2, t3, .pointer (some ⟨p, 0, none⟩), t5, .pointer (some ⟨zB, 0, none⟩), t7, t8, t9, t10, t11, t12, t13, t14, t15, t16, t17, .pointer (some ⟨zB, 2, none⟩), (.slice ua h.length uc), .pointer (some ⟨p, 0, none⟩), (.slice (some ⟨g3, 0, none⟩) 3 3), .int .i64 y, (.slice (some ⟨g1, 0, none⟩) 1 1), (.slice va (h.length + 1) vc), .pointer (some ⟨zB, 2, none⟩), t26, t27], defers := [] } (w2.setCell ⟨zB, 2, none⟩ (.slice va (h.length + 1) vc))) :
    wpAnyH Tryz.prog .any ops (NoPanic Q) (fun _ => True) 7 #[true, false, true, false, false, false, false, false, false] { tmps := #[t0, t1, t2, t3, .pointer (some ⟨p, 0, none⟩), t5, .pointer (some ⟨zB, 0, none⟩), t7, t8, t9, t10, t11, t12, t13, t14, t15, t16, t17, .pointer (some ⟨zB, 2, none⟩), t19, .pointer (some ⟨p, 0, none⟩), t21, t22, t23, t24, t25, t26, t27], defers := [] } w1 := by
  have h31 : ∀ (W : World) (g3 g1 : Nat) (y : Int), w1.grownBy W (some p) → Cur W p a len cap → (W.heap[g1]? = some (.cells #[.int .i64 y] 3)) → wpAnyH Tryz.prog .any ops (NoPanic Q) (fun _ => True) 3 #[true, true, true, true, true, true, false, false, false] { tmps := #[t0, t1, t2, t3, .pointer (some ⟨p, 0, none⟩), t5, .pointer (some ⟨zB, 0, none⟩), t7, t8, t9, t10, t11, t12, t13, t14, t15, t16, t17, .pointer (some ⟨zB, 2, none⟩), (.slice ua h.length uc), .pointer (some ⟨p, 0, none⟩), (.slice (some ⟨g3, 0, none⟩) 3 3), .int .i64 y, (.slice (some ⟨g1, 0, none⟩) 1 1), t24, t25, t26, t27], defers := [] } W := by
    intro W g3 g1 y g cu k1
    have gs := g.size
    refine wpAnyH_ready (rs := [6]) (by rw [hops.out]; kernel_rfl) (by simp) ?_
    refine AllReadyH.cons (o := ?_) ?_ (fun K hK => ?_) ?_
    rotate_left 1
    · rw [hops.out]; unfold dtOps; simp only [List.getElem?_toArray, List.getElem?_cons_succ, List.getElem?_cons_zero]; rfl
    · rw [if_pos (by rfl)]
      have hu := HU.kept g (by right; exact hUp)
      have hb := (g.block zB hzB (by simp; omega)).trans HB
      refine wp_append_one intE_len (by omega) (by omega) W _ _ 28 rfl base 3 Tryz.underlying28 (.int .i64 0) rfl Tryz.info3 _ h y (intE_one _) rfl hu ⟨g1, 0, none⟩ 1 rfl ?_ (by omega) (by omega) ?_
      · intro j u hj
        have hc1 := cells_at k1 j
        rw [show (⟨g1, 0, none⟩ : Addr).add j = ⟨g1, j, none⟩ by simp only [Addr.add]; split <;> simp_all, hc1]
        simpa [intE] using hj
      intro v' w2 ho gr2
      obtain ⟨va, vc, rfl⟩ := owns_lenS ho
      have hb2 := (gr2.block zB (lt_of_heap hb) (fun e => hUz e.symm)).trans hb
      have y2 := cells_at hb2 2
      simp at y2
      have f2 := frozen_at hb2 2
      have ho2 : w2.ownsRow base 3 1 (.slice va (h.length + 1) vc) (h.length + 1) (flat intE (h ++ [y])) := by simpa using ho
      simp only [List.length_append, List.length_cons, List.length_nil, Nat.zero_add]
      have hE := hend W w2 g3 g1 y va vc g cu gr2 ho2 hb2
      refine hK.out _ _ trivial (fun _ => ?_)
      refine take_do 7 (oi := ?_) (v := ?_) ?_ (by rw [hops.out]; kernel_rfl) ?_ ?_ ?_ trivial ?_
      rotate_left 2
      · rw [hops.out]; unfold dtOps; simp only [List.getElem?_toArray, List.getElem?_cons_succ, List.getElem?_cons_zero]; rfl
      · rw [hops.out]; kernel_rfl
      · intro W hW; (try dsimp only at hW); go_simp <;> with_reducible rfl
      · exact fun _ _ _ h => h
      try simp only [Act.put, List.setIfInBounds_toArray, List.set_cons_zero, List.set_cons_succ]
      refine wpAnyH_ready (rs := [8]) (by rw [hops.out]; kernel_rfl) (by simp) ?_
      refine AllReadyH.cons (o := ?_) ?_ (fun K hK => ?_) ?_
      rotate_left 1
      · rw [hops.out]; unfold dtOps; simp only [List.getElem?_toArray, List.getElem?_cons_succ, List.getElem?_cons_zero]; rfl
      · rw [if_pos (by rfl)]
        go_simp
        refine hK.out _ _ trivial (fun _ => ?_)
        exact wpAnyH_done (by rw [hops.out]; kernel_rfl) (NoPanic.normal hE) _
      exact AllReadyH.nil
    exact AllReadyH.nil
  have h21 : ∀ (W : World) (g3 g1 : Nat) (y : Int), w1.grownBy W (some p) → Cur W p a len cap → wpAnyH Tryz.prog .any ops (NoPanic Q) (fun _ => True) 4 #[true, true, true, true, true, false, false, false, false] { tmps := #[t0, t1, t2, t3, .pointer (some ⟨p, 0, none⟩), t5, .pointer (some ⟨zB, 0, none⟩), t7, t8, t9, t10, t11, t12, t13, t14, t15, t16, t17, .pointer (some ⟨zB, 2, none⟩), (.slice ua h.length uc), .pointer (some ⟨p, 0, none⟩), (.slice (some ⟨g3, 0, none⟩) 3 3), .int .i64 y, t23, t24, t25, t26, t27], defers := [] } W := by
    intro W g3 g1 y g cu
    have gs := g.size
    refine wpAnyH_ready (rs := [5]) (by rw [hops.out]; kernel_rfl) (by simp) ?_
    refine AllReadyH.cons (o := ?_) ?_ (fun K hK => ?_) ?_
    rotate_left 1
    · rw [hops.out]; unfold dtOps; simp only [List.getElem?_toArray, List.getElem?_cons_succ, List.getElem?_cons_zero]; rfl
    · rw [if_pos (by rfl)]
      go_simp
      refine hK.out _ _ trivial (fun _ => ?_)
      exact h31 _ g3 W.heap.size y (grown_trans g (World.grownBy_alloc W _ _)) (cur_alloc cu _) (heap_alloc_new W _)
    exact AllReadyH.nil
  have h11 : ∀ (W : World) (g3 g1 : Nat) (y : Int), w1.grownBy W (some p) → Cur W p a len cap → (W.heap[g3]? = some (.cells #[.int .i64 0, .int .i64 7, .int .i64 (-1)] 3) ∧ w1.heap.size ≤ g3) → wpAnyH Tryz.prog .any ops (NoPanic Q) (fun _ => True) 5 #[true, true, true, true, false, false, false, false, false] { tmps := #[t0, t1, t2, t3, .pointer (some ⟨p, 0, none⟩), t5, .pointer (some ⟨zB, 0, none⟩), t7, t8, t9, t10, t11, t12, t13, t14, t15, t16, t17, .pointer (some ⟨zB, 2, none⟩), (.slice ua h.length uc), .pointer (some ⟨p, 0, none⟩), (.slice (some ⟨g3, 0, none⟩) 3 3), t22, t23, t24, t25, t26, t27], defers := [] } W := by
    intro W g3 g1 y g cu k3
    have gs := g.size
    refine wpAnyH_ready (rs := [4]) (by rw [hops.out]; kernel_rfl) (by simp) ?_
    refine AllReadyH.cons (o := ?_) ?_ (fun K hK => ?_) ?_
    rotate_left 1
    · rw [hops.out]; unfold dtOps; simp only [List.getElem?_toArray, List.getElem?_cons_succ, List.getElem?_cons_zero]; rfl
    · rw [if_pos (by rfl)]
      have hpk := pickR_any (fun _ => True) p a len cap g3 3 W cu (by omega) (by omega) (by omega) (fun k hk => by
        have q0 := cells_at k3.1 0
        have q1 := cells_at k3.1 1
        have q2 := cells_at k3.1 2
        simp at q0 q1 q2
        match k, hk with
        | 0, _ => exact ⟨_, trivial, q0⟩
        | 1, _ => exact ⟨_, trivial, q1⟩
        | 2, _ => exact ⟨_, trivial, q2⟩
        | k + 3, hk => omega)
      go_simp
      refine hpk.mono ?_
      rintro e w2 ⟨y2, rfl, _, cu2, gr2⟩
      refine hK.out _ _ trivial (fun _ => ?_)
      exact h21 w2 g3 g1 y2 (grown_trans g gr2) cu2
    exact AllReadyH.nil
  have h01 : ∀ (W : World) (g3 g1 : Nat) (y : Int), w1.grownBy W (some p) → Cur W p a len cap → wpAnyH Tryz.prog .any ops (NoPanic Q) (fun _ => True) 6 #[true, true, true, false, false, false, false, false, false] { tmps := #[t0, t1, t2, t3, .pointer (some ⟨p, 0, none⟩), t5, .pointer (some ⟨zB, 0, none⟩), t7, t8, t9, t10, t11, t12, t13, t14, t15, t16, t17, .pointer (some ⟨zB, 2, none⟩), (.slice ua h.length uc), .pointer (some ⟨p, 0, none⟩), t21, t22, t23, t24, t25, t26, t27], defers := [] } W := by
    intro W g3 g1 y g cu
    have gs := g.size
    refine wpAnyH_ready (rs := [3]) (by rw [hops.out]; kernel_rfl) (by simp) ?_
    refine AllReadyH.cons (o := ?_) ?_ (fun K hK => ?_) ?_
    rotate_left 1
    · rw [hops.out]; unfold dtOps; simp only [List.getElem?_toArray, List.getElem?_cons_succ, List.getElem?_cons_zero]; rfl
    · rw [if_pos (by rfl)]
      go_simp
      refine hK.out _ _ trivial (fun _ => ?_)
      exact h11 _ W.heap.size g1 y (grown_trans g (World.grownBy_alloc W _ _)) (cur_alloc cu _) ⟨heap_alloc_new W _, gs⟩
    exact AllReadyH.nil
  have h30 : ∀ (W : World) (g3 g1 : Nat) (y : Int), w1.grownBy W (some p) → Cur W p a len cap → (W.heap[g1]? = some (.cells #[.int .i64 y] 3)) → wpAnyH Tryz.prog .any ops (NoPanic Q) (fun _ => True) 4 #[true, false, true, true, true, true, false, false, false] { tmps := #[t0, t1, t2, t3, .pointer (some ⟨p, 0, none⟩), t5, .pointer (some ⟨zB, 0, none⟩), t7, t8, t9, t10, t11, t12, t13, t14, t15, t16, t17, .pointer (some ⟨zB, 2, none⟩), t19, .pointer (some ⟨p, 0, none⟩), (.slice (some ⟨g3, 0, none⟩) 3 3), .int .i64 y, (.slice (some ⟨g1, 0, none⟩) 1 1), t24, t25, t26, t27], defers := [] } W := by
    intro W g3 g1 y g cu k1
    have gs := g.size
    refine wpAnyH_ready (rs := [1]) (by rw [hops.out]; kernel_rfl) (by simp) ?_
    refine AllReadyH.cons (o := ?_) ?_ (fun K hK => ?_) ?_
    rotate_left 1
    · rw [hops.out]; unfold dtOps; simp only [List.getElem?_toArray, List.getElem?_cons_succ, List.getElem?_cons_zero]; rfl
    · rw [if_pos (by rfl)]
      have hb := (g.block zB hzB (by simp; omega)).trans HB
      have q := cells_at hb 2
      simp at q
      go_simp
      refine hK.out _ _ trivial (fun _ => ?_)
      exact h31 W g3 g1 y g cu k1
    exact AllReadyH.nil
  have h20 : ∀ (W : World) (g3 g1 : Nat) (y : Int), w1.grownBy W (some p) → Cur W p a len cap → wpAnyH Tryz.prog .any ops (NoPanic Q) (fun _ => True) 5 #[true, false, true, true, true, false, false, false, false] { tmps := #[t0, t1, t2, t3, .pointer (some ⟨p, 0, none⟩), t5, .pointer (some ⟨zB, 0, none⟩), t7, t8, t9, t10, t11, t12, t13, t14, t15, t16, t17, .pointer (some ⟨zB, 2, none⟩), t19, .pointer (some ⟨p, 0, none⟩), (.slice (some ⟨g3, 0, none⟩) 3 3), .int .i64 y, t23, t24, t25, t26, t27], defers := [] } W := by
    intro W g3 g1 y g cu
    have gs := g.size
    refine wpAnyH_ready (rs := [1, 5]) (by rw [hops.out]; kernel_rfl) (by simp) ?_
    refine AllReadyH.cons (o := ?_) ?_ (fun K hK => ?_) ?_
    rotate_left 1
    · rw [hops.out]; unfold dtOps; simp only [List.getElem?_toArray, List.getElem?_cons_succ, List.getElem?_cons_zero]; rfl
    · rw [if_pos (by rfl)]
      have hb := (g.block zB hzB (by simp; omega)).trans HB
      have q := cells_at hb 2
      simp at q
      go_simp
      refine hK.out _ _ trivial (fun _ => ?_)
      exact h21 W g3 g1 y g cu
    refine AllReadyH.cons (o := ?_) ?_ (fun K hK => ?_) ?_
    rotate_left 1
    · rw [hops.out]; unfold dtOps; simp only [List.getElem?_toArray, List.getElem?_cons_succ, List.getElem?_cons_zero]; rfl
    · rw [if_pos (by rfl)]
      go_simp
      refine hK.out _ _ trivial (fun _ => ?_)
      exact h30 _ g3 W.heap.size y (grown_trans g (World.grownBy_alloc W _ _)) (cur_alloc cu _) (heap_alloc_new W _)
    exact AllReadyH.nil
  have h10 : ∀ (W : World) (g3 g1 : Nat) (y : Int), w1.grownBy W (some p) → Cur W p a len cap → (W.heap[g3]? = some (.cells #[.int .i64 0, .int .i64 7, .int .i64 (-1)] 3) ∧ w1.heap.size ≤ g3) → wpAnyH Tryz.prog .any ops (NoPanic Q) (fun _ => True) 6 #[true, false, true, true, false, false, false, false, false] { tmps := #[t0, t1, t2, t3, .pointer (some ⟨p, 0, none⟩), t5, .pointer (some ⟨zB, 0, none⟩), t7, t8, t9, t10, t11, t12, t13, t14, t15, t16, t17, .pointer (some ⟨zB, 2, none⟩), t19, .pointer (some ⟨p, 0, none⟩), (.slice (some ⟨g3, 0, none⟩) 3 3), t22, t23, t24, t25, t26, t27], defers := [] } W := by
    intro W g3 g1 y g cu k3
    have gs := g.size
    refine wpAnyH_ready (rs := [1, 4]) (by rw [hops.out]; kernel_rfl) (by simp) ?_
    refine AllReadyH.cons (o := ?_) ?_ (fun K hK => ?_) ?_
    rotate_left 1
    · rw [hops.out]; unfold dtOps; simp only [List.getElem?_toArray, List.getElem?_cons_succ, List.getElem?_cons_zero]; rfl
    · rw [if_pos (by rfl)]
      have hb := (g.block zB hzB (by simp; omega)).trans HB
      have q := cells_at hb 2
      simp at q
      go_simp
      refine hK.out _ _ trivial (fun _ => ?_)
      exact h11 W g3 g1 y g cu k3
    refine AllReadyH.cons (o := ?_) ?_ (fun K hK => ?_) ?_
    rotate_left 1
    · rw [hops.out]; unfold dtOps; simp only [List.getElem?_toArray, List.getElem?_cons_succ, List.getElem?_cons_zero]; rfl
    · rw [if_pos (by rfl)]
      have hpk := pickR_any (fun _ => True) p a len cap g3 3 W cu (by omega) (by omega) (by omega) (fun k hk => by
        have q0 := cells_at k3.1 0
        have q1 := cells_at k3.1 1
        have q2 := cells_at k3.1 2
        simp at q0 q1 q2
        match k, hk with
        | 0, _ => exact ⟨_, trivial, q0⟩
        | 1, _ => exact ⟨_, trivial, q1⟩
        | 2, _ => exact ⟨_, trivial, q2⟩
        | k + 3, hk => omega)
      go_simp
      refine hpk.mono ?_
      rintro e w2 ⟨y2, rfl, _, cu2, gr2⟩
      refine hK.out _ _ trivial (fun _ => ?_)
      exact h20 w2 g3 g1 y2 (grown_trans g gr2) cu2
    exact AllReadyH.nil
  have h00 : ∀ (W : World) (g3 g1 : Nat) (y : Int), w1.grownBy W (some p) → Cur W p a len cap → wpAnyH Tryz.prog .any ops (NoPanic Q) (fun _ => True) 7 #[true, false, true, false, false, false, false, false, false] { tmps := #[t0, t1, t2, t3, .pointer (some ⟨p, 0, none⟩), t5, .pointer (some ⟨zB, 0, none⟩), t7, t8, t9, t10, t11, t12, t13, t14, t15, t16, t17, .pointer (some ⟨zB, 2, none⟩), t19, .pointer (some ⟨p, 0, none⟩), t21, t22, t23, t24, t25, t26, t27], defers := [] } W := by
    intro W g3 g1 y g cu
    have gs := g.size
    refine wpAnyH_ready (rs := [1, 3]) (by rw [hops.out]; kernel_rfl) (by simp) ?_
    refine AllReadyH.cons (o := ?_) ?_ (fun K hK => ?_) ?_
    rotate_left 1
    · rw [hops.out]; unfold dtOps; simp only [List.getElem?_toArray, List.getElem?_cons_succ, List.getElem?_cons_zero]; rfl
    · rw [if_pos (by rfl)]
      have hb := (g.block zB hzB (by simp; omega)).trans HB
      have q := cells_at hb 2
      simp at q
      go_simp
      refine hK.out _ _ trivial (fun _ => ?_)
      exact h01 W g3 g1 y g cu
    refine AllReadyH.cons (o := ?_) ?_ (fun K hK => ?_) ?_
    rotate_left 1
    · rw [hops.out]; unfold dtOps; simp only [List.getElem?_toArray, List.getElem?_cons_succ, List.getElem?_cons_zero]; rfl
    · rw [if_pos (by rfl)]
      go_simp
      refine hK.out _ _ trivial (fun _ => ?_)
      exact h10 _ W.heap.size g1 y (grown_trans g (World.grownBy_alloc W _ _)) (cur_alloc cu _) ⟨heap_alloc_new W _, gs⟩
    exact AllReadyH.nil
  exact h00 w1 0 0 0 (grown_refl _ _) hc
end Go.Proofs.YtdaigojpeofmpaaGreat
