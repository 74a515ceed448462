/-
  impl.WaysIn: its contract.
-/
import Derived.Test.YtbmphbeocbgalaaGrN
import Derived.Test.YtbmphbeocbgalaaWaysI
import Derived.Test.YtbmphbeocbgalaaStoreI
namespace Go.Proofs.Ytbmphbeocbgalaa
open Go.RowKit

set_option linter.unusedSimpArgs false

theorem gi_none (q : Nat → Nat) (wd : Nat → WayD) : GI (fun _ => false) (fun _ => -1) (fun _ => []) 0 q (fun _ => none) wd :=
  ⟨fun _ => rfl, fun _ => rfl, fun _ _ e => (by cases e), fun i hi => (by omega), fun _ _ e => (by cases e), fun i j hi => (by omega), fun _ _ e => (by cases e)⟩

theorem fs_new (W : World) (wd : Nat → WayD) (wv : Nat → Value) (q : Nat → Nat) : FS (W.alloc (.cells #[.pointer none, .pointer none, .pointer none, .pointer none, .pointer none, .pointer none, .pointer none, .slice none 0 0] 84)) W.heap.size W.heap.size (.slice none 0 0) 0 q (fun _ => none) wd wv where
  lz := Nat.le_refl _
  hb := ⟨heap_alloc_new W _, rfl, World.ownsRow_nil _ _ _ _, fun i hi => by omega, fun i hi => by omega⟩
  hp := fun i _ hi => by omega
  way := fun _ _ e => by cases e
  row := fun _ _ e => by cases e
  short := fun _ _ e => by cases e
  apart := fun _ _ _ _ _ e => by cases e
  to := fun _ _ e => by cases e
  b0 := rfl

set_option maxRecDepth 100000 in
set_option maxHeartbeats 4000000 in
theorem iwaysIn_any (v : Value) (ps : List RP) (hi : Nat) (area src : Int) (w : World) (hv : RecsIn w hi v ps) (hhi : hi ≤ w.heap.size) (hn : tot ps ≤ 1048576) :
    Calls Try.prog 27 #[v, .int .i64 area, .int .i64 src] w fun e w' => ∃ u qs, e = .returned u ∧ IsWays (fsts ps) area src (fstsW qs) ∧ WaysOwn w' w.heap.size w'.heap.size u qs ∧ Below w.heap.size w w' := by
  obtain ⟨a1, c1, rfl⟩ := owns_lenS hv.row
  have HS := hide (istoreOk_any (.slice a1 ps.length c1) ps w hn (RecsAt.more hv.at hhi))
  have HP := hide (fun W (hb : Below w.heap.size w W) => placeN_any (.slice a1 ps.length c1) ps hi area src W (hv.below hb hhi) (Nat.le_trans hhi hb.size) hn)
  have HV := hide hv
  clear hv
  obtain ⟨SB, hSB⟩ : ∃ b, b = storeB (fsts ps) := ⟨_, rfl⟩
  obtain ⟨IB, hIB⟩ : ∃ b, b = inB src 1 6 := ⟨_, rfl⟩
  rw [← hSB] at HS
  have HSB := hide hSB
  have HIB := hide hIB
  clear hSB hIB
  have EMP := hide (fun (e : (storeB (fsts ps) && inB src 1 6 && nodeB (fsts ps) area src) = false) => show IsWays (fsts ps) area src (fstsW []) by unfold IsWays; rw [e]; rfl)
  have LIT := hide (fun W (hb : Below w.heap.size w W) => ways_lit W w.heap.size hb.size)
  go_enter Try.func27, Try.ntmps27
  go_wp2_with fail
  refine HS.out.mono ?_
  rintro e w1 ⟨rfl, b1⟩
  cases SB
  · have HE := hide (EMP.out (by rw [← HSB.out]; rfl))
    have HL := hide (LIT.out w1 b1)
    have HB := hide (b1.alloc b1.size (.cells #[] 27))
    go_wp2
    go_ret
    exact ⟨_, [], rfl, HE.out, HL.out, HB.out⟩
  · go_wp2_with fail
    refine (isIn_any _ _ _ _).mono ?_
    rintro e w2 ⟨rfl, rfl⟩
    rw [← HIB.out]
    cases IB
    · have HE := hide (EMP.out (by rw [← HSB.out, ← HIB.out]; rfl))
      have HL := hide (LIT.out w1 b1)
      have HB := hide (b1.alloc b1.size (.cells #[] 27))
      go_wp2
      go_ret
      exact ⟨_, [], rfl, HE.out, HL.out, HB.out⟩
    · have hpl := HP.out w1 b1
      have hnb := node_right HSB.out.symm area src
      cases hR : plN (fsts ps) area src with
      | none =>
        rw [hR] at hpl hnb
        unfold plV2 at hpl
        have HPL := hide hpl
        have HE := hide (EMP.out (by rw [hnb, ← HSB.out, ← HIB.out]; rfl))
        clear hpl hnb hR
        go_wp2_with fail
        refine HPL.out.mono ?_
        rintro e w2 ⟨rfl, b2⟩
        have B2 : Below w.heap.size w w2 := b1.trans (b2.mono b1.size)
        have HL := hide (LIT.out w2 B2)
        have HB := hide (B2.alloc B2.size (.cells #[] 27))
        clear b2
        go_wp2
        go_ret
        exact ⟨_, [], rfl, HE.out, HL.out, HB.out⟩
      | some k0 =>
        rw [hR] at hpl hnb
        unfold plV2 at hpl
        have HPL := hide hpl
        obtain ⟨s, rfl⟩ : ∃ s : Nat, src = (s : Int) := ⟨src.toNat, by have := inB_iff.1 HIB.out.symm; omega⟩
        have hs6 := inB_iff.1 HIB.out.symm
        have hs : 1 ≤ s ∧ s ≤ 6 := by omega
        have FIN := hide (fun c h (hf : Fix (linkN (fsts ps) area) s c h) => show IsWays (fsts ps) area (s : Int) (collT c h 6) by
          unfold IsWays
          rw [hnb, ← HSB.out, ← HIB.out]
          exact ⟨c, h, by simpa using hf, rfl⟩)
        have HLK := hide (linkN_links (area := area) HSB.out.symm)
        have HLN := hide (fun (a b : Nat) (ha : 1 ≤ a ∧ a ≤ 6) (hb : 1 ≤ b ∧ b ≤ 6) => linked_right HSB.out.symm area ha hb)
        clear hpl hnb hR EMP LIT HP
        go_wp2_with fail
        refine HPL.out.mono ?_
        rintro e w2 ⟨rfl, b2⟩
        have B2 : Below w.heap.size w w2 := b1.trans (b2.mono b1.size)
        have B3 : Below w2.heap.size w2 (w2.alloc (.cells #[.pointer none, .pointer none, .pointer none, .pointer none, .pointer none, .pointer none, .pointer none, .slice none 0 0] 84)) := (Below.refl _ _).alloc (Nat.le_refl _) _
        have fs := fs_new w2 (fun _ => zeroWD) (fun _ => .slice none 0 0) (fun _ => 0)
        obtain ⟨w3, hw3⟩ : ∃ W, W = w2.alloc (.cells #[.pointer none, .pointer none, .pointer none, .pointer none, .pointer none, .pointer none, .pointer none, .slice none 0 0] 84) := ⟨_, rfl⟩
        rw [← hw3] at B3 fs
        obtain ⟨lo, hlo⟩ : ∃ l, l = w2.heap.size := ⟨_, rfl⟩
        have HFO := hide (found_any w3 w2.heap.size w2.heap.size (.slice none 0 0) 0 (fun _ => 0) (fun _ => none) (fun _ => zeroWD) (fun _ => .slice none 0 0) s ⟨(s : Int), 0, []⟩ (.slice none 0 0) fs (by omega) hs rfl (World.ownsRow_nil _ _ _ _) (by simp) (fun _ _ _ e => by cases e) (fun _ e => by cases e))
        unfold wayC at HFO
        have HHI : hi ≤ w2.heap.size := by have := B2.size; omega
        have hwlo : w.heap.size ≤ w2.heap.size := B2.size
        have HV3 := hide (HV.out.below (B2.trans (B3.mono hwlo)) hhi)
        clear fs b2 HPL HV
        go_wp2_with fail
        rw [← hw3]
        clear hw3
        refine HFO.out.mono ?_
        rintro e w4 ⟨rfl, b4, hcs⟩
        have HGO : Hid (∃ m, GO w4 w2.heap.size w2.heap.size (linkN (fsts ps) area) s m ∧ m ≤ 43) := by
          rcases hcs with ⟨hcase, u3, q3, fs4, hsh⟩ | ⟨kn, vy, e1, _⟩
          · refine ⟨7 * (6 - cardF (fun _ => false)) + 1, ⟨u3, 1, q3, _, _, _, (fun _ => false), (fun v => if v = s then 0 else -1), (fun _ => []), fs4, ?_, Inv.init hs, fun v => ?_, rfl⟩, by rw [card_zero]; omega⟩
            · have g := (gi_none (fun _ => 0) (fun _ => zeroWD)).push (t := s) (k := w3.heap.size) (x := ⟨(s : Int), 0, []⟩) rfl rfl (.inl (by omega)) (fun i hi => by omega) (fun v e => by cases e) hsh (by show (0 : Int) ≤ 0; omega)
              have ec : upd (fun _ => (-1 : Int)) s 0 = fun v => if v = s then 0 else -1 := by funext v; rfl
              have eh : upd (fun _ => ([] : List Int)) s [] = fun _ => [] := by funext v; unfold upd; split <;> rfl
              rw [← ec, ← eh]
              exact g
            · rw [card_zero]
              show (if v = s then (0 : Int) else -1) ≤ _
              split <;> omega
          · cases e1
        have HGN := hide (goOn_any w4 w2.heap.size w2.heap.size (.slice a1 ps.length c1) ps hi area (linkN (fsts ps) area) s (HV3.out.below b4 HHI) HHI hn HLK.out HLN.out HGO.out)
        have B4 : Below w.heap.size w w4 := (B2.trans (B3.mono hwlo)).trans (b4.mono hwlo)
        clear hcs b4 HGO HFO
        go_wp2_with fail
        refine HGN.out.mono ?_
        rintro e w5 ⟨rfl, hge, b5⟩
        obtain ⟨u5, q5, bp5, wd5, wv5, c5, h5, fs5, cc5, hh5, nn5, fx5⟩ := hge
        have B5 : Below w.heap.size w w5 := B4.trans (b5.mono hwlo)
        have HWA := hide (ways_any w5 w2.heap.size w2.heap.size u5 0 q5 bp5 wd5 wv5 fs5)
        have HIS := hide (show IsWays (fsts ps) area (s : Int) (fstsW (collP bp5 wd5 wv5 7)) by
          rw [collP_coll fs5.b0 cc5 hh5 fs5.to nn5 6]
          exact FIN.out c5 h5 fx5)
        clear fs5 cc5 hh5 nn5 fx5 b5 HGN
        go_wp2_with fail
        refine HWA.out.mono ?_
        rintro e w6 ⟨x, rfl, ow6, b6⟩
        obtain ⟨xa, xc, rfl⟩ := owns_lenS ow6.row
        have B6 := hide (B5.trans (b6.mono hwlo))
        have O6 := hide (ow6.wide hwlo (Nat.le_refl _))
        clear ow6 b6 HWA
        go_wp2
        go_ret
        first
          | exact ⟨_, _, rfl, HIS.out, O6.out, B6.out⟩
          | exact ⟨_, rfl, _, HIS.out, O6.out, B6.out⟩
end Go.Proofs.Ytbmphbeocbgalaa
