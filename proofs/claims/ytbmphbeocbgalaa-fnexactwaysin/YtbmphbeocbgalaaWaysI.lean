/-
  (*impl.wayFinder).ways: its contract.
-/
import Derived.Test.YtbmphbeocbgalaaGrL
import Derived.Test.YtbmphbeocbgalaaWayReg
namespace Go.Proofs.Ytbmphbeocbgalaa
open Go.RowKit

set_option linter.unusedSimpArgs false

def collP (bp : Nat → Option Nat) (wd : Nat → WayD) (wv : Nat → Value) : Nat → List WP
  | 0 => []
  | t + 1 => collP bp wd wv t ++ (match bp t with
    | some k => [(wd k, wv k)]
    | none => [])

theorem collP_some {bp : Nat → Option Nat} {wd : Nat → WayD} {wv : Nat → Value} {t k : Nat} (h : bp t = some k) : collP bp wd wv (t + 1) = collP bp wd wv t ++ [(wd k, wv k)] := by
  show collP bp wd wv t ++ (match bp t with
    | some k => [(wd k, wv k)]
    | none => []) = _
  rw [h]

theorem collP_none {bp : Nat → Option Nat} {wd : Nat → WayD} {wv : Nat → Value} {t : Nat} (h : bp t = none) : collP bp wd wv (t + 1) = collP bp wd wv t := by
  show collP bp wd wv t ++ (match bp t with
    | some k => [(wd k, wv k)]
    | none => []) = _
  rw [h]
  simp

theorem collP_mem {bp : Nat → Option Nat} {wd : Nat → WayD} {wv : Nat → Value} {p : WP} : ∀ {t : Nat}, p ∈ collP bp wd wv t → ∃ v k, v < t ∧ bp v = some k ∧ p = (wd k, wv k)
  | 0, h => by cases h
  | t + 1, h => by
    cases e : bp t with
    | none =>
      rw [collP_none e] at h
      obtain ⟨v, k, h1, h2⟩ := collP_mem h
      exact ⟨v, k, by omega, h2⟩
    | some k =>
      rw [collP_some e] at h
      rcases List.mem_append.1 h with h1 | h1
      · obtain ⟨v, k, h1, h2⟩ := collP_mem h1
        exact ⟨v, k, by omega, h2⟩
      · exact ⟨t, k, by omega, e, by simpa using h1⟩

theorem collP_len (bp : Nat → Option Nat) (wd : Nat → WayD) (wv : Nat → Value) : ∀ t, (collP bp wd wv t).length ≤ t
  | 0 => by simp [collP]
  | t + 1 => by
    have := collP_len bp wd wv t
    cases e : bp t with
    | none => rw [collP_none e]; omega
    | some k => rw [collP_some e]; simp; omega

theorem collP_apart {bp : Nat → Option Nat} {wd : Nat → WayD} {wv : Nat → Value} (h : ∀ v v' k k', v ≠ v' → bp v = some k → bp v' = some k' → ∀ b, (wv k).ownBlock = some b → (wv k').ownBlock ≠ some b) : ∀ t, (collP bp wd wv t).Pairwise ApartW
  | 0 => by simp [collP]
  | t + 1 => by
    cases e : bp t with
    | none => rw [collP_none e]; exact collP_apart h t
    | some k =>
      rw [collP_some e, List.pairwise_append]
      refine ⟨collP_apart h t, by simp, fun p hp q hq => ?_⟩
      obtain ⟨v, k', hv, e2, rfl⟩ := collP_mem hp
      have : q = (wd k, wv k) := by simpa using hq
      subst this
      intro b hb
      exact h v t k' k (by omega) e2 e b hb

theorem collP_coll {bp : Nat → Option Nat} {wd : Nat → WayD} {wv : Nat → Value} {c : Nat → Int} {h : Nat → List Int} (h0 : bp 0 = none) (hc : ∀ v, cOf bp wd v = c v) (hh : ∀ v, hOf bp wd v = h v) (hto : ∀ v k, bp v = some k → (wd k).to = (v : Int)) (hnn : ∀ v k, bp v = some k → 0 ≤ (wd k).cost) : ∀ t, fstsW (collP bp wd wv (t + 1)) = collT c h t
  | 0 => by rw [collP_none h0]; rfl
  | t + 1 => by
    have ih := collP_coll h0 hc hh hto hnn t (wv := wv)
    have e1 := hc (t + 1)
    have e2 := hh (t + 1)
    unfold collT
    cases e : bp (t + 1) with
    | none =>
      rw [cOf_none e] at e1
      rw [collP_none e, ih, if_neg (by omega), List.append_nil]
    | some k =>
      rw [cOf_some e] at e1
      rw [hOf_some e] at e2
      have h1 := hnn (t + 1) k e
      have h2 := hto (t + 1) k e
      rw [collP_some e, if_pos (by omega), ← ih, ← e1, ← e2, ← h2]
      simp [fstsW]

set_option maxRecDepth 100000 in
theorem run_best (f : Nat → Value) (W : World) {t : Nat} (ht : t ≤ 6) : (Instr.index 80 (.agg #[f 0, f 1, f 2, f 3, f 4, f 5, f 6]) (.int .i64 (t : Int))).run Try.prog W = .ok (f t) W := by
  have h : t = 0 ∨ t = 1 ∨ t = 2 ∨ t = 3 ∨ t = 4 ∨ t = 5 ∨ t = 6 := by omega
  rcases h with rfl | rfl | rfl | rfl | rfl | rfl | rfl <;> rfl

set_option maxRecDepth 100000 in
set_option maxHeartbeats 2000000 in
theorem ways_any (W : World) (lo z : Nat) (u : Value) (n : Nat) (q : Nat → Nat) (bp : Nat → Option Nat) (wd : Nat → WayD) (wv : Nat → Value) (s : FS W lo z u n q bp wd wv) :
    Calls Try.prog 64 #[.pointer (some ⟨z, 0, none⟩)] W fun e W' => ∃ x, e = .returned x ∧ WaysOwn W' lo W'.heap.size x (collP bp wd wv 7) ∧ Below lo W W' := by
  have hlo := s.size
  have lz := lt_of_heap s.hb.box
  have B0 : Below W.heap.size W (W.alloc (.cells #[] 27)) := (Below.refl _ _).alloc (Nat.le_refl _) _
  have O0 : (W.alloc (.cells #[] 27)).ownsRow W.heap.size 27 3 (.slice (some ⟨W.heap.size, 0, none⟩) 0 0) 0 (flat encW []) := World.ownsRow_lit W #[] 0 (Nat.le_refl _) (by unfold maxLen; omega) (by simp)
  obtain ⟨W0, hW0⟩ : ∃ V, V = W.alloc (.cells #[] 27) := ⟨_, rfl⟩
  rw [← hW0] at B0 O0
  have bx := s.hb.box
  unfold finC at bx
  have d0 := cells_at bx 0
  have d1 := cells_at bx 1
  have d2 := cells_at bx 2
  have d3 := cells_at bx 3
  have d4 := cells_at bx 4
  have d5 := cells_at bx 5
  have d6 := cells_at bx 6
  simp at d0 d1 d2 d3 d4 d5 d6
  have FIN := hide (fun (W' : World) (x : Value) (hb : Below W.heap.size W W') (ho : W'.ownsRow W.heap.size 27 3 x (collP bp wd wv 7).length (flat encW (collP bp wd wv 7))) => show WaysOwn W' lo W'.heap.size x (collP bp wd wv 7) from
    { row := owns_baseS ho hlo
      top := fun k hk => (ho.lt k hk).2
      nears := fun p hp => by
        obtain ⟨v, k, _, e, rfl⟩ := collP_mem hp
        have hr := owns_below (s.row v k e) hb (Nat.le_refl _)
        exact ⟨hr, fun b hb => (hr.lt b hb).2⟩
      apart := collP_apart s.apart 7 })
  have HWY := hide (fun v k (e : bp v = some k) => (s.way v k e).1)
  have HSL := hide (fun v k (e : bp v = some k) => owns_lenS (s.row v k e))
  obtain ⟨f, hf⟩ : ∃ f : Nat → Value, f = fun t => ptrO (bp t) := ⟨_, rfl⟩
  have HF := hide hf
  rw [show ptrO (bp 0) = f 0 by rw [hf]] at d0
  rw [show ptrO (bp 1) = f 1 by rw [hf]] at d1
  rw [show ptrO (bp 2) = f 2 by rw [hf]] at d2
  rw [show ptrO (bp 3) = f 3 by rw [hf]] at d3
  rw [show ptrO (bp 4) = f 4 by rw [hf]] at d4
  rw [show ptrO (bp 5) = f 5 by rw [hf]] at d5
  rw [show ptrO (bp 6) = f 6 by rw [hf]] at d6
  have HO0 := hide O0
  clear hf s bx O0
  go_enter Try.func64, Try.ntmps64
  go_wp2
  rw [← hW0]
  clear hW0 d0 d1 d2 d3 d4 d5 d6
  go_loopw [11, 3] (fun i o wr => ∃ (t : Nat) (x : Value), t ≤ 7 ∧ i = .int .i64 (t : Int) ∧ o = x ∧ wr.ownsRow W.heap.size 27 3 x (collP bp wd wv t).length (flat encW (collP bp wd wv t)) ∧ Below W.heap.size W wr) (fun i _ _ => 8 - (intOf i).toNat)
  case atStart => exact ⟨0, _, by omega, rfl, rfl, HO0.out, B0⟩
  case round =>
    obtain ⟨t, x, ht, rfl, rfl, hown, hb⟩ := hrel
    clear HO0 B0
    obtain ⟨xa, xc, rfl⟩ := owns_lenS hown
    have hsz := hb.size
    have OW := hide hown
    have hcl := collP_len bp wd wv t
    clear hown
    by_cases htl : t < 7
    · have ht6 : (t : Int) < 7 := by omega
      have hix := fun V => run_best f V (t := t) (by omega)
      cases e : bp t with
      | none =>
        have hft : f t = .pointer none := by rw [HF.out]; show ptrO (bp t) = _; rw [e]; rfl
        rw [hft] at hix
        have HOW := hide (show wr.ownsRow W.heap.size 27 3 (.slice xa (collP bp wd wv t).length xc) (collP bp wd wv (t + 1)).length (flat encW (collP bp wd wv (t + 1))) by rw [collP_none e]; exact OW.out)
        clear e hft
        go_wp2
        go_roundw
        case rel => exact ⟨t + 1, _, by omega, by go_num, rfl, HOW.out, hb⟩
        case measure => simp [intOf]; omega
      | some k =>
        have hft : f t = .pointer (some ⟨k, 0, none⟩) := by rw [HF.out]; show ptrO (bp t) = _; rw [e]; rfl
        rw [hft] at hix
        obtain ⟨ya, yc, hyv⟩ := HSL.out t k e
        have hw := HWY.out t k e
        rw [hyv] at hw
        obtain ⟨y, hy⟩ : ∃ y, y = wd k := ⟨_, rfl⟩
        rw [← hy] at hw hyv
        have lk := lt_of_heap hw
        have hw2 := (hb.block _ lk).trans hw
        have s0 := cells_at hw2 0
        have s1 := cells_at hw2 1
        have s2 := cells_at hw2 2
        simp [wayC] at s0 s1 s2
        have HSP := hide (collP_some e (wd := wd) (wv := wv))
        rw [hyv, ← hy] at HSP
        obtain ⟨C, hC⟩ : ∃ C, C = collP bp wd wv t := ⟨_, rfl⟩
        rw [← hC] at OW HSP hcl ⊢
        clear e hft hw hw2 hy hyv hC
        go_wp2_with (first
          | (at_builtin; refine append_struct5 encW_len (by omega) (by omega) _ rfl _ _ 34 rfl W.heap.size 27 Try.underlying34 (.agg (wayC zeroWD (.slice none 0 0))) rfl Try.infoWay _ C (y, .slice ya y.hops.length yc) (encW_one _ _ _ _) rfl (OW.out.alloc _) ⟨wr.heap.size, 0, none⟩ 1 rfl (news_struct (cs := encW (y, .slice ya y.hops.length yc))) (by omega) (by simp; omega) ?_))
        intro v' w4 hown' hgrow
        have B4 : Below W.heap.size W w4 := (hb.alloc hsz _).grown hgrow (by simp; omega) (fun j hj => (OW.out.lt j hj).1)
        have O4 := hide (show w4.ownsRow W.heap.size 27 3 v' (collP bp wd wv (t + 1)).length (flat encW (collP bp wd wv (t + 1))) by rw [HSP.out]; simpa using hown')
        obtain ⟨va, vc, rfl⟩ := owns_lenS hown'
        clear hown' hgrow
        go_wp2
        go_roundw
        case rel => exact ⟨t + 1, _, by omega, by go_num, rfl, O4.out, B4⟩
        case measure => simp [intOf]; omega
    · have ht6 : ¬ (t : Int) < 7 := by omega
      have htt : t = 7 := by omega
      subst htt
      have HE := hide (FIN.out wr _ hb OW.out)
      have HBB := hide (hb.mono hlo)
      obtain ⟨C, hC⟩ : ∃ C, C = collP bp wd wv 7 := ⟨_, rfl⟩
      rw [← hC] at HE ⊢
      have HCC := hide hC
      clear hC OW FIN
      go_wp2
      go_ret
      exact ⟨_, rfl, by rw [← HCC.out]; exact HE.out, HBB.out⟩
end Go.Proofs.Ytbmphbeocbgalaa
