/-
  impl.TableOf: its contract.
  spec.l11At: its contract.
  spec.TableOf: its contract.
-/
import Derived.Test.YtnpafmjfhglbhaaTb10
import Derived.Test.YtnpafmjfhglbhaaTb12
import Derived.Test.YtnpafmjfhglbhaaTb6
namespace Go.Proofs.Ytnpafmjfhglbhaa
open Go.RowKit

set_option linter.unusedSimpArgs false

/-- what a table has of a route -/
def lnR (q : RtD) : LnD := ⟨q.thing, q.to, q.hops⟩

def tabS (acc : List LnD) (x : LnD) : List LnD := if idxZ acc x.thing x.to < 0 then acc ++ [x] else acc

/-- the first one of each -/
def tabD (xs : List LnD) : List LnD := xs.foldl tabS []

theorem tabD_take {xs : List LnD} {k : Nat} {x : LnD} (h : xs[k]? = some x) : tabD (xs.take (k + 1)) = tabS (tabD (xs.take k)) x := by
  obtain ⟨hk, e⟩ := List.getElem?_eq_some_iff.1 h
  unfold tabD
  rw [List.take_succ_eq_append_getElem hk, List.foldl_append, e]
  rfl

theorem tabS_no {acc : List LnD} {x : LnD} (h : 0 ≤ idxZ acc x.thing x.to) : tabS acc x = acc := if_neg (by omega)

theorem tabS_yes {acc : List LnD} {x : LnD} (h : idxZ acc x.thing x.to = -1) : tabS acc x = acc ++ [x] := if_pos (by omega)

theorem idxZ_or (l : List LnD) (t : Bool) (z : Int) : idxZ l t z = -1 ∨ 0 ≤ idxZ l t z := by
  rcases idxZ_cases l t z with h | ⟨k, x, h, _⟩
  · exact .inl h
  · exact .inr (by omega)

/-- the map that is made of routes, under way -/
structure TmAt (W : World) (lo m : Nat) (ps : List QP) (k : Nat) (es : List (PS × Value)) : Prop where
  lm : LmAt W lo W.heap.size m (es.map ent9)
  tab : es.map (fun x => x.1.2.1) = tabD ((ps.take k).map (fun p => lnR p.1))
  asc : (es.map (fun x => psP x.1)).Pairwise (fun a b => a.1 < b.1)
  lt : ∀ x ∈ es, x.1.1 < (k : Int)
  src : ∀ x ∈ es, ∃ p ∈ ps, (psP x.1).2.2 = p.2 ∧ x.1.2.1.hops = p.1.hops
  len : es.length ≤ k

theorem TmAt.lns {W : World} {lo m : Nat} {ps : List QP} {k : Nat} {es : List (PS × Value)} (h : TmAt W lo m ps k es) : lnsOf (es.map ent9) = tabD ((ps.take k).map (fun p => lnR p.1)) := by
  rw [← h.tab]
  unfold lnsOf ent9
  rw [List.map_map]
  rfl

theorem map_lnR {ps : List QP} {k : Nat} {p : QP} (h : ps[k]? = some p) : tabD ((ps.take (k + 1)).map (fun p => lnR p.1)) = tabS (tabD ((ps.take k).map (fun p => lnR p.1))) (lnR p.1) := by
  have h1 : (ps.map (fun p => lnR p.1))[k]? = some (lnR p.1) := by rw [List.getElem?_map, h]; rfl
  have := tabD_take h1
  rw [← List.map_take, ← List.map_take] at this
  exact this

theorem TmAt.pass {W : World} {lo m : Nat} {ps : List QP} {k : Nat} {es : List (PS × Value)} {p : QP} (h : TmAt W lo m ps k es) (hp : ps[k]? = some p) (hi : 0 ≤ idxZ (tabD ((ps.take k).map (fun p => lnR p.1))) p.1.thing p.1.to) : TmAt W lo m ps (k + 1) es where
  lm := h.lm
  tab := by rw [map_lnR hp, tabS_no hi]; exact h.tab
  asc := h.asc
  lt := fun x hx => by have := h.lt x hx; omega
  src := h.src
  len := by have := h.len; omega

theorem TmAt.push {W W' : World} {lo m : Nat} {ps : List QP} {k : Nat} {es : List (PS × Value)} {p : QP} {a : Option Addr} {n c : Nat} {v : Value} (h : TmAt W lo m ps k es) (hp : ps[k]? = some p) (hpe : p.2 = .slice a n c) (hi : idxZ (tabD ((ps.take k).map (fun p => lnR p.1))) p.1.thing p.1.to = -1)
    (hl : LmAt W' lo W'.heap.size m (es.map ent9 ++ [(((k : Int), (lnR p.1, .slice a n c)), v)])) : TmAt W' lo m ps (k + 1) (es ++ [(((k : Int), lnR p.1, a, n, c), v)]) where
  lm := by rw [List.map_append]; exact hl
  tab := by rw [map_lnR hp, tabS_yes hi, List.map_append, h.tab]; rfl
  asc := by
    rw [List.map_append, List.pairwise_append]
    refine ⟨h.asc, by simp, fun x hx y hy => ?_⟩
    obtain ⟨z, hz, rfl⟩ := List.mem_map.1 hx
    have : y = psP ((k : Int), lnR p.1, a, n, c) := by simpa using hy
    subst this
    exact h.lt z hz
  lt := fun x hx => by
    rcases List.mem_append.1 hx with h1 | h1
    · have := h.lt x h1; omega
    · have : x = (((k : Int), lnR p.1, a, n, c), v) := by simpa using h1
      subst this
      show (k : Int) < ((k + 1 : Nat) : Int)
      omega
  src := fun x hx => by
    rcases List.mem_append.1 hx with h1 | h1
    · exact h.src x h1
    · have : x = (((k : Int), lnR p.1, a, n, c), v) := by simpa using h1
      subst this
      exact ⟨p, List.mem_of_getElem? hp, hpe.symm, rfl⟩
  len := by rw [List.length_append]; have := h.len; simp; omega

set_option maxRecDepth 100000 in
set_option maxHeartbeats 4000000 in
theorem itable_any (v : Value) (ps : List QP) (lo hi : Nat) (w : World) (hv : RtsOwn w lo hi v ps) (hhi : hi ≤ w.heap.size) (hn : totQ ps ≤ 1048576) :
    Calls Try.prog 8 #[v] w fun e w' => ∃ u qs, e = .returned u ∧ fstsJ qs = tabD (ps.map (fun p => lnR p.1)) ∧ LnsOwn w' w.heap.size w'.heap.size u qs ∧ Below w.heap.size w w' := by
  have hnl := totQ_len ps
  obtain ⟨a1, c1, rfl⟩ := owns_lenS hv.row
  have HV := hide hv
  clear hv
  have hmk : (Instr.makeMap 56 none).run Try.prog w = .ok (.map (some w.heap.size)) (w.alloc (.map #[] 0)) := by rfl
  have bM := (Below.refl w.heap.size w).alloc (Nat.le_refl _) (.map #[] 0)
  have lM := (LmAt.made w).wide (hi' := (w.alloc (.map #[] 0)).heap.size) (by simp)
  obtain ⟨WM, hWM⟩ : ∃ WM, WM = w.alloc (.map #[] 0) := ⟨_, rfl⟩
  rw [← hWM] at bM lM hmk
  clear hWM
  have T0 := hide (show TmAt WM w.heap.size w.heap.size ps 0 [] from ⟨lM, by simp [tabD], by simp, by simp, by simp, by simp⟩)
  clear lM
  go_enter Try.func8, Try.ntmps8
  go_wp2
  clear hmk
  go_loopw [10] (fun i wr => ∃ (k : Nat) (es : List (PS × Value)), k ≤ ps.length ∧ i = .int .i64 (k : Int) ∧ Hid (TmAt wr w.heap.size w.heap.size ps k es) ∧ Below w.heap.size w wr) (fun i _ => ps.length - (intOf i).toNat)
  case atStart => exact ⟨0, [], by omega, rfl, T0, bM⟩
  case round =>
    obtain ⟨k, es, hk, rfl, HT, hnx⟩ := hrel
    have hsz := hnx.size
    by_cases hlt : k < ps.length
    · obtain ⟨p, hp⟩ : ∃ p, ps[k]? = some p := ⟨ps[k], List.getElem?_eq_getElem hlt⟩
      obtain ⟨b, off, cp, hve, hbb, d0, d1, d2, d3, d4, d5, hh⟩ := HV.out.at.cells k p hp
      cases hve
      have hbw : b < w.heap.size := by omega
      obtain ⟨ha, hc, hpe⟩ := owns_lenS (HV.out.nears p (List.mem_of_getElem? hp)).1
      rw [hpe] at d5
      rw [← hnx.cell (p := ⟨b, off + k * 6, none⟩) hbw] at d0
      rw [← hnx.cell (p := ⟨b, off + k * 6 + 1, none⟩) hbw] at d1
      rw [← hnx.cell (p := ⟨b, off + k * 6 + 2, none⟩) hbw] at d2
      rw [← hnx.cell (p := ⟨b, off + k * 6 + 3, none⟩) hbw] at d3
      rw [← hnx.cell (p := ⟨b, off + k * 6 + 4, none⟩) hbw] at d4
      rw [← hnx.cell (p := ⟨b, off + k * 6 + 5, none⟩) hbw] at d5
      have hki : (0 : Int) ≤ (k : Int) := by omega
      have hkj : (k : Int) < (ps.length : Int) := by omega
      have HP := hide hp
      have HPE := hide hpe
      have HK := hide (fun W => key_any (lnR p.1) (.slice ha p.1.hops.length hc) W)
      have HLN := hide (show lnR p.1 = ⟨p.1.thing, p.1.to, p.1.hops⟩ from rfl)
      rw [HLN.out] at HK
      simp only [] at HK
      clear hp hpe hh
      go_wp2_with fail
      have bb := below_two (w := wr) (.cells #[.bool p.1.thing, .int .i64 p.1.to, .int .i64 p.1.kind, .int .i64 p.1.cost, .int .i64 p.1.far, .slice ha p.1.hops.length hc] 49) (.cells #[.bool p.1.thing, .int .i64 p.1.to, .slice ha p.1.hops.length hc] 51)
      have hbx : ((wr.alloc (.cells #[.bool p.1.thing, .int .i64 p.1.to, .int .i64 p.1.kind, .int .i64 p.1.cost, .int .i64 p.1.far, .slice ha p.1.hops.length hc] 49)).alloc (.cells #[.bool p.1.thing, .int .i64 p.1.to, .slice ha p.1.hops.length hc] 51)).heap[wr.heap.size + 1]? = some (.cells #[.bool p.1.thing, .int .i64 p.1.to, .slice ha p.1.hops.length hc] 51) := by
        have := heap_alloc_new (wr.alloc (.cells #[.bool p.1.thing, .int .i64 p.1.to, .int .i64 p.1.kind, .int .i64 p.1.cost, .int .i64 p.1.far, .slice ha p.1.hops.length hc] 49)) (.cells #[.bool p.1.thing, .int .i64 p.1.to, .slice ha p.1.hops.length hc] 51)
        simpa using this
      obtain ⟨W5, hW5⟩ : ∃ W5, W5 = (wr.alloc (.cells #[.bool p.1.thing, .int .i64 p.1.to, .int .i64 p.1.kind, .int .i64 p.1.cost, .int .i64 p.1.far, .slice ha p.1.hops.length hc] 49)).alloc (.cells #[.bool p.1.thing, .int .i64 p.1.to, .slice ha p.1.hops.length hc] 51) := ⟨_, rfl⟩
      rw [← hW5] at bb hbx ⊢
      clear hW5
      have b5s := bb.size
      have hlx := lt_of_heap hbx
      have HT5 := hide ((HT.out.lm.below bb (Nat.le_refl _)).wide b5s)
      refine (HK.out W5).mono ?_
      rintro e w6 ⟨rfl, b6⟩
      have b6s := b6.size
      have HT6 := hide ((HT5.out.below b6 (Nat.le_refl _)).wide b6s)
      have hbx6 := (b6.block _ hlx).trans hbx
      have HTN := hide (HT.out.lns)
      go_wp2_with fail
      refine (leads_any w.heap.size w.heap.size (es.map ent9) p.1.thing p.1.to w6 HT6.out).mono ?_
      rintro e w7 ⟨rfl, b7⟩
      have b7s := b7.size
      have HT7 := hide ((HT6.out.below b7 (Nat.le_refl _)).wide b7s)
      have hbx7 := (b7.block _ (by omega)).trans hbx6
      have bw7 : Below wr.heap.size wr w7 := bb.trans ((b6.trans (b7.mono b6s)).mono b5s)
      have bww7 : Below w.heap.size w w7 := hnx.trans (bw7.mono hsz)
      have HT9 := hide (show TmAt w7 w.heap.size w.heap.size ps k es from ⟨HT7.out, HT.out.tab, HT.out.asc, HT.out.lt, HT.out.src, HT.out.len⟩)
      rcases idxZ_or (lnsOf (es.map ent9)) p.1.thing p.1.to with hi | hi
      · rw [decide_eq_false (show ¬ 0 ≤ idxZ (lnsOf (es.map ent9)) p.1.thing p.1.to by omega)]
        have y0 := cells_at hbx7 0
        have y1 := cells_at hbx7 1
        have y2 := cells_at hbx7 2
        simp at y0 y1 y2
        have HPT := hide (put_any w.heap.size w.heap.size (es.map ent9) (lnR p.1) (.slice ha p.1.hops.length hc) (k : Int) w7 HT7.out hi)
        unfold lnC at HPT
        rw [HLN.out] at HPT
        simp only [] at HPT
        have HI := hide hi
        clear hi hbx hbx6 hbx7 b6 b7 bb HT5 HT6 HT HT7 HK
        go_wp2_with fail
        refine HPT.out.mono ?_
        rintro e w8 ⟨rfl, v8, hl8, hg8⟩
        have HT8 := hide (HT9.out.push HP.out HPE.out (by rw [← HTN.out]; exact HI.out) hl8)
        have hb8 : Below w.heap.size w w8 := bww7.grown hg8 bww7.size (fun j hj => by simp at hj; omega)
        clear hl8 hg8 HPT
        go_wp2
        go_roundw
        case rel => exact ⟨k + 1, _, by omega, by go_num, HT8, hb8⟩
        case measure => simp [intOf]; omega
      · rw [decide_eq_true hi]
        have HT8 := hide (HT9.out.pass HP.out (by rw [← HTN.out]; exact hi))
        clear hi hbx hbx6 hbx7 b6 b7 bb HT5 HT6 HT HT7 HK
        go_wp2
        go_roundw
        case rel => exact ⟨k + 1, es, by omega, by go_num, HT8, bww7⟩
        case measure => simp [intOf]; omega
    · have hkn : k = ps.length := by omega
      have KN := hide hkn
      clear hkn
      have HLI := hide (list_any w.heap.size w.heap.size es lo wr HT.out.lm (by have := HT.out.len; omega) (fun x hx => by
        obtain ⟨p, hp, h1, h2⟩ := HT.out.src x hx
        rw [h1, h2]
        exact owns_below (HV.out.nears p hp).1 hnx (by omega)) (fun x hx => by
        obtain ⟨p, hp, h1, h2⟩ := HT.out.src x hx
        rw [h2]
        have := totQ_mem hp
        omega) HT.out.asc)
      go_wp2_with fail
      refine HLI.out.mono ?_
      rintro e w2 ⟨u, qs, rfl, hq, ho, b2⟩
      have HQ := hide hq
      have HO := hide ho
      clear hq ho
      go_wp2
      go_ret
      refine ⟨u, qs, rfl, ?_, HO.out.wide hsz (Nat.le_refl _), hnx.trans (b2.mono hsz)⟩
      rw [HQ.out, HT.out.tab, KN.out, List.take_length]
end Go.Proofs.Ytnpafmjfhglbhaa
namespace Go.Proofs.Ytnpafmjfhglbhaa
open Go.RowKit

set_option linter.unusedSimpArgs false

set_option maxRecDepth 100000 in
set_option maxHeartbeats 2000000 in
theorem l11At_any (v : Value) (ps : List JP) (x : LnD) (u : Value) (w : World) (hv : LnsAt w v ps w.heap.size) (hn : ps.length ≤ 1048576) :
    Calls Try.prog 25 #[v, .agg (lnC x u)] w fun e w' => e = .returned (.int .i64 (idxZ (fstsJ ps) x.thing x.to)) ∧ Below w.heap.size w w' := by
  obtain ⟨a, cap, rfl⟩ := hv.shape
  obtain ⟨R, hR⟩ : ∃ R, R = idxZ (fstsJ ps) x.thing x.to := ⟨_, rfl⟩
  rw [← hR]
  have HR := hide hR
  have HV := hide hv
  clear hR hv
  unfold lnC
  go_enter Try.func25, Try.ntmps25
  go_wp2
  have bw := (Below.refl w.heap.size w).alloc (Nat.le_refl _) (.cells #[.bool x.thing, .int .i64 x.to, u] 51)
  have hb0 := heap_alloc_new w (.cells #[.bool x.thing, .int .i64 x.to, u] 51)
  generalize w.alloc (.cells #[.bool x.thing, .int .i64 x.to, u] 51) = W0 at *
  have l0 := lt_of_heap hb0
  have HB0 := hide hb0
  clear hb0
  go_loopw [5] (fun i wr => ∃ k : Nat, k ≤ ps.length ∧ i = .int .i64 k ∧ Hid (∀ y ∈ (fstsJ ps).take k, isLn x.thing x.to y = false) ∧ Below W0.heap.size W0 wr) (fun i _ => ps.length - (intOf i).toNat)
  case atStart => exact ⟨0, by omega, rfl, hide (by simp), Below.refl _ _⟩
  case round =>
    obtain ⟨k, hk, rfl, HNO, hnx⟩ := hrel
    have bwr : Below w.heap.size w wr := bw.trans (hnx.mono bw.size)
    by_cases hlt : k < ps.length
    · obtain ⟨p, hp⟩ : ∃ p, ps[k]? = some p := ⟨ps[k], List.getElem?_eq_getElem hlt⟩
      obtain ⟨b, off, cp, hve, hbb, c0, c1, c2, _⟩ := HV.out.cells k p hp
      cases hve
      rw [← bwr.cell (p := ⟨b, off + k * 3, none⟩) hbb] at c0
      rw [← bwr.cell (p := ⟨b, off + k * 3 + 1, none⟩) hbb] at c1
      have hx := (hnx.block _ l0).trans HB0.out
      have x0 := cells_at hx 0
      have x1 := cells_at hx 1
      simp at x0 x1
      have hki : (0 : Int) ≤ (k : Int) := by omega
      have hkj : (k : Int) < (ps.length : Int) := by omega
      have hfk := fstsJ_at hp
      have HNX := hide (fun (e : isLn x.thing x.to p.1 = false) => take_noJ hfk HNO.out e)
      have HHIT := hide (fun (e : isLn x.thing x.to p.1 = true) => HR.out.trans (idxZ_hit hfk e HNO.out))
      have HIS := hide (show isLn x.thing x.to p.1 = (p.1.thing == x.thing && p.1.to == x.to) from rfl)
      clear hp hx hfk c2
      obtain ⟨p0, hp0⟩ : ∃ b, p.1.thing = b := ⟨_, rfl⟩
      obtain ⟨q0, hq0⟩ : ∃ b, x.thing = b := ⟨_, rfl⟩
      obtain ⟨p1, hp1⟩ : ∃ b, p.1.to = b := ⟨_, rfl⟩
      obtain ⟨q1, hq1⟩ : ∃ b, x.to = b := ⟨_, rfl⟩
      rw [hp0] at c0
      rw [hp1] at c1
      rw [hq0] at x0
      rw [hq1] at x1
      have HIS2 := HIS.out
      rw [hp0, hp1] at HIS2
      obtain ⟨T, hT⟩ : ∃ b, (p0 == x.thing) = b := ⟨_, rfl⟩
      have hT2 : (p0 == q0) = T := by rw [← hq0]; exact hT
      cases T
      · have HN := hide (HNX.out (by rw [HIS2, hT]; rfl))
        clear HIS2 hT HIS hp0 hq0 hp1 hq1
        go_wp2
        go_quiet (fail)
        go_wp2
        go_roundw
        case rel => exact ⟨k + 1, by omega, by go_num, HN, below_drewN hnx _⟩
        case measure => simp [intOf]; omega
      · by_cases h1 : p1 = q1
        · have hd : (p1 == q1) = true := by simpa using h1
          have he := HHIT.out (by rw [HIS2, hT, hq1, hd]; rfl)
          subst he
          clear HIS2 hT HIS hp0 hq0 hp1 hq1 h1
          go_wp2
          go_quiet (fail)
          go_wp2
          go_ret
          exact ⟨rfl, below_drewN bwr _⟩
        · have hd : (p1 == q1) = false := by simpa using h1
          have HN := hide (HNX.out (by rw [HIS2, hT, hq1, hd]; rfl))
          clear HIS2 hT HIS hp0 hq0 hp1 hq1 h1
          go_wp2
          go_quiet (fail)
          go_wp2
          go_roundw
          case rel => exact ⟨k + 1, by omega, by go_num, HN, below_drewN hnx _⟩
          case measure => simp [intOf]; omega
    · have hkn : k = ps.length := by omega
      have he : R = -1 := HR.out.trans (idxZ_none (fun y hy => by
        have := HNO.out
        rw [hkn, List.take_of_length_le (by simp [fstsJ])] at this
        exact this y hy))
      subst he
      clear hkn
      go_wp2
      go_ret
      exact ⟨rfl, bwr⟩
end Go.Proofs.Ytnpafmjfhglbhaa
namespace Go.Proofs.Ytnpafmjfhglbhaa
open Go.RowKit

set_option linter.unusedSimpArgs false

set_option maxRecDepth 100000 in
set_option maxHeartbeats 4000000 in
theorem stable_any (v : Value) (ps : List QP) (lo hi : Nat) (w : World) (hv : RtsOwn w lo hi v ps) (hhi : hi ≤ w.heap.size) (hn : totQ ps ≤ 1048576) :
    Calls Try.prog 6 #[v] w fun e w' => ∃ u qs, e = .returned u ∧ fstsJ qs = tabD (ps.map (fun p => lnR p.1)) ∧ LnsOwn w' w.heap.size w'.heap.size u qs ∧ Below w.heap.size w w' := by
  have hnl := totQ_len ps
  obtain ⟨a1, c1, rfl⟩ := owns_lenS hv.row
  have HV := hide hv
  clear hv
  go_enter Try.func6, Try.ntmps6
  go_wp2
  have b3 := (Below.refl w.heap.size w).alloc (Nat.le_refl _) (.cells #[] 51)
  have o3 : LnsOwn (w.alloc (.cells #[] 51)) w.heap.size (w.alloc (.cells #[] 51)).heap.size (.slice (some ⟨w.heap.size, 0, none⟩) 0 0) [] := by
    have h1 : (w.alloc (.cells #[] 51)).ownsRow w.heap.size 51 3 (.slice (some ⟨w.heap.size, 0, none⟩) 0 0) 0 (flat encJ []) := World.ownsRow_lit w #[] 0 (Nat.le_refl _) (by unfold maxLen; omega) (by simp)
    exact ⟨h1, fun k hk => (h1.lt k hk).2, by simp, by simp⟩
  generalize w.alloc (.cells #[] 51) = W3 at *
  have B3 := hide b3
  have O3 := hide o3
  clear b3 o3
  go_loopw [3, 4] (fun s i wr => ∃ (k : Nat) (ys : List JP) (ya : Option Addr) (yc : Nat), k ≤ ps.length ∧ i = .int .i64 (k : Int) ∧ s = .slice ya ys.length yc ∧ Hid (fstsJ ys = tabD ((ps.take k).map (fun p => lnR p.1))) ∧ ys.length ≤ k ∧ Hid (LnsOwn wr w.heap.size wr.heap.size (.slice ya ys.length yc) ys) ∧ Below w.heap.size w wr) (fun _ i _ => ps.length - (intOf i).toNat)
  case atStart => exact ⟨0, [], _, 0, by omega, rfl, rfl, hide (by simp [fstsJ, tabD]), by simp, O3, B3.out⟩
  case round =>
    obtain ⟨k, ys, ya, yc, hk, rfl, rfl, HYS, hyl, HYO, hnx⟩ := hrel
    have hsz := hnx.size
    by_cases hlt : k < ps.length
    · obtain ⟨p, hp⟩ : ∃ p, ps[k]? = some p := ⟨ps[k], List.getElem?_eq_getElem hlt⟩
      obtain ⟨b, off, cp, hve, hbb, d0, d1, d2, d3, d4, d5, hh⟩ := HV.out.at.cells k p hp
      cases hve
      have hbw : b < w.heap.size := by omega
      have hno := (HV.out.nears p (List.mem_of_getElem? hp)).1
      obtain ⟨ha, hc, hpe⟩ := owns_lenS hno
      rw [hpe] at d5 hno
      rw [← hnx.cell (p := ⟨b, off + k * 6, none⟩) hbw] at d0
      rw [← hnx.cell (p := ⟨b, off + k * 6 + 1, none⟩) hbw] at d1
      rw [← hnx.cell (p := ⟨b, off + k * 6 + 5, none⟩) hbw] at d5
      have hki : (0 : Int) ≤ (k : Int) := by omega
      have hkj : (k : Int) < (ps.length : Int) := by omega
      have hpl : p.1.hops.length ≤ 1048576 := by have := totQ_mem (List.mem_of_getElem? hp); omega
      have HMP := hide (map_lnR hp)
      have HC := hide (fun W (hb : Below w.heap.size w W) => copyL_any (lnR p.1) (.slice ha p.1.hops.length hc) lo W (owns_below hno hb (Nat.le_refl _)) hpl)
      have HAT := hide (fun W (hb : Below wr.heap.size wr W) => l11At_any (.slice ya ys.length yc) ys (lnR p.1) (.slice ha p.1.hops.length hc) W ((HYO.out.at.later hb (Nat.le_refl _)).more hb.size) (by omega))
      rw [HYS.out] at HAT
      have HLN := hide (show lnR p.1 = ⟨p.1.thing, p.1.to, p.1.hops⟩ from rfl)
      unfold lnC at HC HAT
      have HI := hide (idxZ_or (tabD ((ps.take k).map (fun p => lnR p.1))) (lnR p.1).thing (lnR p.1).to)
      obtain ⟨I, hI⟩ : ∃ I, I = idxZ (tabD ((ps.take k).map (fun p => lnR p.1))) (lnR p.1).thing (lnR p.1).to := ⟨_, rfl⟩
      rw [← hI] at HAT HI
      have HII := hide hI
      rw [HLN.out] at HAT HC
      simp only [] at HAT HC
      clear hp hpe hh hno d2 d3 d4 hI
      have hbr : b < wr.heap.size := by omega
      go_wp2
      go_region
      have bb : Below wr.heap.size wr (wr.alloc (.cells #[.bool p.1.thing, .int .i64 p.1.to, .slice ha p.1.hops.length hc] 51)).drew := ((Below.refl wr.heap.size wr).alloc (Nat.le_refl _) (.cells #[.bool p.1.thing, .int .i64 p.1.to, .slice ha p.1.hops.length hc] 51)).drew
      have hbx : (wr.alloc (.cells #[.bool p.1.thing, .int .i64 p.1.to, .slice ha p.1.hops.length hc] 51)).drew.heap[wr.heap.size]? = some (.cells #[.bool p.1.thing, .int .i64 p.1.to, .slice ha p.1.hops.length hc] 51) := heap_alloc_new wr (.cells #[.bool p.1.thing, .int .i64 p.1.to, .slice ha p.1.hops.length hc] 51)
      obtain ⟨W5, hW5⟩ : ∃ W5, W5 = (wr.alloc (.cells #[.bool p.1.thing, .int .i64 p.1.to, .slice ha p.1.hops.length hc] 51)).drew := ⟨_, rfl⟩
      rw [← hW5] at bb hbx ⊢
      clear hW5 d0 d1 d5
      have b5s := bb.size
      have hlx := lt_of_heap hbx
      have x0 := cells_at hbx 0
      have x1 := cells_at hbx 1
      have x2 := cells_at hbx 2
      simp at x0 x1 x2
      have HBX := hide hbx
      clear hbx
      go_wp2_with fail
      refine (HAT.out W5 bb).mono ?_
      rintro e w6 ⟨rfl, b6⟩
      have b6s := b6.size
      have b56 : Below wr.heap.size wr w6 := bb.trans (b6.mono b5s)
      have bw6 : Below w.heap.size w w6 := hnx.trans (b56.mono hsz)
      rcases HI.out with hi | hi
      · subst hi
        have hbx6 := (b6.block _ hlx).trans HBX.out
        have y0 := cells_at hbx6 0
        have y1 := cells_at hbx6 1
        have y2 := cells_at hbx6 2
        simp at y0 y1 y2
        clear x0 x1 x2 hbx6 HBX
        go_wp2_with fail
        refine (HC.out w6 bw6).mono ?_
        rintro e w7 ⟨v7, rfl, hn7, b7⟩
        obtain ⟨n7a, n7c, rfl⟩ := owns_lenS hn7
        have b7s := b7.size
        have b57 : Below wr.heap.size wr w7 := b56.trans (b7.mono (by omega))
        go_wp2_with (first
          | (at_builtin; refine append_struct5 encJ_len (by omega) (by omega) _ rfl _ _ 24 rfl w.heap.size 51 Try.underlying24 (.agg (lnC zeroJD (.slice none 0 0))) rfl Try.infoLine _ ys (lnR p.1, .slice n7a p.1.hops.length n7c) (encJ_one _ _ _ _) rfl ((owns_below HYO.out.row b57 (Nat.le_refl _)).alloc _) ⟨w7.heap.size, 0, none⟩ 1 rfl (news_struct (cs := encJ (lnR p.1, .slice n7a p.1.hops.length n7c))) (by omega) (by simp; omega) ?_))
        intro v' w8 hown' hgrow
        have ow8 := HYO.out.push (p := (lnR p.1, .slice n7a p.1.hops.length n7c)) (b57.alloc b57.size _) (by omega) (LHopOwn.wide (LHopOwn.keep ⟨owns_baseS hn7 (by omega), fun k hk => (hn7.lt k hk).2⟩ (fun j _ _ h3 => Below.heap_alloc _ _ _ h3)) (Nat.le_refl _) (by simp)) (by simpa using hown') hgrow
        have hl8 : (ys ++ [(lnR p.1, Value.slice n7a p.1.hops.length n7c)]).length = ys.length + 1 := by simp
        have hb8 : Below w.heap.size w w8 := ((hnx.trans (b57.mono hsz)).alloc (by omega) _).grown hgrow (by simp; omega) (fun k hk => (HYO.out.row.lt k hk).1)
        obtain ⟨va, vc, hve⟩ := owns_lenS ow8.row
        rw [hl8] at hve
        subst hve
        have OW8 := hide (show LnsOwn w8 w.heap.size w8.heap.size (.slice va (ys ++ [(lnR p.1, Value.slice n7a p.1.hops.length n7c)]).length vc) (ys ++ [(lnR p.1, Value.slice n7a p.1.hops.length n7c)]) by rw [hl8]; exact ow8)
        have HY8 := hide (show fstsJ (ys ++ [(lnR p.1, Value.slice n7a p.1.hops.length n7c)]) = tabD ((ps.take (k + 1)).map (fun p => lnR p.1)) by rw [HMP.out, tabS_yes HII.out.symm, ← HYS.out]; simp [fstsJ])
        have HRF := hide (show Value.slice va (ys.length + 1) vc = .slice va (ys ++ [(lnR p.1, Value.slice n7a p.1.hops.length n7c)]).length vc by rw [hl8])
        clear ow8 hown' hgrow hn7 HYO HYS HMP HC HAT hl8
        go_wp2
        go_roundw
        case rel => exact ⟨k + 1, ys ++ [(lnR p.1, .slice n7a p.1.hops.length n7c)], va, vc, by omega, by go_num, HRF.out, HY8, by simp; omega, OW8, hb8⟩
        case measure => simp [intOf]; omega
      · have HY8 := hide (show fstsJ ys = tabD ((ps.take (k + 1)).map (fun p => lnR p.1)) by rw [HMP.out, tabS_no (by rw [← HII.out]; exact hi)]; exact HYS.out)
        have OW8 := hide ((HYO.out.below b56 (Nat.le_refl _)).wide (Nat.le_refl _) b56.size)
        clear x0 x1 x2 HBX
        go_wp2
        go_roundw
        case rel => exact ⟨k + 1, ys, ya, yc, by omega, by go_num, rfl, HY8, by omega, OW8, bw6⟩
        case measure => simp [intOf]; omega
    · have hkn : k = ps.length := by omega
      have KN := hide hkn
      clear hkn
      go_wp2
      go_ret
      refine ⟨_, ys, rfl, ?_, HYO.out, hnx⟩
      have h1 := HYS.out
      rw [KN.out, List.take_length] at h1
      exact h1
end Go.Proofs.Ytnpafmjfhglbhaa
