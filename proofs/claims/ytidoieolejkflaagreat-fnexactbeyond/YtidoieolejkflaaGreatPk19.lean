/-
  Lists of numbers of the caller's own; laws.toIntS, eqIntS, markIntS, heldIntS over them.
  spec.RoutesWithin: its contract.
  spec.RoutesWithin: its walk.
  What slices.Insert needs: copy of a row of structs, append at two types, the lists of cells.
  What slices.Insert needs at ways: the lists of cells.
-/
import Derived.Test.YtidoieolejkflaaGreatPk12
import Derived.Test.YtidoieolejkflaaGreatPk15
import Derived.Test.YtidoieolejkflaaGreatPk16
import Derived.Test.YtidoieolejkflaaGreatPk18
import Derived.Test.YtidoieolejkflaaGreatPk4
import Derived.Shelf.Spec.SlicesInsertGrow
namespace Go.Proofs.YtidoieolejkflaaGreat
open Go.RowKit

/-- a row of numbers of the caller's own, in blocks of lo .. hi -/
structure IntsOwn (W : World) (lo hi : Nat) (v : Value) (l : List Int) : Prop where
  row : W.ownsRow lo 3 1 v l.length (flat intE l)
  top : ∀ k, v.ownBlock = some k → k < hi

theorem IntsOwn.keep {W W' : World} {lo hi : Nat} {v : Value} {l : List Int} (h : IntsOwn W lo hi v l) (hk : ∀ k, lo ≤ k → k < hi → k < W.heap.size → W'.heap[k]? = W.heap[k]?) : IntsOwn W' lo hi v l :=
  ⟨owns_keepB h.row (fun k e => hk k (h.row.lt k e).1 (h.top k e) (h.row.lt k e).2), h.top⟩

theorem IntsOwn.below {W W' : World} {lo hi B : Nat} {v : Value} {l : List Int} (h : IntsOwn W lo hi v l) (hb : Below B W W') (hB : hi ≤ B) : IntsOwn W' lo hi v l := h.keep (fun k _ h2 _ => hb.block k (by omega))

theorem IntsOwn.frame {W W' : World} {lo hi l2 h2 : Nat} {v : Value} {l : List Int} (h : IntsOwn W lo hi v l) (hb : Frame l2 h2 W W') (hB : hi ≤ l2 ∨ h2 ≤ lo) : IntsOwn W' lo hi v l := h.keep (fun k h1 h2 h3 => hb.block k h3 (by omega))

theorem IntsOwn.wide {W : World} {lo hi lo' hi' : Nat} {v : Value} {l : List Int} (h : IntsOwn W lo hi v l) (hl : lo' ≤ lo) (hh : hi ≤ hi') : IntsOwn W lo' hi' v l := ⟨owns_baseS h.row hl, fun k e => Nat.lt_of_lt_of_le (h.top k e) hh⟩

theorem IntsOwn.at {W : World} {lo hi : Nat} {v : Value} {l : List Int} (h : IntsOwn W lo hi v l) : HopsAt W v l hi := by
  obtain ⟨a, cap, hv, h2⟩ := owns_rowAt h.row
  refine ⟨a, cap, hv, ?_⟩
  rcases h2 with h0 | ⟨b, off, ha, hb1, hx⟩
  · exact .inl h0
  · exact .inr ⟨b, off, ha, h.top b (by rw [hv, ha]; rfl), hx⟩

theorem IntsOwn.of {W : World} {lo : Nat} {v : Value} {l : List Int} (h : W.ownsRow lo 3 1 v l.length (flat intE l)) : IntsOwn W lo W.heap.size v l := ⟨h, fun k e => (h.lt k e).2⟩

theorem toInts_own (v : Value) (l : List Int) (w W : World) (h0 : HopsAt w v l w.heap.size) (hb : Below w.heap.size w W) (hn : l.length ≤ 1048576) :
    Calls Tryz.prog 28 #[v] W fun e w' => ∃ x, e = .returned x ∧ IntsOwn w' W.heap.size w'.heap.size x l ∧ Below W.heap.size W w' := by
  refine (toIntS_any v l W hn (h0.then hb)).mono ?_
  rintro e w' ⟨x, rfl, ho, hb2⟩
  exact ⟨x, rfl, IntsOwn.of ho, hb2⟩

theorem eqInts_own (v1 v2 : Value) (l : List Int) (l1 h1 l2 h2 : Nat) (w : World) (k1 : IntsOwn w l1 h1 v1 l) (k2 : IntsOwn w l2 h2 v2 l) (hn : l.length ≤ 1048576) (g1 : h1 ≤ w.heap.size) (g2 : h2 ≤ w.heap.size) :
    Calls Tryz.prog 31 #[v1, v2] w fun e w' => e = .returned (.bool true) ∧ Below w.heap.size w w' := by
  have h := eqI_any v1 v2 l l w (HopsAt.ints (RowAt.more k1.at g1)) (HopsAt.ints (RowAt.more k2.at g2)) hn
  rw [decide_eq_true rfl] at h
  exact h

theorem markInts_own (v : Value) (l : List Int) (lo hi : Nat) (q : Int) (w : World) (h : IntsOwn w lo hi v l) (hn : l.length ≤ 1048576) (hq : 0 ≤ q) (hq2 : q ≤ 1000000000) :
    Calls Tryz.prog 33 #[v, .int .i64 q] w fun e w' => e = .returned (.int .i64 (q + (l.length : Int))) ∧ IntsOwn w' lo hi v (marksI q l.length) ∧ Frame lo hi w w' := by
  refine (markG_any v lo l q w h.row hn hq hq2).mono ?_
  rintro e w' ⟨rfl, ho, hg⟩
  exact ⟨rfl, ⟨by rw [marksI_length]; exact ho, h.top⟩, Frame.grown hg (fun k hk => ⟨(h.row.lt k hk).1, h.top k hk⟩)⟩

theorem heldInts_own (v : Value) (n lo hi : Nat) (q : Int) (w : World) (h : IntsOwn w lo hi v (marksI q n)) (hn : n ≤ 1048576) (hq : 0 ≤ q) (hq2 : q ≤ 1000000000) (g : hi ≤ w.heap.size) :
    Calls Tryz.prog 81 #[v, .int .i64 q] w fun e w' => e = .returned (.int .i64 (q + (n : Int))) ∧ w = w' :=
  heldG_any v n q w (RowAt.more h.at g) hn hq hq2
end Go.Proofs.YtidoieolejkflaaGreat
namespace Go.Proofs.YtidoieolejkflaaGreat
open Go.RowKit

set_option linter.unusedSimpArgs false

theorem WLs.keep {W W' : World} {lo hi : Nat} {u : Value} {ls : List LP} (h : WLs W lo hi u ls) (hk : ∀ k, lo ≤ k → k < hi → k < W.heap.size → W'.heap[k]? = W.heap[k]?) : WLs W' lo hi u ls :=
  ⟨owns_keepB h.row (fun k e => hk k (h.row.lt k e).1 (h.top k e) (h.row.lt k e).2), h.top, fun p hp => (h.ways p hp).keep hk⟩

/-- the lists of ways of a list of areas -/
def AreaWays (xs : List RecD) (src : Int) (al : List Int) (ls : List LP) : Prop := ls.map (fun p => fstsW p.2) = al.map (fun a => waysD xs a src)

theorem AreaWays.at {xs : List RecD} {src : Int} {al : List Int} {ls : List LP} (h : AreaWays xs src al ls) {k : Nat} {a : Int} (ha : al[k]? = some a) : ∃ p, ls[k]? = some p ∧ fstsW p.2 = waysD xs a src := by
  have h1 := congrArg (fun l => l[k]?) h
  simp only [List.getElem?_map, ha, Option.map_some] at h1
  cases e : ls[k]? with
  | none => rw [e] at h1; cases h1
  | some p => rw [e] at h1; exact ⟨p, rfl, by simpa using h1⟩

theorem AreaWays.len {xs : List RecD} {src : Int} {al : List Int} {ls : List LP} (h : AreaWays xs src al ls) : ls.length = al.length := by
  have := congrArg List.length h
  simpa using this

theorem AreaWays.push {xs : List RecD} {src : Int} {al : List Int} {ls : List LP} {k : Nat} {a : Int} {p : LP} (h : AreaWays xs src (al.take k) ls) (ha : al[k]? = some a) (hp : fstsW p.2 = waysD xs a src) : AreaWays xs src (al.take (k + 1)) (ls ++ [p]) := by
  obtain ⟨hk, e⟩ := List.getElem?_eq_some_iff.1 ha
  unfold AreaWays
  rw [List.take_succ_eq_append_getElem hk, e, List.map_append, List.map_append, h]
  simp [hp]

theorem ways_tot {xs : List RecD} {a src : Int} {ps : List WP} (h : fstsW ps = waysD xs a src) : totW ps ≤ 42 := by
  have hw := waysD_asc xs a src
  refine good_tot ?_ (fun d hd => (hw.2 d (by rw [← h]; exact hd)).1.len)
  have := asc_tos hw.1 (fun d hd => (hw.2 d hd).1.node)
  rw [← h] at this
  simpa [fstsW] using this

theorem wls_lit (W : World) (lo : Nat) (hb : lo ≤ W.heap.size) : WLs (W.alloc (.cells #[] 39)) lo (W.alloc (.cells #[] 39)).heap.size (.slice (some ⟨W.heap.size, 0, none⟩) 0 0) [] := by
  have h : (W.alloc (.cells #[] 39)).ownsRow lo 39 1 (.slice (some ⟨W.heap.size, 0, none⟩) 0 0) 0 (flat encLP []) := World.ownsRow_lit W #[] 0 hb (by unfold maxLen; omega) (by simp)
  exact ⟨h, fun k hk => (h.lt k hk).2, by simp⟩

theorem Tryz.infoWayS : (Tryz.prog.info? 39).map (fun i => (i.zero, i.size, i.bytes)) = some (some (.slice none 0 0), 1, 24) := by kernel_rfl

theorem best_if {t : Int} {S : WayD → Prop} {b : WayD} {F : Bool} (h : BestOf t S (if F then some b else none)) (hF : F = true) : BestOf t S (some b) := by rw [hF] at h; exact h

/-- the box of the best way -/
structure BoxSt (V W : World) (z : Nat) (b : WayD) (bv : Value) : Prop where
  box : W.heap[z]? = some (.cells (wayC b bv) 46)
  own : W.ownsRow z 3 1 bv b.hops.length (flat intE b.hops)
  bel : Below z V W
  len : b.hops.length ≤ 6

theorem BoxSt.below {V W W' : World} {z : Nat} {b : WayD} {bv : Value} (h : BoxSt V W z b bv) (hb : Below W.heap.size W W') : BoxSt V W' z b bv :=
  ⟨(hb.block _ (lt_of_heap h.box)).trans h.box, owns_below h.own hb (Nat.le_refl _), h.bel.trans (hb.mono (by have := lt_of_heap h.box; omega)), h.len⟩

/-- another way in the box -/
theorem BoxSt.put {V W : World} {z : Nat} {b : WayD} {bv : Value} (h : BoxSt V W z b bv) (hz : V.heap.size = z) {d : WayD} {u : Value} (hu : W.ownsRow (z + 1) 3 1 u d.hops.length (flat intE d.hops)) (hl : d.hops.length ≤ 6) : BoxSt V (putW3 W z d u) z d u := by
  have hb := h.box
  unfold wayC at hb
  have hg := grownW3 W z d u
  refine ⟨finW3 d u hb, ?_, h.bel.grown hg (by have := h.bel.size; omega) (fun k hk => by simp at hk; omega), hl⟩
  refine owns_baseS (hu.kept hg ?_) (by omega)
  cases hv : u.ownBlock with
  | none => exact .inl rfl
  | some g => exact .inr (fun e => by have := (hu.lt g hv).1; simp at e; omega)

theorem BoxSt.other {V W W' : World} {z g : Nat} {b : WayD} {bv : Value} {cs : Array Value} {fr : Nat × Nat} (h : BoxSt V W z b bv) (hg : W.grownBy W' (some g)) (hgz : z < g) (hbox : W.heap[g]? = some (.cells cs 46 fr)) (hz : V.heap.size = z) : BoxSt V W' z b bv :=
  ⟨(hg.block z (lt_of_heap h.box) (by simp; omega)).trans h.box, owns_keepB h.own (fun j hj => hg.block j (h.own.lt j hj).2 (fun e => own_type_ne2 h.own hbox (by decide) (by rw [hj]; exact e.symm))), h.bel.grown hg (by have := h.bel.size; omega) (fun k hk => by simp at hk; omega), h.len⟩

theorem owns_other {W W' : World} {lo g : Nat} {u : Value} {l : List Int} (h : W.ownsRow lo 3 1 u l.length (flat intE l)) (hg : W.grownBy W' (some g)) (hlt : g < lo) : W'.ownsRow lo 3 1 u l.length (flat intE l) :=
  owns_keepB h (fun j hj => hg.block j (h.lt j hj).2 (fun e => by have := (h.lt j hj).1; simp at e; omega))
end Go.Proofs.YtidoieolejkflaaGreat
namespace Go.Proofs.YtidoieolejkflaaGreat
open Go.RowKit

set_option linter.unusedSimpArgs false

set_option maxRecDepth 100000 in
set_option maxHeartbeats 8000000 in
theorem swithin_any (v u : Value) (ps : List RP) (al : List Int) (hi : Nat) (src : Int) (w : World) (hv : RecsIn w hi v ps) (ha : HopsAt w u al hi) (hhi : hi ≤ w.heap.size) (hn : tot ps ≤ 1048576) (hal : al.length ≤ 1048576) :
    Calls Tryz.prog 26 #[v, u, .int .i64 src] w fun e w' => ∃ x qs, e = .returned x ∧ IsBest (withinS (fsts ps) al src) (fstsW qs) ∧ WaysOwn w' w.heap.size w'.heap.size x qs ∧ Below w.heap.size w w' := by
  obtain ⟨a1, c1, rfl⟩ := owns_lenS hv.row
  obtain ⟨a2, c2, rfl⟩ := ha.shape
  have LIT := ways_lit w w.heap.size (Nat.le_refl _)
  have hs1 : (w.alloc (.cells #[] 46)).heap.size = w.heap.size + 1 := by simp
  have B1 : Below w.heap.size w (w.alloc (.cells #[] 46)) := (Below.refl _ _).alloc (Nat.le_refl _) _
  obtain ⟨w1, hw1⟩ : ∃ W, W = w.alloc (.cells #[] 46) := ⟨_, rfl⟩
  rw [← hw1] at LIT hs1 B1
  have LS := wls_lit w1 w1.heap.size (Nat.le_refl _)
  have B0 : Below w1.heap.size w1 (w1.alloc (.cells #[] 39)) := (Below.refl _ _).alloc (Nat.le_refl _) _
  obtain ⟨w0, hw0⟩ : ∃ W, W = w1.alloc (.cells #[] 39) := ⟨_, rfl⟩
  rw [← hw0] at LS B0
  have HWI := hide (fun area W (hb : Below w.heap.size w W) => swaysIn_any (.slice a1 ps.length c1) ps hi area src W (hv.below hb hhi) (Nat.le_trans hhi hb.size) hn)
  have HA := hide ha
  clear hv ha
  have HLIT := hide LIT
  have HLS := hide LS
  clear LIT LS
  have HS1 := hide hs1
  clear hs1
  go_enter Tryz.func26, Tryz.ntmps26
  go_wp2
  rw [← hw1, ← hw0, show w.heap.size + 1 = w1.heap.size from HS1.out.symm]
  clear hw1 hw0
  go_loopw [9, 8] (fun i o wr => ∃ (k : Nat) (y : Value) (ls : List LP), k ≤ al.length ∧ i = .int .i64 (k : Int) ∧ o = y ∧ WLs wr w1.heap.size wr.heap.size y ls ∧ Hid (AreaWays (fsts ps) src (al.take k) ls) ∧ Below w1.heap.size w1 wr) (fun i _ _ => al.length - (intOf i).toNat)
  case atStart => exact ⟨0, _, [], by omega, rfl, rfl, HLS.out, hide (by simp [AreaWays]), B0⟩
  case round =>
    obtain ⟨k, y, ls, hk, rfl, rfl, hls, HAW, hnx⟩ := hrel
    clear HLS B0
    obtain ⟨ya, yc, rfl⟩ := owns_lenS hls.row
    have hlen : ls.length = k := by have := HAW.out.len; rw [List.length_take, Nat.min_eq_left hk] at this; exact this
    have BW : Below w.heap.size w wr := B1.trans (hnx.mono B1.size)
    have hws := BW.size
    by_cases hlt : k < al.length
    · obtain ⟨area, har⟩ : ∃ a, al[k]? = some a := ⟨al[k], List.getElem?_eq_getElem hlt⟩
      obtain ⟨b, off, cap', hve, hbb, c0⟩ := HA.out.cell k area har
      cases hve
      rw [← BW.cell (p := ⟨b, off + k, none⟩) (by show b < w.heap.size; omega)] at c0
      have hki : (0 : Int) ≤ (k : Int) := by omega
      have hkj : (k : Int) < (al.length : Int) := by omega
      have HLS := hide hls
      have HAR := hide har
      have HLEN := hide hlen
      clear hls har hlen
      go_wp2_with fail
      refine (HWI.out area _ BW).mono ?_
      rintro e w2 ⟨uw, ws, rfl, hws2, how, b2⟩
      obtain ⟨wsa, wsc, rfl⟩ := owns_lenS how.row
      have hb2 := b2.size
      have HWE := hide (hws2.eq)
      have BA : Below w2.heap.size w2 (w2.alloc (.cells #[.slice wsa ws.length wsc] 39)) := (Below.refl _ _).alloc (Nat.le_refl _) _
      have OWA := hide ((owns_below HLS.out.row b2 (Nat.le_refl _)).alloc (.cells #[.slice wsa ws.length wsc] 39))
      have HOW := hide how
      clear hws2 how
      go_wp2_with (first
        | (at_builtin; refine append_struct6 encLP_len (by omega) (by omega) _ rfl _ _ 114 rfl w1.heap.size 39 Tryz.underlying114 (.slice none 0 0) rfl Tryz.infoWayS _ ls (.slice wsa ws.length wsc, ws) (fun q hq => by simp [encLP] at hq; subst hq; rfl) rfl OWA.out ⟨w2.heap.size, 0, none⟩ 1 rfl (news_struct (cs := encLP (.slice wsa ws.length wsc, ws))) (by have := HLEN.out; omega) (by simp; have := hnx.size; omega) ?_))
      intro v' w4 hown' hgrow hat
      have BB : Below wr.heap.size wr (w2.alloc (.cells #[.slice wsa ws.length wsc] 39)) := b2.trans (BA.mono hb2)
      have N1 := hide (HLS.out.push BB ((HOW.out.below BA (Nat.le_refl _)).wide hnx.size BA.size) (by simpa using hown') hgrow)
      have N2 := hide (HAW.out.push (p := (.slice wsa ws.length wsc, ws)) HAR.out HWE.out)
      have N3 := hide ((hnx.trans (BB.mono hnx.size)).grown hgrow (by have := BB.size; have := hnx.size; omega) (fun j hj => (HLS.out.row.lt j hj).1))
      obtain ⟨va, vc, rfl⟩ := owns_lenS hown'
      clear hown' hgrow hat BB OWA HOW HLS BA b2
      go_wp2
      go_roundw
      case rel => exact ⟨k + 1, _, ls ++ [(.slice wsa ws.length wsc, ws)], by omega, by go_num, rfl, N1.out, N2, N3.out⟩
      case measure => simp [intOf]; omega
    · have hkn : ¬ (k : Int) < (al.length : Int) := by omega
      have HAL := hide (show AreaWays (fsts ps) src al ls by have h := HAW.out; rw [List.take_of_length_le (by omega)] at h; exact h)
      have HO := hide ((HLIT.out.below hnx (Nat.le_refl _)).wide (Nat.le_refl _) hnx.size)
      have HLS := hide hls
      rename World => wb
      have hwb := hnx.size
      clear hls HAW hlen HLIT hnx
      go_wp2
      go_loopw [10, 7] (fun i o wr => ∃ (t : Nat) (x : Value) (qs : List WP), 1 ≤ t ∧ t ≤ 7 ∧ i = .int .i64 (t : Int) ∧ o = x ∧ WaysOwn wr w.heap.size wr.heap.size x qs ∧ Hid (IsBest (fun to d => to < (t : Int) ∧ withinS (fsts ps) al src to d) (fstsW qs)) ∧ Off x w1.heap.size wb.heap.size ∧ WLs wr w1.heap.size wb.heap.size (.slice ya ls.length yc) ls ∧ Below w.heap.size w wr ∧ wb.heap.size ≤ wr.heap.size) (fun i _ _ => 8 - (intOf i).toNat)
      case atStart => exact ⟨1, _, [], by omega, by omega, rfl, rfl, HO.out, hide (isBest_none (fun to d ⟨h1, h2⟩ => by have h3 := (withinS_good h2); have := h3.1.node; rw [h3.2] at this; omega)), fun b hb => by simp [Value.ownBlock] at hb; have := HS1.out; omega, HLS.out, BW, Nat.le_refl _⟩
      case round =>
        obtain ⟨t, x, qs, ht1, ht7, rfl, rfl, hown, HB, hoff, hls, hnx, hsz⟩ := hrel
        clear HO HLS BW hws
        obtain ⟨xa, xc, rfl⟩ := owns_lenS hown.row
        rename World => wt
        by_cases ht : t ≤ 6
        · have ht6 : (t : Int) ≤ 6 := by omega
          have HOWN := hide hown
          have HLS := hide hls
          have HOFF := hide hoff
          have hq6 : qs.length ≤ 6 := by
            have h := asc_tos HB.out.1 (fun d hd => (HB.out.good (fun to d h => withinS_good h.2) d hd).node)
            simpa [fstsW] using h
          have BXZ : BoxSt wt (wt.alloc (.cells #[.int .i64 0, .int .i64 0, .slice none 0 0] 46)) wt.heap.size zeroWD (.slice none 0 0) := ⟨heap_alloc_new _ _, World.ownsRow_nil _ _ _ _, (Below.refl _ _).alloc (Nat.le_refl _) _, by simp [zeroWD]⟩
          obtain ⟨wz, hwz⟩ : ∃ W, W = wt.alloc (.cells #[.int .i64 0, .int .i64 0, .slice none 0 0] 46) := ⟨_, rfl⟩
          rw [← hwz] at BXZ
          have HBX := hide BXZ
          clear hown hls hoff BXZ
          go_wp2
          rw [← hwz]
          clear hwz
          go_loopw [13, 12] (fun i f wr => ∃ (k : Nat) (F : Bool) (b : WayD) (bv : Value), k ≤ al.length ∧ i = .int .i64 (k : Int) ∧ f = .bool F ∧ BoxSt wt wr wt.heap.size b bv ∧ Hid (BestOf (t : Int) (withinS (fsts ps) (al.take k) src (t : Int)) (if F then some b else none))) (fun i _ _ => al.length - (intOf i).toNat)
          case atStart => exact ⟨0, false, _, _, by omega, rfl, rfl, HBX.out, hide (fun d ⟨_, a, h, _⟩ => by simp at h)⟩
          case round =>
            obtain ⟨k, F, b, bv, hk, rfl, rfl, hbx, HBO⟩ := hrel
            clear HBX
            have BWR : Below w.heap.size w wr := hnx.trans (hbx.bel.mono hnx.size)
            have hzlt := lt_of_heap hbx.box
            obtain ⟨bva, bvc, rfl⟩ := owns_lenS hbx.own
            by_cases hlt : k < al.length
            · obtain ⟨area, har⟩ : ∃ a, al[k]? = some a := ⟨al[k], List.getElem?_eq_getElem hlt⟩
              obtain ⟨p, hp, hpw⟩ := HAL.out.at har
              have hls2 := HLS.out.below hbx.bel hsz
              obtain ⟨g, cap', hve, cg, hgb, hgw⟩ := hls2.cell hp
              cases hve
              have hpo := hls2.ways p (List.mem_of_getElem? hp)
              obtain ⟨pa, pc, hpn⟩ := owns_lenS hpo.row
              rw [hpn] at cg
              have hki : (0 : Int) ≤ (k : Int) := by omega
              have hkj : (k : Int) < (al.length : Int) := by omega
              have hkl : (k : Int) < (ls.length : Int) := by rw [HAL.out.len]; omega
              have HWT := swayTo_any p.1 p.2 w1.heap.size wb.heap.size (t : Int) wr hpo (by omega) (by have := ways_tot hpw; omega)
              rw [hpn] at HWT
              have HBN := hide (bestOf_area togOk_D har HBO.out)
              rw [← hpw] at HBN
              have hfd := wayTo_find (fstsW p.2) (t : Int)
              obtain ⟨D, hD⟩ : ∃ D, D = wayToD (fstsW p.2) (t : Int) := ⟨_, rfl⟩
              obtain ⟨FB, hFB⟩ : ∃ F, F = wayToB (fstsW p.2) (t : Int) := ⟨_, rfl⟩
              rw [← hD, ← hFB] at HWT hfd
              have hD6 : D.hops.length ≤ 6 := by
                rcases hfd with ⟨_, h2⟩ | ⟨h1, h2⟩
                · have hm := (findW_some h2).1
                  rw [hpw] at hm
                  exact ((waysD_asc (fsts ps) area src).2 D hm).1.len
                · rw [hD]
                  unfold wayToD
                  unfold findW at h2
                  rw [h2]
                  simp [zeroWD]
              have HW := hide HWT
              have HFD := hide hfd
              have HBX := hide hbx
              unfold wayC at HW
              clear HWT hfd hbx hls2 hpo hp hpw hpn har hD hFB
              go_wp2_with fail
              refine HW.out.mono ?_
              rintro e w3 ⟨du, rfl, hdu, b3⟩
              obtain ⟨da, dc, rfl⟩ := owns_lenS hdu
              have hb3 := b3.size
              have hbx3 := HBX.out.below b3
              have BA : Below w3.heap.size w3 (w3.alloc (.cells #[.int .i64 D.to, .int .i64 D.cost, .slice da D.hops.length dc] 46)) := (Below.refl _ _).alloc (Nat.le_refl _) _
              have hx4 := heap_alloc_new w3 (.cells #[.int .i64 D.to, .int .i64 D.cost, .slice da D.hops.length dc] 46)
              obtain ⟨w4, hw4⟩ : ∃ W, W = w3.alloc (.cells #[.int .i64 D.to, .int .i64 D.cost, .slice da D.hops.length dc] 46) := ⟨_, rfl⟩
              rw [← hw4] at BA hx4
              have hbx4 := hbx3.below BA
              have hdu4 := owns_below hdu BA (Nat.le_refl _)
              have hs4 := BA.size
              have hl4 := lt_of_heap hx4
              have d0 := cells_at hx4 0
              have d1 := cells_at hx4 1
              have d2 := cells_at hx4 2
              simp at d0 d1 d2
              have hzb := hbx4.box
              unfold wayC at hzb
              have e0 := cells_at hzb 0
              have e1 := cells_at hzb 1
              have e2 := cells_at hzb 2
              simp at e0 e1 e2
              have fd := frozen_at hx4
              have fe := frozen_at hzb
              have HX4 := hide hx4
              have HDU := hide hdu4
              have HB4 := hide hbx4
              have hlast : Below w3.heap.size w3 w4 := BA
              clear hdu b3 hbx3 hbx4 hdu4 hx4 hzb BA HBX HW
              cases FB
              · have HN := hide (show BestOf (t : Int) (withinS (fsts ps) (al.take (k + 1)) src (t : Int)) (if F then some b else none) by
                  have h := HBN.out
                  rcases HFD.out with ⟨h1, _⟩ | ⟨_, h2⟩
                  · cases h1
                  · rw [h2] at h; exact h)
                rw [hw4] at HB4
                clear HX4 HDU HBN HFD hw4 d0 d1 d2 e0 e1 e2 fd fe hlast
                go_wp2
                go_roundw
                case rel => exact ⟨k + 1, F, b, _, by omega, by go_num, rfl, HB4.out, HN⟩
                case measure => simp [intOf]; omega
              · have hfound : findW (fstsW p.2) (t : Int) = some D := by
                  rcases HFD.out with ⟨_, h2⟩ | ⟨h1, _⟩
                  · exact h2
                  · cases h1
                cases F
                · have HN := hide (show BestOf (t : Int) (withinS (fsts ps) (al.take (k + 1)) src (t : Int)) (if true then some D else none) by
                    have h := HBN.out
                    rw [hfound] at h
                    exact h)
                  have HF := hide (HB4.out.put rfl (owns_baseS (b0 := wt.heap.size + 1) HDU.out (by omega)) hD6)
                  rw [hw4] at HF d0 d1 d2 e0 e1 e2 fd fe
                  clear HX4 HDU HBN HFD HB4 hw4 hfound hlast
                  go_wp2
                  go_roundw
                  case rel => exact ⟨k + 1, true, D, _, by omega, by go_num, rfl, HF.out, HN⟩
                  case measure => simp [intOf]; omega
                · have HTG := stog_any b D (.slice bva b.hops.length bvc) (.slice da D.hops.length dc) wt.heap.size wr.heap.size w4 HB4.out.own HDU.out (by have := HB4.out.len; omega) (by omega)
                  unfold wayC at HTG
                  obtain ⟨E, hE⟩ : ∃ E, E = togD b D := ⟨_, rfl⟩
                  rw [← hE] at HTG
                  have hE6 : E.hops.length ≤ 6 := by rw [hE]; exact tog_len HB4.out.len hD6 (by omega)
                  have HN := hide (show BestOf (t : Int) (withinS (fsts ps) (al.take (k + 1)) src (t : Int)) (if true then some E else none) by
                    have h := HBN.out
                    rw [hfound] at h
                    rw [hE]
                    exact h)
                  have HT := hide HTG
                  rw [hw4] at d0 d1 d2 e0 e1 e2 fd fe
                  clear HTG HBN HFD hfound hE HDU
                  go_wp2_with fail
                  rw [← hw4]
                  refine HT.out.mono ?_
                  rintro e w5 ⟨eu, rfl, heu, b5⟩
                  obtain ⟨ea, ec, rfl⟩ := owns_lenS heu
                  have hb5 := b5.size
                  have hx5 := (b5.block _ hl4).trans HX4.out
                  have hbx5 := HB4.out.below b5
                  have hzb5 := hbx5.box
                  unfold wayC at hzb5
                  clear d0 d1 d2 e0 e1 e2 fd fe
                  have d0 := cells_at hx5 0
                  have d1 := cells_at hx5 1
                  have d2 := cells_at hx5 2
                  simp at d0 d1 d2
                  have e0 := cells_at hzb5 0
                  have e1 := cells_at hzb5 1
                  have e2 := cells_at hzb5 2
                  simp at e0 e1 e2
                  have fd := frozen_at hx5
                  have fe := frozen_at hzb5
                  have hg14 := grownW3 w5 w3.heap.size E (.slice ea E.hops.length ec)
                  have HF := hide ((hbx5.other hg14 (by omega) hx5 rfl).put rfl (owns_baseS (b0 := wt.heap.size + 1) (owns_other heu hg14 (by omega)) (by omega)) hE6)
                  have hne : wt.heap.size ≠ w3.heap.size := by omega
                  clear HX4 HB4 HT hx5 hbx5 hzb5 heu b5 hg14 hw4 hlast
                  go_wp2
                  go_roundw
                  case rel => exact ⟨k + 1, true, E, _, by omega, by go_num, rfl, HF.out, HN⟩
                  case measure => simp [intOf]; omega
            · have hkn : ¬ (k : Int) < (al.length : Int) := by omega
              have HBT := hide (show BestOf (t : Int) (withinS (fsts ps) al src (t : Int)) (if F then some b else none) by
                have h := HBO.out
                rw [List.take_of_length_le (by omega)] at h
                exact h)
              cases F
              · have N1 := hide ((HOWN.out.below hbx.bel (Nat.le_refl _)).wide (Nat.le_refl _) hbx.bel.size)
                have N2 := hide (show IsBest (fun to d => to < ((t + 1 : Nat) : Int) ∧ withinS (fsts ps) al src to d) (fstsW qs) from by
                  have h := HB.out.skip HBT.out
                  rw [show ((t + 1 : Nat) : Int) = (t : Int) + 1 by omega]
                  exact h)
                have N3 := hide (HLS.out.below hbx.bel hsz)
                have hszr : wb.heap.size ≤ wr.heap.size := by have := hbx.bel.size; omega
                clear hbx HBO HBT
                go_wp2
                go_roundw
                case rel => exact ⟨t + 1, _, qs, by omega, by omega, by go_num, rfl, N1.out, N2, HOFF.out, N3.out, BWR, hszr⟩
                case measure => simp [intOf]; omega
              · have hzb := hbx.box
                unfold wayC at hzb
                have e0 := cells_at hzb 0
                have e1 := cells_at hzb 1
                have e2 := cells_at hzb 2
                simp at e0 e1 e2
                have N2 := hide (show IsBest (fun to d => to < ((t + 1 : Nat) : Int) ∧ withinS (fsts ps) al src to d) (fstsW (qs ++ [(b, .slice bva b.hops.length bvc)])) from by
                  have h := HB.out.push HBT.out
                  rw [show ((t + 1 : Nat) : Int) = (t : Int) + 1 by omega]
                  have e : fstsW (qs ++ [(b, .slice bva b.hops.length bvc)]) = fstsW qs ++ [b] := by simp [fstsW]
                  rw [e]
                  exact h)
                have BA : Below wr.heap.size wr (wr.alloc (.cells #[.int .i64 b.to, .int .i64 b.cost, .slice bva b.hops.length bvc] 46)) := (Below.refl _ _).alloc (Nat.le_refl _) _
                have BT : Below wt.heap.size wt (wr.alloc (.cells #[.int .i64 b.to, .int .i64 b.cost, .slice bva b.hops.length bvc] 46)) := hbx.bel.trans (BA.mono (by omega))
                have OW := hide ((owns_below HOWN.out.row hbx.bel (Nat.le_refl _)).alloc (.cells #[.int .i64 b.to, .int .i64 b.cost, .slice bva b.hops.length bvc] 46))
                have HHO := hide (show HopOwn (wr.alloc (.cells #[.int .i64 b.to, .int .i64 b.cost, .slice bva b.hops.length bvc] 46)) wt.heap.size (wr.alloc (.cells #[.int .i64 b.to, .int .i64 b.cost, .slice bva b.hops.length bvc] 46)).heap.size (b, .slice bva b.hops.length bvc) from ⟨hbx.own.alloc _, fun k hk => ((hbx.own.alloc _).lt k hk).2⟩)
                have HLS2 := hide (HLS.out.below BT hsz)
                have hws := hnx.size
                clear hbx HBO HBT hzb
                go_wp2_with (first
                  | (at_builtin; refine append_struct6 encW_len (by omega) (by omega) _ rfl _ _ 39 rfl w.heap.size 46 Tryz.underlying39 (.agg (wayC zeroWD (.slice none 0 0))) rfl Tryz.infoWay _ qs (b, .slice bva b.hops.length bvc) (encW_one _ _ _ _) rfl OW.out ⟨wr.heap.size, 0, none⟩ 1 rfl (news_struct (cs := encW (b, .slice bva b.hops.length bvc))) (by omega) (by simp; omega) ?_))
                intro v' w6 hown' hgrow hat
                have N1 := hide (HOWN.out.push BT hws HHO.out (by simpa using hown') hgrow)
                have N3 := hide (HLS2.out.keep (HOFF.out.kept hgrow))
                have N4 := hide ((hnx.trans (BT.mono hws)).grown hgrow (by have := BT.size; omega) (fun j hj => (HOWN.out.row.lt j hj).1))
                have N5 := hide (HOFF.out.next (x' := v') (B := wb.heap.size) (fun j hj => by
                  rcases hat with h1 | h1
                  · exact .inl (by rw [← h1]; exact hj)
                  · right
                    rw [h1] at hj
                    simp at hj
                    omega) (Nat.le_refl _))
                have hszr : wb.heap.size ≤ w6.heap.size := by have := BT.size; have := hgrow.size; omega
                obtain ⟨va, vc, rfl⟩ := owns_lenS hown'
                clear hown' hgrow hat BT OW HHO HLS2 BA
                go_wp2
                go_roundw
                case rel => exact ⟨t + 1, _, qs ++ [(b, .slice bva b.hops.length bvc)], by omega, by omega, by go_num, rfl, N1.out, N2, N5.out, N3.out, N4.out, hszr⟩
                case measure => simp [intOf]; omega
        · have ht6 : ¬ (t : Int) ≤ 6 := by omega
          have htt : (t : Int) = 7 := by omega
          have HE := hide (show IsBest (withinS (fsts ps) al src) (fstsW qs) from HB.out.congr (fun to d => ⟨fun h => h.2, fun h => ⟨by have h3 := withinS_good h; have := h3.1.node; rw [h3.2] at this; omega, h⟩⟩))
          have HO := hide hown
          have HN := hide hnx
          clear hown hnx HB hoff hls htt
          go_wp2
          go_ret
          first
            | exact ⟨_, qs, rfl, HE.out, HO.out, HN.out⟩
            | exact ⟨_, rfl, qs, HE.out, HO.out, HN.out⟩
end Go.Proofs.YtidoieolejkflaaGreat
namespace Go.Proofs.YtidoieolejkflaaGreat
open Go.RowKit

theorem run_copy_rowS {P : Program} (w : World) (dT sT ty elem : TypeId) (g o dLen dCap : Nat) (a : Addr) (sLen sCap sz : Nat) (cur : Array Value) (t : TypeId) (cs : List Value)
    (hu : P.underlying dT = some (.slice elem)) (hs : (P.info? elem).map (·.size) = some sz)
    (hg : w.heap[g]? = some (.cells cur t (0, 0))) (hn : cs.length = Nat.min sLen dLen * sz)
    (hsrc : ∀ j v, cs[j]? = some v → w.cell? (a.add j) = some v) (hfit : o + cs.length ≤ cur.size) (h1 : ∀ v ∈ cs, v.oneCell' = true) :
    (Builtin.copy_ #[dT, sT] ty #[.slice (some ⟨g, o, none⟩) dLen dCap, .slice (some a) sLen sCap]).run P w =
      .ok (goInt (Nat.min sLen dLen)) (w.setRow g (cur.toList.take o ++ cs ++ cur.toList.drop (o + cs.length)).toArray) := by
  have hl := run_loadCells_list (P := P) w a cs hsrc
  have hst := run_storeCells_at P g o t cs 0 cur w hg (by simpa using hfit) h1
  cases hq : P.info? elem with
  | none => simp [hq] at hs
  | some i =>
    have hi : i.size = sz := by simpa [hq] using hs
    simp [Builtin.copy_, run_underlying hu, Builtin.lenOf, Builtin.firstCells, sizeOf, typeInfo, hq, hi, ← hn, hl, hst]

theorem append_types {P : Program} (w : World) (t t2 ty e : TypeId) (i : TypeInfo) (ht : P.underlying t = some (.slice e)) (ht2 : P.underlying t2 = some (.slice e)) (hi : P.info? e = some i) (b : Option Addr) (n c : Nat) (x : Value) :
    (Builtin.append_ #[t, t2] ty #[.slice b n c, x]).run P w = (Builtin.append_ #[t, t] ty #[.slice b n c, x]).run P w := by
  simp [Builtin.append_, run_underlying ht, run_underlying ht2, sizeOf, typeInfo, hi]

/-- what two copies leave -/
theorem seg_len (cur D R : List Value) (a d : Nat) (hD : D.length = d) (hR : R.length = 8) (hc : a + 8 + d ≤ cur.length) :
    ((cur.take (a + 8) ++ D ++ cur.drop (a + 8 + D.length)).take a ++ R ++ (cur.take (a + 8) ++ D ++ cur.drop (a + 8 + D.length)).drop (a + R.length)) = cur.take a ++ R ++ D ++ cur.drop (a + 8 + d) := by
  have e1 : (cur.take (a + 8) ++ D ++ cur.drop (a + 8 + D.length)).take a = cur.take a := by
    rw [List.append_assoc, List.take_append_of_le_length (by simp; omega), List.take_take, Nat.min_eq_left (by omega)]
  have e2 : (cur.take (a + 8) ++ D ++ cur.drop (a + 8 + D.length)).drop (a + R.length) = D ++ cur.drop (a + 8 + d) := by
    rw [hR, List.append_assoc, List.drop_append_of_le_length (by simp; omega), List.drop_of_length_le (by simp; omega), List.nil_append, hD]
  rw [e1, e2, List.append_assoc, List.append_assoc, List.append_assoc]

theorem take_of_parts {A B C D : List Value} {n : Nat} (h : A.length + B.length + C.length = n) : (A ++ B ++ C ++ D).take n = A ++ B ++ C := by
  rw [List.take_append_of_le_length (by simp; omega), List.take_of_length_le (by simp; omega)]

theorem flat_take (ps : List RP) (i : Nat) (h : i ≤ ps.length) : (flat encP ps).take (i * 8) = flat encP (ps.take i) := by
  conv => lhs; rw [← List.take_append_drop i ps, flat_append]
  have e : (flat encP (ps.take i)).length = i * 8 := by rw [flat_len encP_len, List.length_take, Nat.min_eq_left h]
  rw [← e, List.take_left]

theorem flat_drop (ps : List RP) (i : Nat) (h : i ≤ ps.length) : (flat encP ps).drop (i * 8) = flat encP (ps.drop i) := by
  conv => lhs; rw [← List.take_append_drop i ps, flat_append]
  have e : (flat encP (ps.take i)).length = i * 8 := by rw [flat_len encP_len, List.length_take, Nat.min_eq_left h]
  rw [← e, List.drop_left]

theorem flat_one (r : RP) : flat encP [r] = encP r := by simp [flat]

theorem flat_ins (ps : List RP) (r : RP) (i : Nat) : flat encP (ps.take i ++ [r] ++ ps.drop i) = flat encP (ps.take i) ++ encP r ++ flat encP (ps.drop i) := by
  rw [flat_append, flat_append, flat_one]

theorem ins_len (ps : List RP) (r : RP) (i : Nat) (h : i ≤ ps.length) : (ps.take i ++ [r] ++ ps.drop i).length = ps.length + 1 := by
  simp
  omega

theorem flat_oneCell (ps : List RP) (h : ∀ p ∈ ps, ∃ a n c, p.2 = .slice a n c) : ∀ u ∈ flat encP ps, u.oneCell' = true := by
  intro u hu
  simp only [flat, List.mem_flatMap] at hu
  obtain ⟨p, hp, hu⟩ := hu
  obtain ⟨a, n, c, e⟩ := h p hp
  obtain ⟨x, v⟩ := p
  simp only at e
  subst e
  exact encP_one x a n c u hu
end Go.Proofs.YtidoieolejkflaaGreat
namespace Go.Proofs.YtidoieolejkflaaGreat
open Go.RowKit

/-- what two copies leave -/
theorem segW_len (cur D R : List Value) (a d : Nat) (hD : D.length = d) (hR : R.length = 3) (hc : a + 3 + d ≤ cur.length) :
    ((cur.take (a + 3) ++ D ++ cur.drop (a + 3 + D.length)).take a ++ R ++ (cur.take (a + 3) ++ D ++ cur.drop (a + 3 + D.length)).drop (a + R.length)) = cur.take a ++ R ++ D ++ cur.drop (a + 3 + d) := by
  have e1 : (cur.take (a + 3) ++ D ++ cur.drop (a + 3 + D.length)).take a = cur.take a := by
    rw [List.append_assoc, List.take_append_of_le_length (by simp; omega), List.take_take, Nat.min_eq_left (by omega)]
  have e2 : (cur.take (a + 3) ++ D ++ cur.drop (a + 3 + D.length)).drop (a + R.length) = D ++ cur.drop (a + 3 + d) := by
    rw [hR, List.append_assoc, List.drop_append_of_le_length (by simp; omega), List.drop_of_length_le (by simp; omega), List.nil_append, hD]
  rw [e1, e2, List.append_assoc, List.append_assoc, List.append_assoc]

theorem flatW_take (ps : List WP) (i : Nat) (h : i ≤ ps.length) : (flat encW ps).take (i * 3) = flat encW (ps.take i) := by
  conv => lhs; rw [← List.take_append_drop i ps, flat_append]
  have e : (flat encW (ps.take i)).length = i * 3 := by rw [flat_len encW_len, List.length_take, Nat.min_eq_left h]
  rw [← e, List.take_left]

theorem flatW_drop (ps : List WP) (i : Nat) (h : i ≤ ps.length) : (flat encW ps).drop (i * 3) = flat encW (ps.drop i) := by
  conv => lhs; rw [← List.take_append_drop i ps, flat_append]
  have e : (flat encW (ps.take i)).length = i * 3 := by rw [flat_len encW_len, List.length_take, Nat.min_eq_left h]
  rw [← e, List.drop_left]

theorem flatW_one (r : WP) : flat encW [r] = encW r := by simp [flat]

theorem flatW_ins (ps : List WP) (r : WP) (i : Nat) : flat encW (ps.take i ++ [r] ++ ps.drop i) = flat encW (ps.take i) ++ encW r ++ flat encW (ps.drop i) := by
  rw [flat_append, flat_append, flatW_one]

theorem insW_len (ps : List WP) (r : WP) (i : Nat) (h : i ≤ ps.length) : (ps.take i ++ [r] ++ ps.drop i).length = ps.length + 1 := by
  simp
  omega

theorem flatW_oneCell (ps : List WP) (h : ∀ p ∈ ps, ∃ a n c, p.2 = .slice a n c) : ∀ u ∈ flat encW ps, u.oneCell' = true := by
  intro u hu
  simp only [flat, List.mem_flatMap] at hu
  obtain ⟨p, hp, hu⟩ := hu
  obtain ⟨a, n, c, e⟩ := h p hp
  obtain ⟨x, v⟩ := p
  simp only at e
  subst e
  exact encW_one x a n c u hu
end Go.Proofs.YtidoieolejkflaaGreat
