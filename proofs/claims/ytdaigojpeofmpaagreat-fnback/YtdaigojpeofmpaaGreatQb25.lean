/-
  (*impl.wayFinder).goOn: what its rounds keep.
  (*impl.wayFinder).goOn: its walk.
-/
import Derived.Test.YtdaigojpeofmpaaGreatQb24
import Derived.Test.YtdaigojpeofmpaaGreatQb22
import Derived.WalkMore
import Derived.ScopeJumps
namespace Go.Proofs.YtdaigojpeofmpaaGreat
open Go.RowKit

set_option linter.unusedSimpArgs false

theorem FS.popped {W W' : World} {lo z n : Nat} {u u' : Value} {q q' : Nat → Nat} {bp : Nat → Option Nat} {wd : Nat → WayD} {wv : Nat → Value} (s : FS W lo z u (n + 1) q bp wd wv) (F : FK W W' lo z) (hb' : HB W' lo z (finC bp u') u' n q' wd wv) (hi : IsHeap (fun k => (wd k).cost) q' n) : FS W' lo z u' n q' bp wd wv := by
  refine ⟨s.lz, hb', hi, fun v k e => ⟨?_, (s.way v k e).2⟩, fun v k e => ?_, s.short, s.apart, s.to, s.b0⟩
  · have hj := (s.way v k e).1
    exact (F.typed _ _ _ _ hj (by decide) (fun e => by rw [e, s.hb.box] at hj; simp at hj)).trans hj
  · have ho := s.row v k e
    refine owns_keepB ho (fun j hj => ?_)
    rcases ho.2 with ⟨e1, _⟩ | ⟨g2, cap, cur, e1, _, hh, _⟩
    · rw [e1] at hj; cases hj
    · rw [e1] at hj
      simp [Value.ownBlock] at hj
      subst hj
      exact F.typed _ _ _ _ hh (by decide) (fun e => by rw [e, s.hb.box] at hh; simp at hh)

/-- the way over u to t, as onward makes it -/
theorem onw_hops {L : Nat → Nat → Int} {src : Nat} {F : Nat → Bool} {c : Nat → Int} {h : Nat → List Int} (I : Inv L src F c h) {u t : Nat} (hu : 0 ≤ c u) {x : WayD} (hx : x.hops = h u) (co : Int) : onwD x (t : Int) co = ⟨(t : Int), x.cost + co, wayL src h u t⟩ := by
  unfold onwD wayL
  by_cases e : u = src
  · have : x.hops = [] := by rw [hx, e]; exact I.start0
    rw [if_pos this, if_pos e]
  · have : x.hops ≠ [] := by rw [hx]; exact I.hops_ne _ u e hu (Nat.le_refl _)
    rw [if_neg this, if_neg e, hx]

theorem way_asc {L : Nat → Nat → Int} {src : Nat} {F : Nat → Bool} {c : Nat → Int} {h : Nat → List Int} (I : Inv L src F c h) {u t : Nat} (ht : 1 ≤ t ∧ t ≤ 6) : (wayL src h u t).Pairwise (· < ·) ∧ ∀ x, x ∈ wayL src h u t → 1 ≤ x ∧ x ≤ 6 := by
  unfold wayL
  by_cases e : u = src
  · rw [if_pos e]
    refine ⟨by simp, fun x hx => ?_⟩
    simp at hx
    omega
  · rw [if_neg e]
    exact ⟨I.asc u, I.rng u⟩

theorem way_len {L : Nat → Nat → Int} {src : Nat} {F : Nat → Bool} {c : Nat → Int} {h : Nat → List Int} (I : Inv L src F c h) {u t : Nat} (ht : 1 ≤ t ∧ t ≤ 6) : (wayL src h u t).length ≤ 6 := by
  obtain ⟨h1, h2⟩ := way_asc I (u := u) ht
  rw [asc_addL (a := []) (b := wayL src h u t) h1 (fun x => by simp) h2]
  exact addL_len6 _ _

section
variable {L : Nat → Nat → Int} {src : Nat} {F : Nat → Bool} {c : Nat → Int} {h : Nat → List Int} {n u t : Nat} {q : Nat → Nat} {bp : Nat → Option Nat} {wd : Nat → WayD}

/-- what found is asked for: the joined way is of the same cost, and short -/
theorem join_ok (I : Inv L src F c h) (hl : 0 < L u t) (ht : 1 ≤ t ∧ t ≤ 6) (g : GI (fun x => F x || x == u) (mixC L c u t) (mixH L src c h u t) n q bp wd) {kn : Nat} (hb : bp t = some kn) (hnc : ¬ c u + L u t < (wd kn).cost) :
    (togI (wd kn) ⟨(t : Int), c u + L u t, wayL src h u t⟩).hops = relaxL L src c h u t ∧ relaxC L c u t = c t ∧ (togI (wd kn) ⟨(t : Int), c u + L u t, wayL src h u t⟩).cost = (wd kn).cost ∧ (togI (wd kn) ⟨(t : Int), c u + L u t, wayL src h u t⟩).to = (wd kn).to := by
  have hc : (wd kn).cost = c t := by have := g.cc t; rw [cOf_some hb, mixC_next] at this; exact this
  have hh : (wd kn).hops = h t := by have := g.hh t; rw [hOf_some hb, mixH_next] at this; exact this
  have h0 := g.nn t kn hb
  unfold togI betterB
  by_cases e : (wd kn).cost < c u + L u t
  · have hr := relaxL_dear (L := L) (src := src) (c := c) (h := h) (u := u) (v := t) (by omega) (by omega)
    rw [if_pos (by simpa using e)]
    exact ⟨by rw [hr.1]; exact hh, hr.2, rfl, rfl⟩
  · have hr := relaxL_like (L := L) (src := src) (c := c) (h := h) (u := u) (v := t) hl (by omega) (by omega)
    rw [if_neg (by simpa using e), if_neg (by simpa using hnc)]
    refine ⟨?_, hr.2, rfl, rfl⟩
    show hopsI (wd kn).hops (wayL src h u t) = _
    rw [hr.1, hh]
    refine asc_addL (hopsI_asc _ _) (fun x => hopsI_mem) (fun x hx => ?_)
    rcases hopsI_mem.1 hx with h1 | h1
    · exact I.rng t x h1
    · exact (way_asc I ht).2 x h1

theorem relax_len (I : Inv L src F c h) (hL : Links L 1000) (hu : 0 ≤ c u) : (relaxL L src c h u t).length ≤ 6 := by
  have r := relaxL_spec I hL hu t
  rw [asc_addL (a := []) (b := relaxL L src c h u t) r.asc (fun x => by simp) (fun x hx => by
    rcases (r.mem x).1 hx with ⟨h1, _⟩ | ⟨h1, _, h3⟩
    · exact I.rng t x h1
    · have hn := (hL.node u t h1).2
      unfold IsNode at hn
      exact (way_asc I (src := src) (u := u) hn).2 x (wayL_mem.2 h3))]
  exact addL_len6 _ _

theorem relax_join (I : Inv L src F c h) (hl : 0 < L u t) (ht : 1 ≤ t ∧ t ≤ 6) (g : GI (fun x => F x || x == u) (mixC L c u t) (mixH L src c h u t) n q bp wd) {kn : Nat} (hb : bp t = some kn) (hnc : ¬ c u + L u t < (wd kn).cost) :
    GI (fun x => F x || x == u) (mixC L c u (t + 1)) (mixH L src c h u (t + 1)) n q bp (upd wd kn (togI (wd kn) ⟨(t : Int), c u + L u t, wayL src h u t⟩)) := by
  obtain ⟨j1, j2, j3, j4⟩ := join_ok I hl ht g hb hnc
  have := g.join hb j3 j4
  rw [j1] at this
  rw [mixC_keep j2, mixH_step]
  exact this

theorem relax_push (I : Inv L src F c h) (hF : F u = false) (hu : 0 ≤ c u) (hl : 0 < L u t) (ht : 1 ≤ t ∧ t ≤ 6) (g : GI (fun x => F x || x == u) (mixC L c u t) (mixH L src c h u t) n q bp wd) {k : Nat} {q' : Nat → Nat}
    (hcase : bp t = none ∨ ∃ kn, bp t = some kn ∧ c u + L u t < (wd kn).cost) (hk1 : ∀ i, i < n → q i ≠ k) (hk2 : ∀ v, bp v ≠ some k) (hs : Shuf (fun y => if y = n then k else q y) q' (n + 1)) :
    GI (fun x => F x || x == u) (mixC L c u (t + 1)) (mixH L src c h u (t + 1)) (n + 1) q' (upd bp t (some k)) (upd wd k ⟨(t : Int), c u + L u t, wayL src h u t⟩) := by
  have hc : c t < 0 ∨ c u + L u t < c t := by
    have h1 := g.cc t
    rw [mixC_next] at h1
    rcases hcase with e | ⟨kn, e, h2⟩
    · rw [cOf_none e] at h1; omega
    · rw [cOf_some e] at h1; omega
  have hFt : (F t || t == u) = false := by
    cases e : F t with
    | true =>
      have h1 := I.mono t u e hF hu
      have h2 := (I.fnode t e).2
      omega
    | false =>
      by_cases e2 : t = u
      · subst e2; omega
      · simp [e2]
  have hr := relaxL_less (L := L) (src := src) (c := c) (h := h) (u := u) (v := t) hl hc
  have hw := way_asc I (u := u) ht
  have hway : wayL src h u t = relaxL L src c h u t := by
    rw [hr.1]
    exact asc_addL hw.1 (fun x => by simp) hw.2
  have := g.push (t := t) (k := k) (x := ⟨(t : Int), c u + L u t, wayL src h u t⟩) hFt rfl (by rw [mixC_next]; exact hc) hk1 hk2 hs (by show 0 ≤ c u + L u t; omega)
  rw [mixC_step, mixH_step, hr.2, ← hway]
  exact this

theorem relax_skip (hl : ¬ 0 < L u t) (g : GI (fun x => F x || x == u) (mixC L c u t) (mixH L src c h u t) n q bp wd) : GI (fun x => F x || x == u) (mixC L c u (t + 1)) (mixH L src c h u (t + 1)) n q bp wd := by
  have hr := relaxL_none (src := src) (c := c) (h := h) hl
  rw [mixC_keep hr.2, mixH_keep hr.1]
  exact g
end

/-- a finder in the midst of a search, m rounds at most ahead -/
def GO (W : World) (lo z : Nat) (L : Nat → Nat → Int) (src m : Nat) : Prop :=
  ∃ u n q bp wd wv F c h, FS W lo z u n q bp wd wv ∧ GI F c h n q bp wd ∧ Inv L src F c h ∧ (∀ v, c v ≤ 1000 * (cardF F : Int)) ∧ m = 7 * (6 - cardF F) + n

/-- the search's end -/
def GEnd (W : World) (lo z : Nat) (L : Nat → Nat → Int) (src : Nat) : Prop :=
  ∃ u q bp wd wv c h, FS W lo z u 0 q bp wd wv ∧ (∀ v, cOf bp wd v = c v) ∧ (∀ v, hOf bp wd v = h v) ∧ (∀ v k, bp v = some k → 0 ≤ (wd k).cost) ∧ Fix L src c h

theorem GI.end {L : Nat → Nat → Int} {src : Nat} {F : Nat → Bool} {c : Nat → Int} {h : Nat → List Int} {q : Nat → Nat} {bp : Nat → Option Nat} {wd : Nat → WayD} (g : GI F c h 0 q bp wd) (I : Inv L src F c h) : Fix L src c h := by
  refine ⟨F, I, fun v hv => ?_⟩
  cases e : F v with
  | true => rfl
  | false =>
    have h1 := g.cc v
    cases e2 : bp v with
    | none => rw [cOf_none e2] at h1; omega
    | some k =>
      obtain ⟨i, hi, _⟩ := g.live v k e2 e
      omega

theorem GI.stale {F : Nat → Bool} {c : Nat → Int} {h : Nat → List Int} {n : Nat} {q q' : Nat → Nat} {bp : Nat → Option Nat} {wd : Nat → WayD} (g : GI F c h (n + 1) q bp wd) (hs : Shuf (swapF q 0 n) q' n) {v kb : Nat} (hto : (wd (q 0)).to = (v : Int)) (hb : bp v = some kb) (hlt : (wd kb).cost < (wd (q 0)).cost) : GI F c h n q' bp wd := by
  refine g.pop hs (fun _ e => e) (fun v' k e hF e2 => ?_) (fun v' e1 e2 => by rw [e1] at e2; cases e2)
  subst e2
  have h1 := g.to v' _ e
  have : v' = v := by omega
  subst this
  rw [hb] at e
  cases e
  omega

theorem GI.fresh {F : Nat → Bool} {c : Nat → Int} {h : Nat → List Int} {n : Nat} {q q' : Nat → Nat} {bp : Nat → Option Nat} {wd : Nat → WayD} (g : GI F c h (n + 1) q bp wd) (hs : Shuf (swapF q 0 n) q' n) (hh : IsHeap (fun k => (wd k).cost) q (n + 1)) {v kb : Nat} (hto : (wd (q 0)).to = (v : Int)) (hb : bp v = some kb) (hlt : ¬ (wd kb).cost < (wd (q 0)).cost) :
    GI (fun x => F x || x == v) c h n q' bp wd ∧ q 0 = kb ∧ F v = false ∧ 0 ≤ c v ∧ (wd (q 0)).cost = c v ∧ (wd (q 0)).hops = h v ∧ ∀ v', F v' = false → 0 ≤ c v' → c v ≤ c v' := by
  obtain ⟨v2, kb2, e1, e2, e3⟩ := g.ent 0 (by omega)
  have hv : v2 = v := by omega
  subst hv
  rw [hb] at e2
  cases e2
  rcases e3 with ⟨e4, e5⟩ | e4
  · have hcv : (wd (q 0)).cost = c v2 := by have := g.cc v2; rw [cOf_some hb] at this; rw [e4]; exact this
    have hhv : (wd (q 0)).hops = h v2 := by have := g.hh v2; rw [hOf_some hb] at this; rw [e4]; exact this
    have h0 := g.nn v2 kb hb
    refine ⟨g.pop hs (fun v' e => ?_) (fun v' k e hF e6 => ?_) (fun v' e6 e7 => ?_), e4, e5, by rw [← hcv, e4]; exact h0, hcv, hhv, fun v' hF hc => ?_⟩
    · cases e6 : F v' with
      | false => rfl
      | true => rw [e6] at e; simp at e
    · subst e6
      have h1 := g.to v' _ e
      have h2 : v' = v2 := by omega
      subst h2
      simp at hF
    · rw [e6] at e7
      have h1 : v' = v2 := by simpa using e7
      subst h1
      rw [hb, e4]
    · have h1 := g.cc v'
      cases e6 : bp v' with
      | none => rw [cOf_none e6] at h1; omega
      | some k' =>
        rw [cOf_some e6] at h1
        obtain ⟨i, hi, e7⟩ := g.live v' k' e6 hF
        have h2 := heap_root hh i i (Nat.le_refl _) hi
        have h3 : (wd (q 0)).cost ≤ (wd (q i)).cost := h2
        rw [e7] at h3
        omega
  · exact absurd e4 hlt
end Go.Proofs.YtdaigojpeofmpaaGreat
namespace Go.Proofs.YtdaigojpeofmpaaGreat
open Go.RowKit

set_option linter.unusedSimpArgs false

theorem go_pick {W : World} {lo z : Nat} {L : Nat → Nat → Int} {src : Nat} (h : ∃ m, GO W lo z L src m ∧ m ≤ 43) : ∃ u n q bp wd wv F c hh, FS W lo z u n q bp wd wv ∧ GI F c hh n q bp wd ∧ Inv L src F c hh ∧ (∀ v, c v ≤ 1000 * (cardF F : Int)) ∧ leastM (GO W lo z L src) = 7 * (6 - cardF F) + n ∧ 7 * (6 - cardF F) + n ≤ 43 := by
  obtain ⟨m, hm, h43⟩ := h
  have hle := leastM_le hm
  obtain ⟨u, n, q, bp, wd, wv, F, c, hh, a1, a2, a3, a4, a5⟩ := leastM_spec ⟨m, hm⟩
  exact ⟨u, n, q, bp, wd, wv, F, c, hh, a1, a2, a3, a4, a5, by omega⟩

/-- a scope with one label, to which the run jumps ahead -/
theorem wp_scope_fwd {P : Program} {a : Act} {w : World} {Q : Exit → Act → World → Prop} {c rest : Go.Code} (l : Nat) (hf : findLabel c l = some rest)
    (pass : ∀ a w, Q .normal a w → rest.wp P (Exit.jump l (fun a' w' => Q .normal a' w' ∧ (0 : Nat) < 0) Q) a w)
    (first : c.wp P (Exit.jump l (fun a' w' => Q .normal a' w') Q) a w) : (Go.Code.scope c).wp P Q a w :=
  wp_scope_jumps l (fun a' w' => Q .normal a' w') (fun _ _ => 0) hf first pass

set_option maxRecDepth 100000 in
set_option maxHeartbeats 8000000 in
theorem goOn_any (W : World) (lo z : Nat) (v : Value) (ps : List RP) (hi : Nat) (area : Int) (L : Nat → Nat → Int) (src : Nat) (hv : RecsIn W hi v ps) (hhi : hi ≤ lo) (hn : tot ps ≤ 1048576) (hL : Links L 1000) (hLk : ∀ a b : Nat, 1 ≤ a ∧ a ≤ 6 → 1 ≤ b ∧ b ≤ 6 → linkedI (fsts ps) area (a : Int) (b : Int) = L a b) (hgo : ∃ m, GO W lo z L src m ∧ m ≤ 43) :
    Calls Tryz.prog 112 #[.pointer (some ⟨z, 0, none⟩), v, .int .i64 area] W fun e W' => e = .returned (.tuple #[]) ∧ GEnd W' lo z L src ∧ Below lo W W' := by
  obtain ⟨a1, c1, rfl⟩ := owns_lenS hv.row
  have HLI := hide (fun V (hb : Below lo W V) (a b : Nat) (ha : 1 ≤ a ∧ a ≤ 6) (hb' : 1 ≤ b ∧ b ≤ 6) (hl : lo ≤ V.heap.size) => by
    have := ilinked_any (.slice a1 ps.length c1) ps hi area (a : Int) (b : Int) V (hv.below hb hhi) (Nat.le_trans hhi hl) hn
    rw [hLk a b ha hb'] at this
    exact this)
  have HGO := hide hgo
  have HLL := hide hL
  clear hgo hv hLk hL
  go_enter Tryz.func112, Tryz.ntmps112
  go_wp2
  go_loopw [6] (fun p wr => (p = p) ∧ (∃ m, GO wr lo z L src m ∧ m ≤ 43) ∧ Below lo W wr) (fun _ wr => leastM (GO wr lo z L src))
  case atStart => exact ⟨rfl, HGO.out, Below.refl _ _⟩
  case round =>
    rename World => wa
    clear HGO
    obtain ⟨_, hgo, hba⟩ := hrel
    obtain ⟨u, n, q, bp, wd, wv, F, c, hh, fs, gi, iv, bnd, hM, hn43⟩ := go_pick hgo
    have cz := fs.hb.cell
    obtain ⟨ua, uc, hu⟩ := owns_lenS fs.hb.hq.row
    rw [hu] at cz
    have hlo := fs.size
    have HFS := hide fs
    have HGI := hide gi
    have HIV := hide iv
    have HBN := hide bnd
    have HM := hide hM
    clear hgo fs gi iv bnd hM
    by_cases hn0 : n = 0
    · subst hn0
      have HEND := hide (show GEnd wa lo z L src from ⟨u, q, bp, wd, wv, c, hh, HFS.out, HGI.out.cc, HGI.out.hh, HGI.out.nn, HGI.out.end HIV.out⟩)
      clear hu
      go_wp2_with fail
      refine (len_any _ _ _ _).mono ?_
      rintro e w1 ⟨rfl, rfl⟩
      go_wp2
      go_returns
      exact ⟨rfl, HEND.out, hba⟩
    · obtain ⟨m, hm⟩ : ∃ m, n = m + 1 := ⟨n - 1, by omega⟩
      subst hm
      have HPOP := hide (heapPop_any wa lo z m _ u q wd wv HFS.out.hb hlo (by omega) rfl HFS.out.lz HFS.out.hp)
      unfold ptrV at HPOP
      have hgt : (0 : Int) < ((m + 1 : Nat) : Int) := by omega
      have hAs := fun v W => asWay v W
      clear hu
      go_wp2_with fail
      refine (len_any _ _ _ _).mono ?_
      rintro e w1 ⟨rfl, rfl⟩
      obtain ⟨t0, kb, hto, hbp, hent⟩ := HGI.out.ent 0 (by omega)
      have ht0 : 1 ≤ t0 ∧ t0 ≤ 6 := by
        have h1 := HGI.out.cc t0
        rw [cOf_some hbp] at h1
        have h2 := HGI.out.nn t0 kb hbp
        have h3 := HIV.out.cnode t0 (by omega)
        exact h3
      go_wp2_with fail
      by_cases hst : (wd kb).cost < (wd (q 0)).cost
      · refine wp_scope_fwd 0 (rest := ?rest) ?hf ?_ ?_
        case hf => rfl
        · intro a w hq
          refine wp_skip ?_
          exact hq
        · go_wp2_with fail
          refine HPOP.out.mono ?_
          rintro e w2 ⟨u', q', rfl, hip, hsh, hb', fk⟩
          rw [finC_next] at hb'
          have fs2 := HFS.out.popped fk hb' hip
          have ba2 : Below lo W w2 := hba.trans fk.below
          have hlo2 := fs2.size
          have hw0 := HFS.out.hb.hq.way 0 (by omega)
          have hp2 := (fk.typed _ _ _ _ hw0 (by decide) (fun e => by rw [e, HFS.out.hb.box] at hw0; simp at hw0)).trans hw0
          obtain ⟨pa, pl, pk, hpv⟩ := HFS.out.hb.hq.sl 0 (by omega)
          have hk2 := (fs2.way t0 kb hbp).1
          obtain ⟨ba, bk, hbv⟩ := owns_lenS (fs2.row t0 kb hbp)
          have kz := fs2.known ht0
          rw [hbp] at kz
          unfold ptrO at kz
          rw [hpv] at hp2
          rw [hbv] at hk2
          obtain ⟨p0, hp0⟩ : ∃ p, p = q 0 := ⟨_, rfl⟩
          obtain ⟨xp, hxp⟩ : ∃ x, x = wd (q 0) := ⟨_, rfl⟩
          obtain ⟨xb, hxb⟩ : ∃ x, x = wd kb := ⟨_, rfl⟩
          have HBT := hide (fun V => ibetter_any (.slice ba (wd kb).hops.length bk) (.slice pa pl pk) (wd kb) (wd (q 0)) V)
          rw [← hxp, ← hxb] at HBT
          rw [← hxp] at hp2
          rw [← hxb] at hk2
          rw [← hp0] at hp2 ⊢
          obtain ⟨bl, hbl⟩ : ∃ l, l = xb.hops.length := ⟨_, rfl⟩
          rw [← hbl] at hk2 HBT
          have hwp : wayC xp (.slice pa pl pk) = #[.int .i64 (t0 : Int), .int .i64 xp.cost, .slice pa pl pk] := by unfold wayC; rw [hxp, hto]
          rw [hwp] at hp2 HBT
          unfold wayC betterB at HBT
          unfold wayC at hk2
          obtain ⟨pc, hpc⟩ : ∃ c, c = xp.cost := ⟨_, rfl⟩
          obtain ⟨bt, hbt⟩ : ∃ c, c = xb.to := ⟨_, rfl⟩
          obtain ⟨bc, hbc⟩ : ∃ c, c = xb.cost := ⟨_, rfl⟩
          rw [← hpc] at hp2 HBT
          rw [← hbt, ← hbc] at hk2 HBT
          have lp2 := lt_of_heap hp2
          have lb2 := lt_of_heap hk2
          have lz2 := lt_of_heap fs2.hb.box
          have s1 := cells_at hp2 0
          have s2 := cells_at hp2 1
          have s3 := cells_at hp2 2
          have s4 := cells_at hk2 0
          have s5 := cells_at hk2 1
          have s6 := cells_at hk2 2
          simp at s1 s2 s3 s4 s5 s6
          have hti : (0 : Int) ≤ (t0 : Int) := by omega
          have htj : (t0 : Int) < 7 := by omega
          have FS2 := hide fs2
          have HSH := hide hsh
          have HP0 := hide hp0
          have HXP := hide hxp
          have HXB := hide hxb
          have HPC := hide hpc
          have HBC := hide hbc
          have HP2 := hide hp2
          have HTO := hide hto
          have HBP := hide hbp
          have HEN := hide hent
          clear fs2 hsh hp0 hxp hxb hpc hbt hbc hbl hp2 hk2 hw0 fk hb' hip hpv hbv hwp hto hbp hent HPOP cz
          go_wp2
          refine wp_region_noPanic ?_
          have hS0 : w2.drew.cell? ⟨z, t0, none⟩ = some (.pointer (some ⟨kb, 0, none⟩)) ∧ w2.drew.cell? ⟨p0, 0, none⟩ = some (.int .i64 (t0 : Int)) ∧ w2.drew.cell? ⟨p0, 1, none⟩ = some (.int .i64 pc) ∧ w2.drew.cell? ⟨p0, 2, none⟩ = some (.slice pa pl pk) ∧ w2.drew.cell? ⟨kb, 0, none⟩ = some (.int .i64 bt) ∧ w2.drew.cell? ⟨kb, 1, none⟩ = some (.int .i64 bc) ∧ w2.drew.cell? ⟨kb, 2, none⟩ = some (.slice ba bl bk) := ⟨kz, s1, s2, s3, s4, s5, s6⟩
          have lz4 : z < w2.drew.heap.size := lz2
          have lp4 : p0 < w2.drew.heap.size := lp2
          have lb4 : kb < w2.drew.heap.size := lb2
          refine wp_region_start (S := fun W => W.cell? ⟨z, t0, none⟩ = some (.pointer (some ⟨kb, 0, none⟩)) ∧ W.cell? ⟨p0, 0, none⟩ = some (.int .i64 (t0 : Int)) ∧ W.cell? ⟨p0, 1, none⟩ = some (.int .i64 pc) ∧ W.cell? ⟨p0, 2, none⟩ = some (.slice pa pl pk) ∧ W.cell? ⟨kb, 0, none⟩ = some (.int .i64 bt) ∧ W.cell? ⟨kb, 1, none⟩ = some (.int .i64 bc) ∧ W.cell? ⟨kb, 2, none⟩ = some (.slice ba bl bk)) (by kernel_rfl) 15 rfl hS0 ?_
          intro ops hops _
          show wpAnyH Tryz.prog .any ops _ _ 15 #[false, false, false, false, false, false, false, false, false, false, false, false, false, false, false] _ w2.drew
          refine take_do 0 (oi := ?_) (v := ?_) ?_ (by rw [hops.out]; kernel_rfl) ?_ ?_ ?_ (by assumption) ?_
          rotate_left 2
          · rw [hops.out]; simp only [List.getElem?_toArray, List.getElem?_cons_succ, List.getElem?_cons_zero]; rfl
          · rw [hops.out]; kernel_rfl
          · intro W hW; obtain ⟨k1, k2, k3, k4, k5, k6, k7⟩ := hW; go_simp <;> with_reducible rfl
          · exact fun _ _ _ h => h
          try simp only [Act.put, List.setIfInBounds_toArray, List.set_cons_zero, List.set_cons_succ]
          refine take_do 1 (oi := ?_) (v := ?_) ?_ (by rw [hops.out]; kernel_rfl) ?_ ?_ ?_ (by assumption) ?_
          rotate_left 2
          · rw [hops.out]; simp only [List.getElem?_toArray, List.getElem?_cons_succ, List.getElem?_cons_zero]; rfl
          · rw [hops.out]; kernel_rfl
          · intro W hW; obtain ⟨k1, k2, k3, k4, k5, k6, k7⟩ := hW; go_simp <;> with_reducible rfl
          · exact fun _ _ _ h => h
          try simp only [Act.put, List.setIfInBounds_toArray, List.set_cons_zero, List.set_cons_succ]
          refine take_do 2 (oi := ?_) (v := ?_) ?_ (by rw [hops.out]; kernel_rfl) ?_ ?_ ?_ (by assumption) ?_
          rotate_left 2
          · rw [hops.out]; simp only [List.getElem?_toArray, List.getElem?_cons_succ, List.getElem?_cons_zero]; rfl
          · rw [hops.out]; kernel_rfl
          · intro W hW; obtain ⟨k1, k2, k3, k4, k5, k6, k7⟩ := hW; go_simp <;> with_reducible rfl
          · exact fun _ _ _ h => h
          try simp only [Act.put, List.setIfInBounds_toArray, List.set_cons_zero, List.set_cons_succ]
          refine take_do 3 (oi := ?_) (v := ?_) ?_ (by rw [hops.out]; kernel_rfl) ?_ ?_ ?_ (by assumption) ?_
          rotate_left 2
          · rw [hops.out]; simp only [List.getElem?_toArray, List.getElem?_cons_succ, List.getElem?_cons_zero]; rfl
          · rw [hops.out]; kernel_rfl
          · intro W hW; obtain ⟨k1, k2, k3, k4, k5, k6, k7⟩ := hW; go_simp <;> with_reducible rfl
          · exact fun _ _ _ h => h
          try simp only [Act.put, List.setIfInBounds_toArray, List.set_cons_zero, List.set_cons_succ]
          refine take_do 4 (oi := ?_) (v := ?_) ?_ (by rw [hops.out]; kernel_rfl) ?_ ?_ ?_ (by assumption) ?_
          rotate_left 2
          · rw [hops.out]; simp only [List.getElem?_toArray, List.getElem?_cons_succ, List.getElem?_cons_zero]; rfl
          · rw [hops.out]; kernel_rfl
          · intro W hW; obtain ⟨k1, k2, k3, k4, k5, k6, k7⟩ := hW; go_simp <;> with_reducible rfl
          · exact fun _ _ _ h => h
          try simp only [Act.put, List.setIfInBounds_toArray, List.set_cons_zero, List.set_cons_succ]
          refine take_do 5 (oi := ?_) (v := ?_) ?_ (by rw [hops.out]; kernel_rfl) ?_ ?_ ?_ (by assumption) ?_
          rotate_left 2
          · rw [hops.out]; simp only [List.getElem?_toArray, List.getElem?_cons_succ, List.getElem?_cons_zero]; rfl
          · rw [hops.out]; kernel_rfl
          · intro W hW; obtain ⟨k1, k2, k3, k4, k5, k6, k7⟩ := hW; go_simp <;> with_reducible rfl
          · exact fun _ _ _ h => h
          try simp only [Act.put, List.setIfInBounds_toArray, List.set_cons_zero, List.set_cons_succ]
          refine take_do 6 (oi := ?_) (v := ?_) ?_ (by rw [hops.out]; kernel_rfl) ?_ ?_ ?_ (by assumption) ?_
          rotate_left 2
          · rw [hops.out]; simp only [List.getElem?_toArray, List.getElem?_cons_succ, List.getElem?_cons_zero]; rfl
          · rw [hops.out]; kernel_rfl
          · intro W hW; obtain ⟨k1, k2, k3, k4, k5, k6, k7⟩ := hW; go_simp <;> with_reducible rfl
          · exact fun _ _ _ h => h
          try simp only [Act.put, List.setIfInBounds_toArray, List.set_cons_zero, List.set_cons_succ]
          refine take_do 7 (oi := ?_) (v := ?_) ?_ (by rw [hops.out]; kernel_rfl) ?_ ?_ ?_ (by assumption) ?_
          rotate_left 2
          · rw [hops.out]; simp only [List.getElem?_toArray, List.getElem?_cons_succ, List.getElem?_cons_zero]; rfl
          · rw [hops.out]; kernel_rfl
          · intro W hW; obtain ⟨k1, k2, k3, k4, k5, k6, k7⟩ := hW; go_simp <;> with_reducible rfl
          · exact fun _ _ _ h => h
          try simp only [Act.put, List.setIfInBounds_toArray, List.set_cons_zero, List.set_cons_succ]
          refine take_do 8 (oi := ?_) (v := ?_) ?_ (by rw [hops.out]; kernel_rfl) ?_ ?_ ?_ (by assumption) ?_
          rotate_left 2
          · rw [hops.out]; simp only [List.getElem?_toArray, List.getElem?_cons_succ, List.getElem?_cons_zero]; rfl
          · rw [hops.out]; kernel_rfl
          · intro W hW; obtain ⟨k1, k2, k3, k4, k5, k6, k7⟩ := hW; go_simp <;> with_reducible rfl
          · exact fun _ _ _ h => h
          try simp only [Act.put, List.setIfInBounds_toArray, List.set_cons_zero, List.set_cons_succ]
          refine take_do 9 (oi := ?_) (v := ?_) ?_ (by rw [hops.out]; kernel_rfl) ?_ ?_ ?_ (by assumption) ?_
          rotate_left 2
          · rw [hops.out]; simp only [List.getElem?_toArray, List.getElem?_cons_succ, List.getElem?_cons_zero]; rfl
          · rw [hops.out]; kernel_rfl
          · intro W hW; obtain ⟨k1, k2, k3, k4, k5, k6, k7⟩ := hW; go_simp <;> with_reducible rfl
          · exact fun _ _ _ h => h
          try simp only [Act.put, List.setIfInBounds_toArray, List.set_cons_zero, List.set_cons_succ]
          refine take_do 10 (oi := ?_) (v := ?_) ?_ (by rw [hops.out]; kernel_rfl) ?_ ?_ ?_ (by assumption) ?_
          rotate_left 2
          · rw [hops.out]; simp only [List.getElem?_toArray, List.getElem?_cons_succ, List.getElem?_cons_zero]; rfl
          · rw [hops.out]; kernel_rfl
          · intro W hW; obtain ⟨k1, k2, k3, k4, k5, k6, k7⟩ := hW; go_simp <;> with_reducible rfl
          · exact fun _ _ _ h => h
          try simp only [Act.put, List.setIfInBounds_toArray, List.set_cons_zero, List.set_cons_succ]
          refine take_do 11 (oi := ?_) (v := ?_) ?_ (by rw [hops.out]; kernel_rfl) ?_ ?_ ?_ (by assumption) ?_
          rotate_left 2
          · rw [hops.out]; simp only [List.getElem?_toArray, List.getElem?_cons_succ, List.getElem?_cons_zero]; rfl
          · rw [hops.out]; kernel_rfl
          · intro W hW; obtain ⟨k1, k2, k3, k4, k5, k6, k7⟩ := hW; go_simp <;> with_reducible rfl
          · exact fun _ _ _ h => h
          try simp only [Act.put, List.setIfInBounds_toArray, List.set_cons_zero, List.set_cons_succ]
          refine take_do 12 (oi := ?_) (v := ?_) ?_ (by rw [hops.out]; kernel_rfl) ?_ ?_ ?_ (by assumption) ?_
          rotate_left 2
          · rw [hops.out]; simp only [List.getElem?_toArray, List.getElem?_cons_succ, List.getElem?_cons_zero]; rfl
          · rw [hops.out]; kernel_rfl
          · intro W hW; obtain ⟨k1, k2, k3, k4, k5, k6, k7⟩ := hW; go_simp <;> with_reducible rfl
          · exact fun _ _ _ h => h
          try simp only [Act.put, List.setIfInBounds_toArray, List.set_cons_zero, List.set_cons_succ]
          refine take_do 13 (oi := ?_) (v := ?_) ?_ (by rw [hops.out]; kernel_rfl) ?_ ?_ ?_ (by assumption) ?_
          rotate_left 2
          · rw [hops.out]; simp only [List.getElem?_toArray, List.getElem?_cons_succ, List.getElem?_cons_zero]; rfl
          · rw [hops.out]; kernel_rfl
          · intro W hW; obtain ⟨k1, k2, k3, k4, k5, k6, k7⟩ := hW; go_simp <;> with_reducible rfl
          · exact fun _ _ _ h => h
          try simp only [Act.put, List.setIfInBounds_toArray, List.set_cons_zero, List.set_cons_succ]
          refine take_call 14 (oi := ?_) ?_ (by rw [hops.out]; kernel_rfl) ?_ ?_
          rotate_left 1
          · rw [hops.out]; simp only [List.getElem?_toArray, List.getElem?_cons_succ, List.getElem?_cons_zero]; rfl
          · rw [hops.out]; kernel_rfl
          intro K hK
          go_simp
          refine (HBT.out _).mono ?_
          rintro e w5 ⟨rfl, b5⟩
          have hK5 : w5.cell? ⟨z, t0, none⟩ = some (.pointer (some ⟨kb, 0, none⟩)) ∧ w5.cell? ⟨p0, 0, none⟩ = some (.int .i64 (t0 : Int)) ∧ w5.cell? ⟨p0, 1, none⟩ = some (.int .i64 pc) ∧ w5.cell? ⟨p0, 2, none⟩ = some (.slice pa pl pk) ∧ w5.cell? ⟨kb, 0, none⟩ = some (.int .i64 bt) ∧ w5.cell? ⟨kb, 1, none⟩ = some (.int .i64 bc) ∧ w5.cell? ⟨kb, 2, none⟩ = some (.slice ba bl bk) := by
            refine ⟨?_, ?_, ?_, ?_, ?_, ?_, ?_⟩
            · rw [b5.cell lz4]; exact hS0.1
            · rw [b5.cell lp4]; exact hS0.2.1
            · rw [b5.cell lp4]; exact hS0.2.2.1
            · rw [b5.cell lp4]; exact hS0.2.2.2.1
            · rw [b5.cell lb4]; exact hS0.2.2.2.2.1
            · rw [b5.cell lb4]; exact hS0.2.2.2.2.2.1
            · rw [b5.cell lb4]; exact hS0.2.2.2.2.2.2
          refine hK.out _ _ hK5 (fun _ => ?_)
          clear hK K
          try simp only [Act.put, List.setIfInBounds_toArray, List.set_cons_zero, List.set_cons_succ]
          refine wpAnyH_done (by rw [hops.out]; kernel_rfl) ?_ _
          clear hops ops
          refine NoPanic.normal ?_
          have hcc : bc < pc := by rw [HBC.out, HPC.out, HXB.out, HXP.out]; exact hst
          rw [decide_eq_true hcc]
          have fs5 := FS2.out.below ((bdr1 w2).trans b5)
          have HNX := hide (show GO w5 lo z L src (7 * (6 - cardF F) + m) from ⟨u', m, q', bp, wd, wv, F, c, hh, fs5, HGI.out.stale HSH.out HTO.out HBP.out hst, HIV.out, HBN.out, rfl⟩)
          have B5 : Below lo W w5 := ba2.trans (((bdr1 w2).trans b5).mono hlo2)
          go_wp2
          go_step3
          (try simp only [Exit.then, Exit.jump])
          refine ⟨rfl, ?_⟩
          go_wp2
          go_roundw
          case rel => exact ⟨trivial, ⟨_, HNX.out, by omega⟩, B5⟩
          case measure =>
            have h1 := leastM_le HNX.out
            have h2 := HM.out
            omega
      · go_step3
        go_wp2_with fail
        refine HPOP.out.mono ?_
        rintro e w2 ⟨u', q', rfl, hip, hsh, hb', fk⟩
        rw [finC_next] at hb'
        have fs2 := HFS.out.popped fk hb' hip
        have ba2 : Below lo W w2 := hba.trans fk.below
        have hlo2 := fs2.size
        have hw0 := HFS.out.hb.hq.way 0 (by omega)
        have hp2 := (fk.typed _ _ _ _ hw0 (by decide) (fun e => by rw [e, HFS.out.hb.box] at hw0; simp at hw0)).trans hw0
        obtain ⟨pa, pl, pk, hpv⟩ := HFS.out.hb.hq.sl 0 (by omega)
        have hk2 := (fs2.way t0 kb hbp).1
        obtain ⟨ba, bk, hbv⟩ := owns_lenS (fs2.row t0 kb hbp)
        have kz := fs2.known ht0
        rw [hbp] at kz
        unfold ptrO at kz
        rw [hpv] at hp2
        rw [hbv] at hk2
        obtain ⟨p0, hp0⟩ : ∃ p, p = q 0 := ⟨_, rfl⟩
        obtain ⟨xp, hxp⟩ : ∃ x, x = wd (q 0) := ⟨_, rfl⟩
        obtain ⟨xb, hxb⟩ : ∃ x, x = wd kb := ⟨_, rfl⟩
        have HBT := hide (fun V => ibetter_any (.slice ba (wd kb).hops.length bk) (.slice pa pl pk) (wd kb) (wd (q 0)) V)
        rw [← hxp, ← hxb] at HBT
        rw [← hxp] at hp2
        rw [← hxb] at hk2
        rw [← hp0] at hp2 ⊢
        obtain ⟨bl, hbl⟩ : ∃ l, l = xb.hops.length := ⟨_, rfl⟩
        rw [← hbl] at hk2 HBT
        have hwp : wayC xp (.slice pa pl pk) = #[.int .i64 (t0 : Int), .int .i64 xp.cost, .slice pa pl pk] := by unfold wayC; rw [hxp, hto]
        rw [hwp] at hp2 HBT
        unfold wayC betterB at HBT
        unfold wayC at hk2
        obtain ⟨pc, hpc⟩ : ∃ c, c = xp.cost := ⟨_, rfl⟩
        obtain ⟨bt, hbt⟩ : ∃ c, c = xb.to := ⟨_, rfl⟩
        obtain ⟨bc, hbc⟩ : ∃ c, c = xb.cost := ⟨_, rfl⟩
        rw [← hpc] at hp2 HBT
        rw [← hbt, ← hbc] at hk2 HBT
        have lp2 := lt_of_heap hp2
        have lb2 := lt_of_heap hk2
        have lz2 := lt_of_heap fs2.hb.box
        have s1 := cells_at hp2 0
        have s2 := cells_at hp2 1
        have s3 := cells_at hp2 2
        have s4 := cells_at hk2 0
        have s5 := cells_at hk2 1
        have s6 := cells_at hk2 2
        simp at s1 s2 s3 s4 s5 s6
        have hti : (0 : Int) ≤ (t0 : Int) := by omega
        have htj : (t0 : Int) < 7 := by omega
        have FS2 := hide fs2
        have HSH := hide hsh
        have HP0 := hide hp0
        have HXP := hide hxp
        have HXB := hide hxb
        have HPC := hide hpc
        have HBC := hide hbc
        have HP2 := hide hp2
        have HTO := hide hto
        have HBP := hide hbp
        have HEN := hide hent
        clear fs2 hsh hp0 hxp hxb hpc hbt hbc hbl hp2 hk2 hw0 fk hb' hip hpv hbv hwp hto hbp hent HPOP cz
        go_wp2
        refine wp_region_noPanic ?_
        have hS0 : w2.drew.cell? ⟨z, t0, none⟩ = some (.pointer (some ⟨kb, 0, none⟩)) ∧ w2.drew.cell? ⟨p0, 0, none⟩ = some (.int .i64 (t0 : Int)) ∧ w2.drew.cell? ⟨p0, 1, none⟩ = some (.int .i64 pc) ∧ w2.drew.cell? ⟨p0, 2, none⟩ = some (.slice pa pl pk) ∧ w2.drew.cell? ⟨kb, 0, none⟩ = some (.int .i64 bt) ∧ w2.drew.cell? ⟨kb, 1, none⟩ = some (.int .i64 bc) ∧ w2.drew.cell? ⟨kb, 2, none⟩ = some (.slice ba bl bk) := ⟨kz, s1, s2, s3, s4, s5, s6⟩
        have lz4 : z < w2.drew.heap.size := lz2
        have lp4 : p0 < w2.drew.heap.size := lp2
        have lb4 : kb < w2.drew.heap.size := lb2
        refine wp_region_start (S := fun W => W.cell? ⟨z, t0, none⟩ = some (.pointer (some ⟨kb, 0, none⟩)) ∧ W.cell? ⟨p0, 0, none⟩ = some (.int .i64 (t0 : Int)) ∧ W.cell? ⟨p0, 1, none⟩ = some (.int .i64 pc) ∧ W.cell? ⟨p0, 2, none⟩ = some (.slice pa pl pk) ∧ W.cell? ⟨kb, 0, none⟩ = some (.int .i64 bt) ∧ W.cell? ⟨kb, 1, none⟩ = some (.int .i64 bc) ∧ W.cell? ⟨kb, 2, none⟩ = some (.slice ba bl bk)) (by kernel_rfl) 15 rfl hS0 ?_
        intro ops hops _
        show wpAnyH Tryz.prog .any ops _ _ 15 #[false, false, false, false, false, false, false, false, false, false, false, false, false, false, false] _ w2.drew
        refine take_do 0 (oi := ?_) (v := ?_) ?_ (by rw [hops.out]; kernel_rfl) ?_ ?_ ?_ (by assumption) ?_
        rotate_left 2
        · rw [hops.out]; simp only [List.getElem?_toArray, List.getElem?_cons_succ, List.getElem?_cons_zero]; rfl
        · rw [hops.out]; kernel_rfl
        · intro W hW; obtain ⟨k1, k2, k3, k4, k5, k6, k7⟩ := hW; go_simp <;> with_reducible rfl
        · exact fun _ _ _ h => h
        try simp only [Act.put, List.setIfInBounds_toArray, List.set_cons_zero, List.set_cons_succ]
        refine take_do 1 (oi := ?_) (v := ?_) ?_ (by rw [hops.out]; kernel_rfl) ?_ ?_ ?_ (by assumption) ?_
        rotate_left 2
        · rw [hops.out]; simp only [List.getElem?_toArray, List.getElem?_cons_succ, List.getElem?_cons_zero]; rfl
        · rw [hops.out]; kernel_rfl
        · intro W hW; obtain ⟨k1, k2, k3, k4, k5, k6, k7⟩ := hW; go_simp <;> with_reducible rfl
        · exact fun _ _ _ h => h
        try simp only [Act.put, List.setIfInBounds_toArray, List.set_cons_zero, List.set_cons_succ]
        refine take_do 2 (oi := ?_) (v := ?_) ?_ (by rw [hops.out]; kernel_rfl) ?_ ?_ ?_ (by assumption) ?_
        rotate_left 2
        · rw [hops.out]; simp only [List.getElem?_toArray, List.getElem?_cons_succ, List.getElem?_cons_zero]; rfl
        · rw [hops.out]; kernel_rfl
        · intro W hW; obtain ⟨k1, k2, k3, k4, k5, k6, k7⟩ := hW; go_simp <;> with_reducible rfl
        · exact fun _ _ _ h => h
        try simp only [Act.put, List.setIfInBounds_toArray, List.set_cons_zero, List.set_cons_succ]
        refine take_do 3 (oi := ?_) (v := ?_) ?_ (by rw [hops.out]; kernel_rfl) ?_ ?_ ?_ (by assumption) ?_
        rotate_left 2
        · rw [hops.out]; simp only [List.getElem?_toArray, List.getElem?_cons_succ, List.getElem?_cons_zero]; rfl
        · rw [hops.out]; kernel_rfl
        · intro W hW; obtain ⟨k1, k2, k3, k4, k5, k6, k7⟩ := hW; go_simp <;> with_reducible rfl
        · exact fun _ _ _ h => h
        try simp only [Act.put, List.setIfInBounds_toArray, List.set_cons_zero, List.set_cons_succ]
        refine take_do 4 (oi := ?_) (v := ?_) ?_ (by rw [hops.out]; kernel_rfl) ?_ ?_ ?_ (by assumption) ?_
        rotate_left 2
        · rw [hops.out]; simp only [List.getElem?_toArray, List.getElem?_cons_succ, List.getElem?_cons_zero]; rfl
        · rw [hops.out]; kernel_rfl
        · intro W hW; obtain ⟨k1, k2, k3, k4, k5, k6, k7⟩ := hW; go_simp <;> with_reducible rfl
        · exact fun _ _ _ h => h
        try simp only [Act.put, List.setIfInBounds_toArray, List.set_cons_zero, List.set_cons_succ]
        refine take_do 5 (oi := ?_) (v := ?_) ?_ (by rw [hops.out]; kernel_rfl) ?_ ?_ ?_ (by assumption) ?_
        rotate_left 2
        · rw [hops.out]; simp only [List.getElem?_toArray, List.getElem?_cons_succ, List.getElem?_cons_zero]; rfl
        · rw [hops.out]; kernel_rfl
        · intro W hW; obtain ⟨k1, k2, k3, k4, k5, k6, k7⟩ := hW; go_simp <;> with_reducible rfl
        · exact fun _ _ _ h => h
        try simp only [Act.put, List.setIfInBounds_toArray, List.set_cons_zero, List.set_cons_succ]
        refine take_do 6 (oi := ?_) (v := ?_) ?_ (by rw [hops.out]; kernel_rfl) ?_ ?_ ?_ (by assumption) ?_
        rotate_left 2
        · rw [hops.out]; simp only [List.getElem?_toArray, List.getElem?_cons_succ, List.getElem?_cons_zero]; rfl
        · rw [hops.out]; kernel_rfl
        · intro W hW; obtain ⟨k1, k2, k3, k4, k5, k6, k7⟩ := hW; go_simp <;> with_reducible rfl
        · exact fun _ _ _ h => h
        try simp only [Act.put, List.setIfInBounds_toArray, List.set_cons_zero, List.set_cons_succ]
        refine take_do 7 (oi := ?_) (v := ?_) ?_ (by rw [hops.out]; kernel_rfl) ?_ ?_ ?_ (by assumption) ?_
        rotate_left 2
        · rw [hops.out]; simp only [List.getElem?_toArray, List.getElem?_cons_succ, List.getElem?_cons_zero]; rfl
        · rw [hops.out]; kernel_rfl
        · intro W hW; obtain ⟨k1, k2, k3, k4, k5, k6, k7⟩ := hW; go_simp <;> with_reducible rfl
        · exact fun _ _ _ h => h
        try simp only [Act.put, List.setIfInBounds_toArray, List.set_cons_zero, List.set_cons_succ]
        refine take_do 8 (oi := ?_) (v := ?_) ?_ (by rw [hops.out]; kernel_rfl) ?_ ?_ ?_ (by assumption) ?_
        rotate_left 2
        · rw [hops.out]; simp only [List.getElem?_toArray, List.getElem?_cons_succ, List.getElem?_cons_zero]; rfl
        · rw [hops.out]; kernel_rfl
        · intro W hW; obtain ⟨k1, k2, k3, k4, k5, k6, k7⟩ := hW; go_simp <;> with_reducible rfl
        · exact fun _ _ _ h => h
        try simp only [Act.put, List.setIfInBounds_toArray, List.set_cons_zero, List.set_cons_succ]
        refine take_do 9 (oi := ?_) (v := ?_) ?_ (by rw [hops.out]; kernel_rfl) ?_ ?_ ?_ (by assumption) ?_
        rotate_left 2
        · rw [hops.out]; simp only [List.getElem?_toArray, List.getElem?_cons_succ, List.getElem?_cons_zero]; rfl
        · rw [hops.out]; kernel_rfl
        · intro W hW; obtain ⟨k1, k2, k3, k4, k5, k6, k7⟩ := hW; go_simp <;> with_reducible rfl
        · exact fun _ _ _ h => h
        try simp only [Act.put, List.setIfInBounds_toArray, List.set_cons_zero, List.set_cons_succ]
        refine take_do 10 (oi := ?_) (v := ?_) ?_ (by rw [hops.out]; kernel_rfl) ?_ ?_ ?_ (by assumption) ?_
        rotate_left 2
        · rw [hops.out]; simp only [List.getElem?_toArray, List.getElem?_cons_succ, List.getElem?_cons_zero]; rfl
        · rw [hops.out]; kernel_rfl
        · intro W hW; obtain ⟨k1, k2, k3, k4, k5, k6, k7⟩ := hW; go_simp <;> with_reducible rfl
        · exact fun _ _ _ h => h
        try simp only [Act.put, List.setIfInBounds_toArray, List.set_cons_zero, List.set_cons_succ]
        refine take_do 11 (oi := ?_) (v := ?_) ?_ (by rw [hops.out]; kernel_rfl) ?_ ?_ ?_ (by assumption) ?_
        rotate_left 2
        · rw [hops.out]; simp only [List.getElem?_toArray, List.getElem?_cons_succ, List.getElem?_cons_zero]; rfl
        · rw [hops.out]; kernel_rfl
        · intro W hW; obtain ⟨k1, k2, k3, k4, k5, k6, k7⟩ := hW; go_simp <;> with_reducible rfl
        · exact fun _ _ _ h => h
        try simp only [Act.put, List.setIfInBounds_toArray, List.set_cons_zero, List.set_cons_succ]
        refine take_do 12 (oi := ?_) (v := ?_) ?_ (by rw [hops.out]; kernel_rfl) ?_ ?_ ?_ (by assumption) ?_
        rotate_left 2
        · rw [hops.out]; simp only [List.getElem?_toArray, List.getElem?_cons_succ, List.getElem?_cons_zero]; rfl
        · rw [hops.out]; kernel_rfl
        · intro W hW; obtain ⟨k1, k2, k3, k4, k5, k6, k7⟩ := hW; go_simp <;> with_reducible rfl
        · exact fun _ _ _ h => h
        try simp only [Act.put, List.setIfInBounds_toArray, List.set_cons_zero, List.set_cons_succ]
        refine take_do 13 (oi := ?_) (v := ?_) ?_ (by rw [hops.out]; kernel_rfl) ?_ ?_ ?_ (by assumption) ?_
        rotate_left 2
        · rw [hops.out]; simp only [List.getElem?_toArray, List.getElem?_cons_succ, List.getElem?_cons_zero]; rfl
        · rw [hops.out]; kernel_rfl
        · intro W hW; obtain ⟨k1, k2, k3, k4, k5, k6, k7⟩ := hW; go_simp <;> with_reducible rfl
        · exact fun _ _ _ h => h
        try simp only [Act.put, List.setIfInBounds_toArray, List.set_cons_zero, List.set_cons_succ]
        refine take_call 14 (oi := ?_) ?_ (by rw [hops.out]; kernel_rfl) ?_ ?_
        rotate_left 1
        · rw [hops.out]; simp only [List.getElem?_toArray, List.getElem?_cons_succ, List.getElem?_cons_zero]; rfl
        · rw [hops.out]; kernel_rfl
        intro K hK
        go_simp
        refine (HBT.out _).mono ?_
        rintro e w5 ⟨rfl, b5⟩
        have hK5 : w5.cell? ⟨z, t0, none⟩ = some (.pointer (some ⟨kb, 0, none⟩)) ∧ w5.cell? ⟨p0, 0, none⟩ = some (.int .i64 (t0 : Int)) ∧ w5.cell? ⟨p0, 1, none⟩ = some (.int .i64 pc) ∧ w5.cell? ⟨p0, 2, none⟩ = some (.slice pa pl pk) ∧ w5.cell? ⟨kb, 0, none⟩ = some (.int .i64 bt) ∧ w5.cell? ⟨kb, 1, none⟩ = some (.int .i64 bc) ∧ w5.cell? ⟨kb, 2, none⟩ = some (.slice ba bl bk) := by
          refine ⟨?_, ?_, ?_, ?_, ?_, ?_, ?_⟩
          · rw [b5.cell lz4]; exact hS0.1
          · rw [b5.cell lp4]; exact hS0.2.1
          · rw [b5.cell lp4]; exact hS0.2.2.1
          · rw [b5.cell lp4]; exact hS0.2.2.2.1
          · rw [b5.cell lb4]; exact hS0.2.2.2.2.1
          · rw [b5.cell lb4]; exact hS0.2.2.2.2.2.1
          · rw [b5.cell lb4]; exact hS0.2.2.2.2.2.2
        refine hK.out _ _ hK5 (fun _ => ?_)
        clear hK K
        try simp only [Act.put, List.setIfInBounds_toArray, List.set_cons_zero, List.set_cons_succ]
        refine wpAnyH_done (by rw [hops.out]; kernel_rfl) ?_ _
        clear hops ops
        refine NoPanic.normal ?_
        have hcc : ¬ bc < pc := by rw [HBC.out, HPC.out, HXB.out, HXP.out]; omega
        rw [decide_eq_false hcc]
        have fs5 := FS2.out.below ((bdr1 w2).trans b5)
        have B5 : Below lo W w5 := ba2.trans (((bdr1 w2).trans b5).mono hlo2)
        obtain ⟨gi5, hq0, hFt, hct, hcost, hhops, hmin⟩ := HGI.out.fresh HSH.out HFS.out.hp HTO.out HBP.out (by omega)
        have hpk : p0 = kb := by rw [HP0.out]; exact hq0
        have hbp0 : bp t0 = some p0 := by rw [hpk]; exact HBP.out
        have HGI5 := hide gi5
        have HFS5 := hide fs5
        have HFT := hide hFt
        have HCT := hide hct
        have HMIN := hide hmin
        have hcb := HBN.out t0
        have hcard : cardF F ≤ 5 := by
          have h1 := card_add (F := F) (u := t0) ht0 hFt
          have h2 := card_le (fun v => F v || v == t0)
          omega
        have hc5 : c t0 ≤ 5000 := by omega
        have HBP0 := hide hbp0
        clear gi5 fs5 hFt hct hmin hq0 hpk hbp0 hcost hhops HFS FS2 HP2 HBT hK5 hS0 kz s1 s2 s3 s4 s5 s6 HP0 HXP HXB HPC HBC HSH HTO HBP HEN hcc hst b5
        go_wp2
        go_loopw [7] (fun i wr => ∃ (t : Nat) (u : Value) (n : Nat) (q : Nat → Nat) (bp : Nat → Option Nat) (wd : Nat → WayD) (wv : Nat → Value), 1 ≤ t ∧ t ≤ 7 ∧ i = .int .i64 (t : Int) ∧ Hid (FS wr lo z u n q bp wd wv) ∧ Hid (GI (fun x => F x || x == t0) (mixC L c t0 t) (mixH L src c hh t0 t) n q bp wd) ∧ Hid (bp t0 = some p0) ∧ n + 1 ≤ m + t ∧ Below lo W wr) (fun i _ => 8 - (intOf i).toNat)
        case atStart => exact ⟨1, _, m, q', bp, wd, wv, by omega, by omega, rfl, HFS5, hide (by rw [mixC_one HLL.out, mixH_one HLL.out]; exact HGI5.out), HBP0, by omega, B5⟩
        case round =>
          rename World => wr
          clear HFS5 HGI5 HBP0
          obtain ⟨t, u2, n2, q2, bp2, wd2, wv2, ht1, ht7, rfl, HF2, HG2, HB2, hn2, hbr⟩ := hrel
          by_cases htl : t < 7
          · have ht6 : (t : Int) ≤ 6 := by omega
            have ht : 1 ≤ t ∧ t ≤ 6 := by omega
            have hw := (HF2.out.way t0 p0 HB2.out).1
            have hto2 := HF2.out.to t0 p0 HB2.out
            have hrow2 := HF2.out.row t0 p0 HB2.out
            obtain ⟨xa, xc, hxv⟩ := owns_lenS hrow2
            have hcx : (wd2 p0).cost = c t0 := by
              have h1 := HG2.out.cc t0
              rw [cOf_some HB2.out, mixC_at HCT.out] at h1
              exact h1
            have hhx : (wd2 p0).hops = hh t0 := by
              have h1 := HG2.out.hh t0
              rw [hOf_some HB2.out, mixH_at HCT.out] at h1
              exact h1
            have hxl := HF2.out.short t0 p0 HB2.out
            obtain ⟨x, hx⟩ : ∃ x, x = wd2 p0 := ⟨_, rfl⟩
            rw [hxv, ← hx] at hw hrow2
            rw [← hx] at hto2 hcx hhx hxl
            have hwx : wayC x (.slice xa x.hops.length xc) = #[.int .i64 (t0 : Int), .int .i64 x.cost, .slice xa x.hops.length xc] := by unfold wayC; rw [hto2]
            rw [hwx] at hw
            have e0 := cells_at hw 0
            simp at e0
            have hlr := HF2.out.size
            have lpr := lt_of_heap hw
            have HLI2 := hide (HLI.out wr hbr t0 t ht0 ht hlr)
            have hl0 := HLL.out.pos t0 t
            have hl1 := HLL.out.le t0 t
            obtain ⟨lk, hlk⟩ : ∃ l, l = L t0 t := ⟨_, rfl⟩
            rw [← hlk] at HLI2 hl0 hl1
            have HLK := hide hlk
            have HW := hide hw
            have HROW := hide hrow2
            have HCX := hide hcx
            have HHX := hide hhx
            have HX := hide hx
            have HWX := hide hwx
            have HTO2 := hide hto2
            clear hlk hw hrow2 hcx hhx hx hwx hxv hto2
            by_cases hlz : lk = 0
            · subst hlz
              have HG3 := hide (relax_skip (by rw [← HLK.out]; omega) HG2.out)
              go_wp2_with fail
              refine HLI2.out.mono ?_
              rintro e w6 ⟨rfl, b6⟩
              have FS6 := hide (HF2.out.below b6)
              have B6 : Below lo W w6 := hbr.trans (b6.mono hlr)
              clear b6
              go_wp2
              go_roundw
              case rel => exact ⟨t + 1, u2, n2, q2, bp2, wd2, wv2, by omega, by omega, by go_num, FS6, HG3, HB2, by omega, B6⟩
              case measure => simp [intOf]; omega
            · have hlp : 0 < lk := by omega
              have hlp2 : lk > 0 := hlp
              have HY := hide (onw_hops HIV.out HCT.out HHX.out lk (t := t))
              go_wp2_with fail
              refine HLI2.out.mono ?_
              rintro e w6 ⟨rfl, b6⟩
              have fs6 := HF2.out.below b6
              have B6 : Below lo W w6 := hbr.trans (b6.mono hlr)
              have hw6 := (b6.block _ lpr).trans HW.out
              have g0 := cells_at hw6 0
              have g1 := cells_at hw6 1
              have g2 := cells_at hw6 2
              simp at g0 g1 g2
              rw [HCX.out] at g1
              have hon := onward_any x (.slice xa x.hops.length xc) lo (t : Int) lk w6 (owns_below HROW.out b6 (Nat.le_refl _)) (by omega) (by rw [HCX.out]; have := HCT.out; omega) (by rw [HCX.out]; omega)
              rw [HWX.out, HY.out, HCX.out] at hon
              have HON := hide hon
              have HFS6 := hide fs6
              clear hon fs6 b6 hw6
              go_wp2_with fail
              refine HON.out.mono ?_
              rintro e w7 ⟨v7, rfl, ho7, b7⟩
              have fs7 := HFS6.out.below b7
              have B7 : Below lo W w7 := B6.trans (b7.mono HFS6.out.size)
              have hl67 := b7.size
              have hfr : ∀ v' k' b, bp2 v' = some k' → (wv2 k').ownBlock = some b → v7.ownBlock ≠ some b := by
                intro v' k' b e1 e2 e3
                have h1 := ((HFS6.out.row v' k' e1).lt b e2).2
                have h2 := (ho7.lt b e3).1
                omega
              have hjl : ∀ kn, bp2 t = some kn → ¬ c t0 + lk < (wd2 kn).cost → (togI (wd2 kn) ⟨(t : Int), c t0 + lk, wayL src hh t0 t⟩).hops.length ≤ 6 ∧ (togI (wd2 kn) ⟨(t : Int), c t0 + lk, wayL src hh t0 t⟩).cost = (wd2 kn).cost ∧ (togI (wd2 kn) ⟨(t : Int), c t0 + lk, wayL src hh t0 t⟩).to = (wd2 kn).to := by
                intro kn e1 e2
                rw [HLK.out] at e2 ⊢
                obtain ⟨j1, _, j3, j4⟩ := join_ok HIV.out (by rw [← HLK.out]; exact hlp) ht HG2.out e1 e2
                exact ⟨by rw [j1]; exact relax_len HIV.out HLL.out HCT.out, j3, j4⟩
              have HFO := hide (found_any w7 lo z u2 n2 q2 bp2 wd2 wv2 t ⟨(t : Int), c t0 + lk, wayL src hh t0 t⟩ v7 fs7 (by omega) ht rfl (owns_baseS ho7 HFS6.out.size) (way_len HIV.out ht) hfr hjl)
              obtain ⟨na, nc, hv7⟩ := owns_lenS ho7
              have hkq : ∀ i, i < n2 → q2 i ≠ w7.heap.size := fun i hi e => by have := lt_of_heap (fs7.hb.hq.way i hi); omega
              have hkb : ∀ v, bp2 v ≠ some w7.heap.size := fun v e => by have := lt_of_heap (fs7.way v _ e).1; omega
              have hp7 : p0 ≠ w7.heap.size := fun e => hkb t0 (by rw [HB2.out, e])
              have HKQ := hide hkq
              have HKB := hide hkb
              rw [hv7]
              rw [hv7] at HFO
              clear fs7 hfr hjl ho7 b7 hkq hkb hv7
              go_wp2_with fail
              refine HFO.out.mono ?_
              rintro e w8 ⟨rfl, b8, hcs⟩
              have B8 : Below lo W w8 := B7.trans b8
              rcases hcs with ⟨hcase, u3, q3, fs8, hsh8⟩ | ⟨kn, vy, e1, e2, fs8⟩
              · have HG8 := hide (relax_push HIV.out HFT.out HCT.out (by rw [← HLK.out]; exact hlp) ht HG2.out (by rw [← HLK.out]; exact hcase) HKQ.out HKB.out hsh8)
                rw [← HLK.out] at HG8
                have HFS8 := hide fs8
                have HB8 := hide (show upd bp2 t (some w7.heap.size) t0 = some p0 by
                  rw [upd_other]
                  · exact HB2.out
                  · intro e
                    subst e
                    have hcc := HCT.out
                    have hx1 := HG2.out.cc t0
                    rw [mixC_next] at hx1
                    rcases hcase with e3 | ⟨kn, e3, e4⟩
                    · rw [HB2.out] at e3; cases e3
                    · rw [cOf_some e3] at hx1
                      have e5 : c t0 + lk < (wd2 kn).cost := e4
                      omega)
                clear fs8 hsh8 hcase
                go_wp2
                go_roundw
                case rel => exact ⟨t + 1, u3, n2 + 1, q3, _, _, _, by omega, by omega, by go_num, HFS8, HG8, HB8, by omega, B8⟩
                case measure => simp [intOf]; omega
              · have HG8 := hide (relax_join HIV.out (by rw [← HLK.out]; exact hlp) ht HG2.out e1 (by rw [← HLK.out]; exact e2))
                rw [← HLK.out] at HG8
                have HFS8 := hide fs8
                clear fs8 e1 e2
                go_wp2
                go_roundw
                case rel => exact ⟨t + 1, u2, n2, q2, bp2, _, _, by omega, by omega, by go_num, HFS8, HG8, HB2, by omega, B8⟩
                case measure => simp [intOf]; omega
          · have ht6 : ¬ (t : Int) ≤ 6 := by omega
            have htt : t = 7 := by omega
            subst htt
            have hg9 := HG2.out
            rw [mixC_all HLL.out, mixH_all HLL.out] at hg9
            have iv9 := HIV.out.step HLL.out HFT.out HCT.out HMIN.out (fun v => relaxL_spec HIV.out HLL.out HCT.out v)
            have hcard9 : cardF (fun v => F v || v == t0) = cardF F + 1 := card_add ht0 HFT.out
            have HNX := hide (show GO wr lo z L src (7 * (6 - cardF (fun v => F v || v == t0)) + n2) from ⟨u2, n2, q2, bp2, wd2, wv2, _, _, _, HF2.out, hg9, iv9, fun v => by
              rw [hcard9]
              have h1 := relaxC_bound (L := L) (u := t0) (v := v) HBN.out HLL.out.le
              omega, rfl⟩)
            rw [hcard9] at HNX
            clear hg9 iv9 hcard9
            go_wp2
            go_step3
            rw [Exit.noGoto_normal]
            go_wp2
            go_roundw
            case rel => exact ⟨trivial, ⟨_, HNX.out, by omega⟩, hbr⟩
            case measure =>
              have h1 := leastM_le HNX.out
              have h2 := HM.out
              omega
end Go.Proofs.YtdaigojpeofmpaaGreat
