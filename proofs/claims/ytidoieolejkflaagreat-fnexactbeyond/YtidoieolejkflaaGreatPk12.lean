/-
  Lists of ways, each with a row of its own.
  laws.szWayS, toWayS, eqWayS: their contracts.
  laws.markWayS, heldWayS: only the list's own memory turns; what was marked is held.
  How many nodes are done; what the end of a search tells, as a list of ways.
-/
import Derived.Test.YtidoieolejkflaaGreatPk3
import Derived.Test.YtidoieolejkflaaGreatPk7
import Derived.Test.YtidoieolejkflaaGreatPk4
import Derived.Test.YtidoieolejkflaaGreatPk11
namespace Go.Proofs.YtidoieolejkflaaGreat
open Go.RowKit

/-- a way, and the value of its row -/
abbrev WP := WayD × Value

def encW (p : WP) : List Value := [.int .i64 p.1.to, .int .i64 p.1.cost, p.2]

def zeroWD : WayD := ⟨0, 0, []⟩

def zW : WP := (zeroWD, .slice none 0 0)

theorem encW_len (p : WP) : (encW p).length = 3 := rfl

/-- a list to read: its cells, and each record's row, below B -/
def WaysAt (W : World) (v : Value) (ps : List WP) (B : Nat) : Prop := StructsAt encW 3 W v ps B ∧ ∀ p ∈ ps, HopsAt W p.2 p.1.hops B

theorem WaysAt.shape {W : World} {v : Value} {ps : List WP} {B : Nat} (h : WaysAt W v ps B) : ∃ a cap, v = .slice a ps.length cap := by
  obtain ⟨⟨a, cap, h, _⟩, _⟩ := h
  exact ⟨a, cap, h⟩

theorem WaysAt.later {W W' : World} {v : Value} {ps : List WP} {B C : Nat} (h : WaysAt W v ps B) (hb : Below C W W') (hBC : B ≤ C) : WaysAt W' v ps B :=
  ⟨RowAt.later h.1 hb hBC, fun p hp => RowAt.later (h.2 p hp) hb hBC⟩

theorem WaysAt.more {W : World} {v : Value} {ps : List WP} {B C : Nat} (h : WaysAt W v ps B) (hBC : B ≤ C) : WaysAt W v ps C :=
  ⟨RowAt.more h.1 hBC, fun p hp => RowAt.more (h.2 p hp) hBC⟩

theorem WaysAt.then {W W' : World} {v : Value} {ps : List WP} (h : WaysAt W v ps W.heap.size) (hb : Below W.heap.size W W') : WaysAt W' v ps W'.heap.size := (h.later hb (Nat.le_refl _)).more hb.size

/-- its row is the caller's own, in blocks of lo .. hi -/
def HopOwn (W : World) (lo hi : Nat) (p : WP) : Prop := W.ownsRow lo 3 1 p.2 p.1.hops.length (flat intE p.1.hops) ∧ ∀ k, p.2.ownBlock = some k → k < hi

def ApartW (p q : WP) : Prop := ∀ k, p.2.ownBlock = some k → q.2.ownBlock ≠ some k

/-- a list of the caller's own: its row and those of its records, no two in one block, all in blocks of lo .. hi -/
structure WaysOwn (W : World) (lo hi : Nat) (v : Value) (ps : List WP) : Prop where
  row : W.ownsRow lo 46 3 v ps.length (flat encW ps)
  top : ∀ k, v.ownBlock = some k → k < hi
  nears : ∀ p ∈ ps, HopOwn W lo hi p
  apart : ps.Pairwise ApartW

theorem HopOwn.keep {W W' : World} {lo hi : Nat} {p : WP} (h : HopOwn W lo hi p) (hk : ∀ k, lo ≤ k → k < hi → k < W.heap.size → W'.heap[k]? = W.heap[k]?) : HopOwn W' lo hi p :=
  ⟨owns_keepB h.1 (fun k e => hk k (h.1.lt k e).1 (h.2 k e) (h.1.lt k e).2), h.2⟩

theorem HopOwn.wide {W : World} {lo hi lo' hi' : Nat} {p : WP} (h : HopOwn W lo hi p) (hl : lo' ≤ lo) (hh : hi ≤ hi') : HopOwn W lo' hi' p :=
  ⟨owns_baseS h.1 hl, fun k e => Nat.lt_of_lt_of_le (h.2 k e) hh⟩

theorem HopOwn.at {W : World} {lo hi : Nat} {p : WP} (h : HopOwn W lo hi p) : HopsAt W p.2 p.1.hops hi := by
  have h1 := owns_rowAt h.1
  obtain ⟨a, cap, hv, h2⟩ := h1
  refine ⟨a, cap, hv, ?_⟩
  rcases h2 with h0 | ⟨b, off, ha, hb1, hx⟩
  · exact .inl h0
  · exact .inr ⟨b, off, ha, h.2 b (by rw [hv, ha]; rfl), hx⟩

theorem WaysOwn.keep {W W' : World} {lo hi : Nat} {v : Value} {ps : List WP} (h : WaysOwn W lo hi v ps) (hk : ∀ k, lo ≤ k → k < hi → k < W.heap.size → W'.heap[k]? = W.heap[k]?) : WaysOwn W' lo hi v ps where
  row := owns_keepB h.row (fun k e => hk k (h.row.lt k e).1 (h.top k e) (h.row.lt k e).2)
  top := h.top
  nears := fun p hp => (h.nears p hp).keep hk
  apart := h.apart

theorem WaysOwn.below {W W' : World} {lo hi B : Nat} {v : Value} {ps : List WP} (h : WaysOwn W lo hi v ps) (hb : Below B W W') (hB : hi ≤ B) : WaysOwn W' lo hi v ps := h.keep (fun k _ h2 _ => hb.block k (by omega))

theorem WaysOwn.wide {W : World} {lo hi lo' hi' : Nat} {v : Value} {ps : List WP} (h : WaysOwn W lo hi v ps) (hl : lo' ≤ lo) (hh : hi ≤ hi') : WaysOwn W lo' hi' v ps where
  row := owns_baseS h.row hl
  top := fun k e => Nat.lt_of_lt_of_le (h.top k e) hh
  nears := fun p hp => (h.nears p hp).wide hl hh
  apart := h.apart

theorem WaysOwn.at {W : World} {lo hi : Nat} {v : Value} {ps : List WP} (h : WaysOwn W lo hi v ps) : WaysAt W v ps hi := by
  refine ⟨?_, fun p hp => (h.nears p hp).at⟩
  have h1 := owns_rowAt h.row
  obtain ⟨a, cap, hv, h2⟩ := h1
  refine ⟨a, cap, hv, ?_⟩
  rcases h2 with h0 | ⟨b, off, ha, hb1, hx⟩
  · exact .inl h0
  · exact .inr ⟨b, off, ha, h.top b (by rw [hv, ha]; rfl), hx⟩

theorem WaysOwn.frame {W W' : World} {lo hi l2 h2 : Nat} {v : Value} {ps : List WP} (h : WaysOwn W lo hi v ps) (hb : Frame l2 h2 W W') (hB : hi ≤ l2 ∨ h2 ≤ lo) : WaysOwn W' lo hi v ps := h.keep (fun k h1 h2 h3 => hb.block k h3 (by omega))

/-- near rows of new records are behind all that was there -/
theorem apartW_add {W : World} {lo hi : Nat} {ps : List WP} {p : WP} (h : ps.Pairwise ApartW) (hn : ∀ q ∈ ps, HopOwn W lo hi q) (hp : ∀ k, p.2.ownBlock = some k → hi ≤ k) : (ps ++ [p]).Pairwise ApartW := by
  rw [List.pairwise_append]
  refine ⟨h, by simp, ?_⟩
  intro a ha b hb
  have : b = p := by simpa using hb
  subst this
  intro k hk he
  have h1 := (hn a ha).2 k hk
  have h2 := hp k he
  omega

/-- how many numbers a list has -/
def totW (ps : List WP) : Nat := (ps.map (fun p => 1 + p.1.hops.length)).sum

theorem totW_cons (p : WP) (ps : List WP) : totW (p :: ps) = 1 + p.1.hops.length + totW ps := by simp [totW]

theorem totW_append (a b : List WP) : totW (a ++ b) = totW a + totW b := by simp [totW]

theorem totW_len (ps : List WP) : ps.length ≤ totW ps := by
  induction ps with
  | nil => simp [totW]
  | cons p ps ih => rw [totW_cons, List.length_cons]; omega

theorem totW_mem {ps : List WP} {p : WP} (h : p ∈ ps) : p.1.hops.length ≤ totW ps := by
  induction ps with
  | nil => simp at h
  | cons q ps ih =>
    rw [totW_cons]
    rcases List.mem_cons.1 h with rfl | h1
    · omega
    · have := ih h1; omega

theorem totW_map {ps qs : List WP} (h : ps.map (·.1) = qs.map (·.1)) : totW ps = totW qs := by
  have e : ∀ l : List WP, totW l = ((l.map (·.1)).map (fun x => 1 + x.hops.length)).sum := fun l => by simp [totW, List.map_map, Function.comp_def]
  rw [e, e, h]

theorem totW_take {ps : List WP} {k : Nat} {p : WP} (h : ps[k]? = some p) : totW (ps.take (k + 1)) = totW (ps.take k) + (1 + p.1.hops.length) := by
  obtain ⟨hk, e⟩ := List.getElem?_eq_some_iff.1 h
  rw [List.take_succ_eq_append_getElem hk, totW_append, e]
  simp [totW]

theorem mapW_take {ps : List WP} {k : Nat} {p : WP} (h : ps[k]? = some p) : (ps.take (k + 1)).map (·.1) = (ps.take k).map (·.1) ++ [p.1] := by
  obtain ⟨hk, e⟩ := List.getElem?_eq_some_iff.1 h
  rw [List.take_succ_eq_append_getElem hk, List.map_append, e]
  rfl
theorem WaysAt.cells {W : World} {v : Value} {ps : List WP} {B : Nat} (h : WaysAt W v ps B) (i : Nat) (p : WP) (hp : ps[i]? = some p) :
    ∃ b off cap, v = .slice (some ⟨b, off, none⟩) ps.length cap ∧ b < B ∧ W.cell? ⟨b, off + i * 3, none⟩ = some (.int .i64 p.1.to) ∧ W.cell? ⟨b, off + i * 3 + 1, none⟩ = some (.int .i64 p.1.cost) ∧ W.cell? ⟨b, off + i * 3 + 2, none⟩ = some p.2 ∧ HopsAt W p.2 p.1.hops B := by
  obtain ⟨b, off, cap, hv, hb, hc⟩ := StructsAt.cell h.1 encW_len i p hp
  exact ⟨b, off, cap, hv, hb, hc 0 _ rfl, hc 1 _ rfl, hc 2 _ rfl, h.2 p (List.mem_of_getElem? hp)⟩

/-- three cells laid at o of block g -/
abbrev putW (W : World) (g o : Nat) (p : WP) : World := ((W.setCell ⟨g, o, none⟩ (.int .i64 p.1.to)).setCell ⟨g, o + 1, none⟩ (.int .i64 p.1.cost)).setCell ⟨g, o + 2, none⟩ p.2

theorem putW_grown (W : World) (g o : Nat) (p : WP) : W.grownBy (putW W g o p) (some g) := grown_trans (grown_trans (grown_set W g _ _) (grown_set _ g _ _)) (grown_set _ g _ _)

theorem putW_owns {W : World} {base g cap n j : Nat} {xs : List WP} {p : WP} (h : W.ownsRow base 46 3 (.slice (some ⟨g, 0, none⟩) n cap) n (flat encW xs)) (hj : j < xs.length) :
    (putW W g (j * 3) p).ownsRow base 46 3 (.slice (some ⟨g, 0, none⟩) n cap) n (flat encW (xs.set j p)) := by
  have e : (((flat encW xs).set (j * 3) (.int .i64 p.1.to)).set (j * 3 + 1) (.int .i64 p.1.cost)).set (j * 3 + 2) p.2 = flat encW (xs.set j p) := flat_set encW_len xs j p hj
  rw [← e]
  exact (((h.stored (j * 3) _).1.stored (j * 3 + 1) _).1.stored (j * 3 + 2) _).1
end Go.Proofs.YtidoieolejkflaaGreat
namespace Go.Proofs.YtidoieolejkflaaGreat
open Go.RowKit

theorem Tryz.infoWay : (Tryz.prog.info? 46).map (fun i => (i.zero, i.size, i.bytes)) = some (some (.agg (wayC zeroWD (.slice none 0 0))), 3, 40) := by kernel_rfl

def fstsW (ps : List WP) : List WayD := ps.map (·.1)

theorem fstsW_at {ps : List WP} {i : Nat} {p : WP} (h : ps[i]? = some p) : (fstsW ps)[i]? = some p.1 := by simp [fstsW, h]

set_option maxRecDepth 100000 in
set_option maxHeartbeats 2000000 in
theorem eqWayS_any (v1 v2 : Value) (ps qs : List WP) (w : World) (h1 : WaysAt w v1 ps w.heap.size) (h2 : WaysAt w v2 qs w.heap.size) (hn : ps.length ≤ 1048576) (hns : ∀ p ∈ ps, p.1.hops.length ≤ 1048576) :
    Calls Tryz.prog 29 #[v1, v2] w fun e w' => e = .returned (.bool (decide (fstsW ps = fstsW qs))) ∧ Below w.heap.size w w' := by
  obtain ⟨a1, c1, rfl⟩ := h1.shape
  obtain ⟨a2, c2, rfl⟩ := h2.shape
  by_cases hl : ps.length = qs.length
  · have K1 := hide h1
    have K2 := hide h2
    have HLN := hide hl
    have HNS := hide hns
    rw [← hl]
    clear h1 h2 hl hns
    go_enter Tryz.func29, Tryz.ntmps29
    go_wp2
    go_loopw [5] (fun i wr => ∃ k : Nat, k ≤ ps.length ∧ i = .int .i64 k ∧ (∀ j, j < k → (fstsW ps)[j]? = (fstsW qs)[j]?) ∧ Below w.heap.size w wr) (fun i _ => ps.length - (intOf i).toNat)
    case atStart => exact ⟨0, by omega, rfl, by omega, Below.refl _ _⟩
    case round =>
      obtain ⟨k, hk, rfl, hall, hnx⟩ := hrel
      have HALL := hide hall
      clear hall
      by_cases hlt : k < ps.length
      · obtain ⟨p, hp⟩ : ∃ l, ps[k]? = some l := ⟨ps[k], List.getElem?_eq_getElem hlt⟩
        obtain ⟨r, hr⟩ : ∃ l, qs[k]? = some l := ⟨qs[k], List.getElem?_eq_getElem (by have := HLN.out; omega)⟩
        obtain ⟨b1, o1, cp1, hv1, hb1, c0, c1', c2', n1⟩ := K1.out.cells k p hp
        obtain ⟨b2, o2, cp2, hv2, hb2, d0, d1, d2, n2⟩ := K2.out.cells k r hr
        cases hv1
        cases hv2
        rw [← hnx.cell (p := ⟨b1, o1 + k * 3, none⟩) hb1] at c0
        rw [← hnx.cell (p := ⟨b1, o1 + k * 3 + 1, none⟩) hb1] at c1'
        rw [← hnx.cell (p := ⟨b1, o1 + k * 3 + 2, none⟩) hb1] at c2'
        rw [← hnx.cell (p := ⟨b2, o2 + k * 3, none⟩) hb2] at d0
        rw [← hnx.cell (p := ⟨b2, o2 + k * 3 + 1, none⟩) hb2] at d1
        rw [← hnx.cell (p := ⟨b2, o2 + k * 3 + 2, none⟩) hb2] at d2
        have hzr := hnx.size
        have hb1' : b1 < wr.heap.size := by omega
        have hb2' : b2 < wr.heap.size := by omega
        have hki : (0 : Int) ≤ (k : Int) := by omega
        have hkj : (k : Int) < (ps.length : Int) := by omega
        have hkd : Below w.heap.size w wr.drew := hnx.drew
        have m1 := (RowAt.later n1 hkd (Nat.le_refl _)).more hkd.size
        have m2 := (RowAt.later n2 hkd (Nat.le_refl _)).more hkd.size
        have hq := eqWay_any (.agg (wayC p.1 p.2)) (.agg (wayC r.1 r.2)) p.1 r.1 wr.drew ⟨_, rfl, m1⟩ ⟨_, rfl, m2⟩ (HNS.out p (List.mem_of_getElem? hp))
        unfold wayC at hq
        obtain ⟨q, hqq⟩ : ∃ q, q = decide (p.1 = r.1) := ⟨_, rfl⟩
        rw [← hqq] at hq
        have HQ := hide hq
        have HQQ := hide hqq
        have HX := hide (fstsW_at hp)
        have HY := hide (fstsW_at hr)
        clear hq hqq hp hr n1 n2 m1 m2
        cases q
        · go_wp2
          go_region_held3 (fun W => W.cell? ⟨b1, o1 + k * 3, none⟩ = some (.int .i64 p.1.to) ∧ W.cell? ⟨b1, o1 + k * 3 + 1, none⟩ = some (.int .i64 p.1.cost) ∧ W.cell? ⟨b1, o1 + k * 3 + 2, none⟩ = some (p.2) ∧ W.cell? ⟨b2, o2 + k * 3, none⟩ = some (.int .i64 r.1.to) ∧ W.cell? ⟨b2, o2 + k * 3 + 1, none⟩ = some (.int .i64 r.1.cost) ∧ W.cell? ⟨b2, o2 + k * 3 + 2, none⟩ = some (r.2)) (first | go_keep | (refine ⟨?_, ?_, ?_, ?_, ?_, ?_⟩ <;> (rw [hbc.cell (by assumption)]; assumption))) (first | (go_at_call 78; refine HQ.out.mono ?_; rintro e w1 ⟨rfl, hbc⟩))
          go_wp2
          go_ret
          exact ⟨ret_bool_no (ne_at HX.out HY.out (of_decide_eq_false HQQ.out.symm)), hnx.trans ((Below.refl _ _).drew.trans (hbc.mono hzr))⟩
        · go_wp2
          go_region_held3 (fun W => W.cell? ⟨b1, o1 + k * 3, none⟩ = some (.int .i64 p.1.to) ∧ W.cell? ⟨b1, o1 + k * 3 + 1, none⟩ = some (.int .i64 p.1.cost) ∧ W.cell? ⟨b1, o1 + k * 3 + 2, none⟩ = some (p.2) ∧ W.cell? ⟨b2, o2 + k * 3, none⟩ = some (.int .i64 r.1.to) ∧ W.cell? ⟨b2, o2 + k * 3 + 1, none⟩ = some (.int .i64 r.1.cost) ∧ W.cell? ⟨b2, o2 + k * 3 + 2, none⟩ = some (r.2)) (first | go_keep | (refine ⟨?_, ?_, ?_, ?_, ?_, ?_⟩ <;> (rw [hbc.cell (by assumption)]; assumption))) (first | (go_at_call 78; refine HQ.out.mono ?_; rintro e w1 ⟨rfl, hbc⟩))
          go_wp2
          go_roundw
          case rel => exact ⟨k + 1, by omega, by go_num, (fun j hj => by
            by_cases e : j = k
            · subst e; rw [HX.out, HY.out, of_decide_eq_true HQQ.out.symm]
            · exact HALL.out j (by omega)), hnx.trans ((Below.refl _ _).drew.trans (hbc.mono hzr))⟩
          case measure => simp [intOf]; omega
      · have hkn : k = ps.length := by omega
        have KN := hide hkn
        clear hkn
        go_wp2
        go_ret
        exact ⟨ret_bool_yes (eq_all (by simp [fstsW, HLN.out]) (by have := HALL.out; rw [KN.out] at this; simpa [fstsW] using this)), hnx⟩
  · clear h1 h2
    have hd : ((ps.length : Int) != (qs.length : Int)) = true := by simp; omega
    go_enter Tryz.func29, Tryz.ntmps29
    go_wp2
    go_ret
    exact ⟨ret_bool_no (fun h => hl (by have := congrArg List.length h; simpa [fstsW] using this)), Below.refl _ _⟩
end Go.Proofs.YtidoieolejkflaaGreat
namespace Go.Proofs.YtidoieolejkflaaGreat
open Go.RowKit

/-- the numbers of a record that is marked from c on -/
def mkW (c : Int) (p : WP) : WP := (⟨c, c + 1, marksI (c + 1 + 1) p.1.hops.length⟩, p.2)

def nxW (c : Int) (p : WP) : Int := c + 1 + 1 + (p.1.hops.length : Int)

def mkWL : Int → List WP → List WP
  | _, [] => []
  | c, p :: ps => mkW c p :: mkWL (nxW c p) ps

def mkWE : Int → List WP → Int
  | c, [] => c
  | c, p :: ps => mkWE (nxW c p) ps

theorem mkWL_len (c : Int) (ps : List WP) : (mkWL c ps).length = ps.length := by
  induction ps generalizing c with
  | nil => rfl
  | cons p ps ih => simp [mkWL, ih]

theorem mkWE_append (c : Int) (a b : List WP) : mkWE c (a ++ b) = mkWE (mkWE c a) b := by
  induction a generalizing c with
  | nil => rfl
  | cons p a ih => exact ih _

theorem mkWL_append (c : Int) (a b : List WP) : mkWL c (a ++ b) = mkWL c a ++ mkWL (mkWE c a) b := by
  induction a generalizing c with
  | nil => rfl
  | cons p a ih => simp only [List.cons_append, mkWL, mkWE, ih]

theorem mkWE_step {ps : List WP} {k : Nat} {p : WP} (c : Int) (h : ps[k]? = some p) : mkWE c (ps.take (k + 1)) = nxW (mkWE c (ps.take k)) p := by
  obtain ⟨hk, e⟩ := List.getElem?_eq_some_iff.1 h
  rw [List.take_succ_eq_append_getElem hk, mkWE_append, e]
  rfl

theorem mkWL_step {ps : List WP} {k : Nat} {p : WP} (c : Int) (h : ps[k]? = some p) : mkWL c (ps.take (k + 1)) = mkWL c (ps.take k) ++ [mkW (mkWE c (ps.take k)) p] := by
  obtain ⟨hk, e⟩ := List.getElem?_eq_some_iff.1 h
  rw [List.take_succ_eq_append_getElem hk, mkWL_append, e]
  rfl

theorem mkWE_tot (c : Int) (ps : List WP) : c + (totW ps : Int) ≤ mkWE c ps ∧ mkWE c ps ≤ c + 2 * (totW ps : Int) := by
  induction ps generalizing c with
  | nil => simp [mkWE, totW]
  | cons p ps ih =>
    have h := ih (nxW c p)
    rw [totW_cons]
    simp only [mkWE]
    unfold nxW at h ⊢
    omega

theorem totW_takeLe (ps : List WP) (k : Nat) : totW (ps.take k) ≤ totW ps := by
  have h := totW_append (ps.take k) (ps.drop k)
  rw [List.take_append_drop] at h
  omega

theorem mkWL_at {ps : List WP} {k : Nat} {p : WP} (c : Int) (h : ps[k]? = some p) : (mkWL c ps)[k]? = some (mkW (mkWE c (ps.take k)) p) := by
  obtain ⟨hk, e⟩ := List.getElem?_eq_some_iff.1 h
  have e2 : ps = ps.take k ++ (p :: ps.drop (k + 1)) := by
    rw [← e]
    simp
  have e3 : mkWL c ps = mkWL c (ps.take k) ++ (mkW (mkWE c (ps.take k)) p :: mkWL (nxW (mkWE c (ps.take k)) p) (ps.drop (k + 1))) := by
    conv => lhs; rw [e2]
    rw [mkWL_append]
    rfl
  rw [e3, List.getElem?_append_right (by rw [mkWL_len, List.length_take]; omega), mkWL_len, List.length_take, Nat.min_eq_left (by omega), Nat.sub_self]
  rfl

theorem apartW_snd (ps : List WP) : ps.Pairwise ApartW ↔ (ps.map (·.2)).Pairwise (fun a b : Value => ∀ k, a.ownBlock = some k → b.ownBlock ≠ some k) := by
  rw [List.pairwise_map]
  exact Iff.rfl

theorem apartW_at {ps : List WP} (h : ps.Pairwise ApartW) {i k : Nat} {p q : WP} (hi : ps[i]? = some p) (hk : ps[k]? = some q) (hne : i ≠ k) : ApartW p q := by
  obtain ⟨h1, e1⟩ := List.getElem?_eq_some_iff.1 hi
  obtain ⟨h2, e2⟩ := List.getElem?_eq_some_iff.1 hk
  rw [List.pairwise_iff_getElem] at h
  rcases Nat.lt_or_ge i k with hl | hl
  · have := h i k h1 h2 hl
    rw [e1, e2] at this
    exact this
  · have := h k i h2 h1 (by omega)
    rw [e1, e2] at this
    exact fun j hj he => this j he hj

theorem setW_snd {ps : List WP} {k : Nat} {p q : WP} (hk : ps[k]? = some p) (h : q.2 = p.2) : (ps.set k q).map (·.2) = ps.map (·.2) := by
  apply List.ext_getElem?
  intro i
  by_cases e : i = k
  · subst e
    obtain ⟨h1, e1⟩ := List.getElem?_eq_some_iff.1 hk
    rw [List.getElem?_map, List.getElem?_set_self h1, List.getElem?_map, hk]
    simp [h]
  · simp [List.getElem?_set_ne (Ne.symm e)]

/-- one record turned within its list -/
theorem WaysOwn.turn {W W8 : World} {lo hi g n cap k : Nat} {xs : List WP} {p q : WP} (h : WaysOwn W lo hi (.slice (some ⟨g, 0, none⟩) n cap) xs) (hn : xs.length = n) (hk : xs[k]? = some p) (hq : q.2 = p.2)
    (row : W8.ownsRow lo 46 3 (.slice (some ⟨g, 0, none⟩) n cap) n (flat encW (xs.set k q))) (near : W8.ownsRow lo 3 1 q.2 q.1.hops.length (flat intE q.1.hops))
    (hkeep : ∀ j, j < W.heap.size → j ≠ g → some j ≠ p.2.ownBlock → W8.heap[j]? = W.heap[j]?) : WaysOwn W8 lo hi (.slice (some ⟨g, 0, none⟩) n cap) (xs.set k q) where
  row := by rw [List.length_set, hn]; exact row
  top := h.top
  apart := by rw [apartW_snd, setW_snd hk hq, ← apartW_snd]; exact h.apart
  nears := by
    intro r hr
    obtain ⟨i, hi, e⟩ := List.getElem_of_mem hr
    have hr2 : (xs.set k q)[i]? = some r := by rw [← e]; exact List.getElem?_eq_getElem hi
    by_cases ek : i = k
    · subst ek
      rw [List.getElem?_set_self (by simpa using hi)] at hr2
      cases hr2
      refine ⟨near, ?_⟩
      rw [hq]
      exact (h.nears p (List.mem_of_getElem? hk)).2
    · rw [List.getElem?_set_ne (Ne.symm ek)] at hr2
      have ho := h.nears r (List.mem_of_getElem? hr2)
      refine ⟨owns_keepB ho.1 (fun j hj => ?_), ho.2⟩
      refine hkeep j (ho.1.lt j hj).2 ?_ ?_
      · rintro rfl
        obtain ⟨cur, hh⟩ : ∃ cur, W.heap[j]? = some (.cells cur 46 (0, 0)) := by
          rcases h.row.2 with ⟨h0, _⟩ | ⟨g', cap', cur', hv', _, hh', _⟩
          · cases h0
          · cases hv'; exact ⟨cur', hh'⟩
        rcases ho.1.2 with ⟨h0, _⟩ | ⟨g', cap', cur', hv', _, hh', _⟩
        · rw [h0] at hj; simp [Value.ownBlock] at hj
        · rw [hv'] at hj
          simp [Value.ownBlock] at hj
          subst hj
          rw [hh] at hh'
          simp at hh'
      · intro he
        exact apartW_at h.apart hr2 hk ek j hj he.symm

theorem setW2 {xs : List WP} {k : Nat} {p q : WP} (hk : xs[k]? = some p) (hq : q.2 = p.2) : ((flat encW xs).set (k * 3) (.int .i64 q.1.to)).set (k * 3 + 1) (.int .i64 q.1.cost) = flat encW (xs.set k q) := by
  obtain ⟨hlt, _⟩ := List.getElem?_eq_some_iff.1 hk
  have e : (((flat encW xs).set (k * 3) (.int .i64 q.1.to)).set (k * 3 + 1) (.int .i64 q.1.cost)).set (k * 3 + 2) q.2 = flat encW (xs.set k q) := flat_set encW_len xs k q hlt
  rw [← e]
  have h5 : (((flat encW xs).set (k * 3) (.int .i64 q.1.to)).set (k * 3 + 1) (.int .i64 q.1.cost))[k * 3 + 2]? = some q.2 := by
    rw [List.getElem?_set_ne (by omega), List.getElem?_set_ne (by omega), flat_get encW_len xs k 2 p hk (by omega), hq]
    rfl
  obtain ⟨h6, e6⟩ := List.getElem?_eq_some_iff.1 h5
  rw [← e6]
  exact (List.set_getElem_self h6).symm

abbrev setM2 (W : World) (g o : Nat) (z : Int) : World := (W.setCell ⟨g, o, none⟩ (.int .i64 z)).setCell ⟨g, o + 1, none⟩ (.int .i64 (z + 1))

theorem setM2_grown (W : World) (g o : Nat) (z : Int) : W.grownBy (setM2 W g o z) (some g) := grown_trans (grown_set W g _ _) (grown_set _ g _ _)

set_option maxRecDepth 100000 in
set_option maxHeartbeats 2000000 in
theorem markWayS_any (v : Value) (lo hi : Nat) (ps : List WP) (c : Int) (w : World) (h : WaysOwn w lo hi v ps) (hn : totW ps ≤ 1048576) (hc : 0 ≤ c) (hc2 : c ≤ 10000000) :
    Calls Tryz.prog 34 #[v, .int .i64 c] w fun e w' => e = .returned (.int .i64 (mkWE c ps)) ∧ WaysOwn w' lo hi v (mkWL c ps) ∧ Frame lo hi w w' := by
  have hnl := totW_len ps
  by_cases h0 : ps.length = 0
  · have hps : ps = [] := List.length_eq_zero_iff.1 h0
    subst hps
    obtain ⟨a1, c1, rfl⟩ := owns_lenS h.row
    have H1 := hide h
    clear h
    go_enter Tryz.func34, Tryz.ntmps34
    go_wp2
    refine wp_loop_rounds 1 ?_
    rw [rounds_succ]
    go_wp2
    go_ret
    exact ⟨rfl, H1.out, Frame.refl _ _ _⟩
  · obtain ⟨g, cap, rfl, hg1, hl1⟩ := owns_shapeS h.row (by omega)
    have H1 := hide h
    have HG := hide (h.top g rfl)
    clear h h0
    go_enter Tryz.func34, Tryz.ntmps34
    go_wp2
    go_loopw [5, 1] (fun i r wr => ∃ (k : Nat), k ≤ ps.length ∧ i = .int .i64 k ∧ r = .int .i64 (mkWE c (ps.take k)) ∧ WaysOwn wr lo hi (.slice (some ⟨g, 0, none⟩) ps.length cap) (mkWL c (ps.take k) ++ ps.drop k) ∧ Frame lo hi w wr) (fun i _ _ => ps.length - (intOf i).toNat)
    case atStart => exact ⟨0, by omega, rfl, rfl, H1.out, Frame.refl _ _ _⟩
    case round =>
      clear H1
      obtain ⟨k, hk, rfl, rfl, hown, hnx⟩ := hrel
      by_cases hlt : k < ps.length
      · obtain ⟨p, hp⟩ : ∃ p, ps[k]? = some p := ⟨ps[k], List.getElem?_eq_getElem hlt⟩
        have hki : (0 : Int) ≤ (k : Int) := by omega
        have hkj : (k : Int) < (ps.length : Int) := by omega
        have ht1 := totW_takeLe ps k
        have ht2 := mkWE_tot c (ps.take k)
        have hpl := totW_mem (List.mem_of_getElem? hp)
        obtain ⟨z, hz⟩ : ∃ z, z = mkWE c (ps.take k) := ⟨_, rfl⟩
        rw [← hz] at ht2 ⊢
        have hz0 : 0 ≤ z := by omega
        have hz2 : z ≤ 100000000 := by omega
        obtain ⟨xs, hxs⟩ : ∃ xs, xs = mkWL c (ps.take k) ++ ps.drop k := ⟨_, rfl⟩
        rw [← hxs] at hown
        have hxl : xs.length = ps.length := by rw [hxs]; simp [mkWL_len]; omega
        have hxk : xs[k]? = some p := by
          rw [hxs, List.getElem?_append_right (by rw [mkWL_len, List.length_take]; omega), mkWL_len, List.length_take, Nat.min_eq_left (by omega), Nat.sub_self, List.getElem?_drop, Nat.add_zero]
          exact hp
        have hstep : xs.set k (mkW z p) = mkWL c (ps.take (k + 1)) ++ ps.drop (k + 1) := by
          have ed : ps.drop k = p :: ps.drop (k + 1) := by
            obtain ⟨h1, e1⟩ := List.getElem?_eq_some_iff.1 hp
            rw [List.drop_eq_getElem_cons h1, e1]
          rw [hxs, mkWL_step c hp, ← hz, List.set_append_right _ _ (by rw [mkWL_len, List.length_take]; omega), mkWL_len, List.length_take, Nat.min_eq_left (by omega), Nat.sub_self, ed, List.set_cons_zero]
          simp
        have hnext : mkWE c (ps.take (k + 1)) = nxW z p := by rw [mkWE_step c hp, hz]
        have hrow := hown.row
        rw [hxl] at hrow
        have hex : ∀ r, r < 3 → ∃ u, wr.cell? ⟨g, k * 3 + r, none⟩ = some u := fun r hr => own_cell hrow _ (by omega)
        obtain ⟨u0, d0⟩ := hex 0 (by omega)
        obtain ⟨u1, d1⟩ := hex 1 (by omega)
        rw [Nat.add_zero] at d0
        have d5 : wr.cell? ⟨g, k * 3 + 2, none⟩ = some p.2 := by
          rw [hrow.cellAt _ (by omega), flat_get encW_len xs k 2 p hxk (by omega)]
          rfl
        have f0 := hrow.frozenAt (k * 3)
        have f1 := hrow.frozenAt (k * 3 + 1)
        have f2 := hrow.frozenAt (k * 3 + 2)
        have hnear := (hown.nears p (List.mem_of_getElem? hxk)).1
        obtain ⟨na, nc, hpn⟩ := owns_lenS hnear
        rw [hpn] at d5
        have hzr : w.heap.size ≤ wr.heap.size := hnx.size
        obtain ⟨curg, hcurg⟩ : ∃ cur, wr.heap[g]? = some (.cells cur 46 (0, 0)) := by
          rcases hrow.2 with ⟨h0, _⟩ | ⟨g', cap', cur', hv', _, hh', _⟩
          · cases h0
          · cases hv'; exact ⟨cur', hh'⟩
        have hgne : some g ≠ p.2.ownBlock := own_type_ne2 hnear hcurg (by decide)
        rw [hpn] at hnear hgne
        have row5 := ((hrow.stored (k * 3) (.int .i64 z)).1.stored (k * 3 + 1) (.int .i64 (z + 1))).1
        have e5 := setW2 (q := mkW z p) hxk rfl
        have row5 : (setM2 wr g (k * 3) z).ownsRow lo 46 3 (.slice (some ⟨g, 0, none⟩) ps.length cap) ps.length (flat encW (xs.set k (mkW z p))) := by
          rw [← e5]
          exact row5
        have gr5 := setM2_grown wr g (k * 3) z
        have near5 : (setM2 wr g (k * 3) z).ownsRow lo 3 1 (.slice na p.1.hops.length nc) p.1.hops.length (flat intE p.1.hops) := owns_keepB hnear (fun j hj => gr5.block j (hnear.lt j hj).2 (fun e => hgne (by rw [hj, e])))
        have HMN := hide (markG_any (.slice na p.1.hops.length nc) lo p.1.hops (z + 1 + 1) (setM2 wr g (k * 3) z) near5 (by omega) (by omega) (by omega))
        have HOWN := hide hown
        have HROW5 := hide row5
        have HGR5 := hide gr5
        have HXL := hide hxl
        have HXK := hide hxk
        have HSTEP := hide hstep
        have HNEXT := hide hnext
        have HPN := hide hpn
        have HGNE := hide hgne
        have HZ := hide hz
        have HTK := hide ht2
        clear hown hrow hxl hxk hstep hnext hpn hnear hex hcurg hxs hz hp row5 gr5 near5 hgne ht2 ht1 e5
        go_wp2_with fail
        refine HMN.out.mono ?_
        rintro e w6 ⟨rfl, near6, gr6⟩
        have row6 : w6.ownsRow lo 46 3 (.slice (some ⟨g, 0, none⟩) ps.length cap) ps.length (flat encW (xs.set k (mkW z p))) := owns_keepB HROW5.out (fun j hj => gr6.block j (HROW5.out.lt j hj).2 (fun e => HGNE.out (by cases hj; exact e)))
        have fr : Frame lo hi wr w6 := (Frame.grown HGR5.out (fun j hj => by simp at hj; have := HG.out; omega)).trans (Frame.grown gr6 (fun j hj => ⟨(near6.lt j hj).1, by have := (HOWN.out.nears p (List.mem_of_getElem? HXK.out)).2 j (by rw [HPN.out]; exact hj); exact this⟩))
        have fin := HOWN.out.turn (W8 := w6) (q := mkW z p) HXL.out HXK.out rfl row6 (by
            have h9 := near6
            show World.ownsRow _ lo 3 1 p.2 (marksI _ _).length (flat intE (marksI _ _))
            rw [HPN.out, marksI_length]
            exact h9) (fun j h1 h2 h3 => by
            have g5 := HGR5.out.size
            have g6 := gr6.size
            rw [gr6.block j (by omega) (by rw [← HPN.out]; exact h3), HGR5.out.block j h1 (by simp; omega)])
        rw [HSTEP.out] at fin
        have FIN := hide fin
        have FR := hide fr
        clear row6 fr fin near6 gr6 HOWN HROW5 HMN HGR5
        go_wp2
        refine ⟨⟨k + 1, by omega, by go_num, ?_, FIN.out, hnx.trans FR.out⟩, by simp [intOf]; omega⟩
        rw [HNEXT.out]
        rfl
      · have hkn : k = ps.length := by omega
        have KN := hide hkn
        have OW := hide hown
        clear hkn hown
        go_wp2
        go_ret
        have h1 := OW.out
        rw [KN.out, List.take_length, List.drop_length, List.append_nil] at h1
        exact ⟨ret_int1 (by rw [KN.out, List.take_length]), h1, hnx⟩

set_option maxRecDepth 100000 in
set_option maxHeartbeats 2000000 in
theorem heldWayS_any (v : Value) (ps : List WP) (c : Int) (w : World) (h : WaysAt w v (mkWL c ps) w.heap.size) (hn : totW ps ≤ 1048576) (hc : 0 ≤ c) (hc2 : c ≤ 10000000) :
    Calls Tryz.prog 35 #[v, .int .i64 c] w fun e w' => e = .returned (.int .i64 (mkWE c ps)) ∧ w = w' := by
  obtain ⟨a, cap, rfl⟩ := h.shape
  rw [mkWL_len] at *
  have H1 := hide h
  have hnl := totW_len ps
  clear h
  go_enter Tryz.func35, Tryz.ntmps35
  go_wp2
  go_loop [5, 1] (fun i r => ∃ k : Nat, k ≤ ps.length ∧ i = .int .i64 k ∧ r = .int .i64 (mkWE c (ps.take k))) (fun i _ => ps.length - (intOf i).toNat)
  case atStart => exact ⟨0, by omega, rfl, rfl⟩
  case round =>
    obtain ⟨k, hk, rfl, rfl⟩ := hrel
    by_cases hlt : k < ps.length
    · obtain ⟨p, hp⟩ : ∃ p, ps[k]? = some p := ⟨ps[k], List.getElem?_eq_getElem hlt⟩
      have hki : (0 : Int) ≤ (k : Int) := by omega
      have hkj : (k : Int) < (ps.length : Int) := by omega
      have ht1 := totW_takeLe ps k
      have ht2 := mkWE_tot c (ps.take k)
      have hpl := totW_mem (List.mem_of_getElem? hp)
      have hnext := mkWE_step c hp
      have hat := mkWL_at c hp
      obtain ⟨z, hz⟩ : ∃ z, z = mkWE c (ps.take k) := ⟨_, rfl⟩
      rw [← hz] at ht2 hnext hat ⊢
      have hz0 : 0 ≤ z := by omega
      have hz2 : z ≤ 100000000 := by omega
      obtain ⟨b, off, cap', hve, hbb, s0, s1, s2, hnr⟩ := H1.out.cells k (mkW z p) hat
      rw [mkWL_len] at hve
      cases hve
      unfold mkW at s0 s1 s2 hnr
      simp only [] at s0 s1 s2 hnr
      obtain ⟨na, nc, hpn⟩ := hnr.shape
      rw [marksI_length] at hpn
      rw [hpn] at s2 hnr
      have HH := hide (heldG_any _ p.1.hops.length (z + 1 + 1) w hnr (by omega) (by omega) (by omega))
      have HNEXT := hide hnext
      have HZ := hide hz
      have hm0 : ¬ z + 1 + 1 + (p.1.hops.length : Int) < 0 := by omega
      clear hp hnext hat hz hnr hpn ht1 ht2
      go_wp2_with fail
      refine HH.out.mono ?_
      rintro e w1 ⟨rfl, rfl⟩
      go_wp2
      go_round
      case rel => exact ⟨k + 1, by omega, by go_num, by rw [HNEXT.out]; rfl⟩
      case measure => simp [intOf]; omega
    · have hkn : k = ps.length := by omega
      have KN := hide hkn
      clear hkn
      go_wp2
      go_ret
      exact ⟨ret_int1 (by rw [KN.out, List.take_length]), rfl⟩
end Go.Proofs.YtidoieolejkflaaGreat
namespace Go.Proofs.YtidoieolejkflaaGreat
open Go.RowKit

set_option linter.unusedSimpArgs false

def cardF (F : Nat → Bool) : Nat := (F 1).toNat + (F 2).toNat + (F 3).toNat + (F 4).toNat + (F 5).toNat + (F 6).toNat

theorem node_cases {u : Nat} (h : 1 ≤ u ∧ u ≤ 6) : u = 1 ∨ u = 2 ∨ u = 3 ∨ u = 4 ∨ u = 5 ∨ u = 6 := by omega

theorem card_add {F : Nat → Bool} {u : Nat} (hu : 1 ≤ u ∧ u ≤ 6) (hF : F u = false) : cardF (fun v => F v || v == u) = cardF F + 1 := by
  unfold cardF
  rcases node_cases hu with rfl | rfl | rfl | rfl | rfl | rfl <;> simp [hF] <;> omega

theorem card_le (F : Nat → Bool) : cardF F ≤ 6 := by
  unfold cardF
  have h1 := Bool.toNat_le (F 1)
  have h2 := Bool.toNat_le (F 2)
  have h3 := Bool.toNat_le (F 3)
  have h4 := Bool.toNat_le (F 4)
  have h5 := Bool.toNat_le (F 5)
  have h6 := Bool.toNat_le (F 6)
  omega

theorem card_full {F : Nat → Bool} (h : cardF F = 6) {u : Nat} (hu : 1 ≤ u ∧ u ≤ 6) : F u = true := by
  cases e : F u with
  | true => rfl
  | false =>
    have := card_add hu e
    have := card_le (fun v => F v || v == u)
    omega

theorem card_zero : cardF (fun _ => false) = 0 := rfl

/-- the ways to the first k nodes -/
def collT (c : Nat → Int) (h : Nat → List Int) : Nat → List WayD
  | 0 => []
  | k + 1 => collT c h k ++ (if 0 ≤ c (k + 1) then [⟨((k + 1 : Nat) : Int), c (k + 1), h (k + 1)⟩] else [])

theorem coll_congr {c d : Nat → Int} {h g : Nat → List Int} (e : ∀ v, (0 ≤ c v → d v = c v ∧ g v = h v) ∧ (0 ≤ d v → 0 ≤ c v)) : ∀ k, collT c h k = collT d g k
  | 0 => rfl
  | k + 1 => by
    unfold collT
    rw [coll_congr e k]
    congr 1
    by_cases h0 : 0 ≤ c (k + 1)
    · have := (e (k + 1)).1 h0
      rw [if_pos h0, if_pos (by omega), this.1, this.2]
    · rw [if_neg h0, if_neg (fun hc => h0 ((e (k + 1)).2 hc))]

theorem Fix.coll {L : Nat → Nat → Int} {src : Nat} {c d : Nat → Int} {h g : Nat → List Int} (A : Fix L src c h) (B : Fix L src d g) : collT c h 6 = collT d g 6 := by
  refine coll_congr (fun v => ⟨fun h0 => ⟨A.cost B v h0, A.hops B v h0⟩, fun h0 => ?_⟩) 6
  have := B.cost A v h0
  omega

/-- what WaysIn tells -/
def IsWays (xs : List RecD) (area src : Int) (ds : List WayD) : Prop :=
  if (storeB xs && inB src 1 6 && nodeB xs area src) = true then ∃ c h, Fix (linkN xs area) src.toNat c h ∧ ds = collT c h 6 else ds = []

theorem IsWays.unique {xs : List RecD} {area src : Int} {ds es : List WayD} (h1 : IsWays xs area src ds) (h2 : IsWays xs area src es) : ds = es := by
  unfold IsWays at h1 h2
  split at h1
  · rename_i e
    rw [if_pos e] at h2
    obtain ⟨c, h, A, rfl⟩ := h1
    obtain ⟨d, g, B, rfl⟩ := h2
    exact A.coll B
  · rename_i e
    rw [if_neg e] at h2
    rw [h1, h2]

theorem coll_step (c : Nat → Int) (h : Nat → List Int) {v : Nat} (hv : 1 ≤ v) : collT c h v = collT c h (v - 1) ++ (if 0 ≤ c v then [⟨(v : Int), c v, h v⟩] else []) := by
  obtain ⟨k, rfl⟩ : ∃ k, v = k + 1 := ⟨v - 1, by omega⟩
  rfl

theorem coll_len (c : Nat → Int) (h : Nat → List Int) : ∀ k, (collT c h k).length ≤ k
  | 0 => by simp [collT]
  | k + 1 => by
    unfold collT
    have := coll_len c h k
    rw [List.length_append]
    split <;> simp <;> omega

theorem mixC_at {L : Nat → Nat → Int} {c : Nat → Int} {u j : Nat} (hu : 0 ≤ c u) : mixC L c u j u = c u := by
  unfold mixC
  split
  · exact relaxC_same hu (Int.le_refl _)
  · rfl

theorem relaxL_done {L : Nat → Nat → Int} {src : Nat} {c : Nat → Int} {h : Nat → List Int} {u v : Nat} (h0 : 0 ≤ c v) (hv : c v ≤ c u) : relaxL L src c h u v = h v ∧ relaxC L c u v = c v := by
  by_cases hl : 0 < L u v
  · exact relaxL_dear h0 (by omega)
  · exact relaxL_none hl

theorem mixH_at {L : Nat → Nat → Int} {src : Nat} {c : Nat → Int} {h : Nat → List Int} {u j : Nat} (hu : 0 ≤ c u) : mixH L src c h u j u = h u := by
  unfold mixH
  split
  · exact (relaxL_done hu (Int.le_refl _)).1
  · rfl

theorem relaxC_bound {L : Nat → Nat → Int} {c : Nat → Int} {u v : Nat} {B : Int} (h : ∀ v, c v ≤ B) (hL : ∀ u v, L u v ≤ 1000) : relaxC L c u v ≤ B + 1000 := by
  unfold relaxC
  have := h v
  have := h u
  have := hL u v
  split <;> omega

/-- a is the cheapest of the nodes below v that are not done, 0 where there is none -/
def MinAt (F : Nat → Bool) (c : Nat → Int) (v a : Nat) : Prop :=
  (a = 0 ∧ ∀ x, 1 ≤ x → x < v → F x = false → c x < 0) ∨ (1 ≤ a ∧ a < v ∧ F a = false ∧ 0 ≤ c a ∧ ∀ x, 1 ≤ x → x < v → F x = false → 0 ≤ c x → c a ≤ c x)

theorem minAt_skip {F : Nat → Bool} {c : Nat → Int} {v a : Nat} (h : MinAt F c v a) (hs : F v = true ∨ c v < 0 ∨ (1 ≤ a ∧ c a ≤ c v)) : MinAt F c (v + 1) a := by
  rcases h with ⟨h1, h2⟩ | ⟨h1, h2, h3, h4, h5⟩
  · refine .inl ⟨h1, fun x hx1 hx2 hF => ?_⟩
    by_cases e : x = v
    · subst e
      rcases hs with h | h | h
      · rw [hF] at h; cases h
      · exact h
      · omega
    · exact h2 x hx1 (by omega) hF
  · refine .inr ⟨h1, by omega, h3, h4, fun x hx1 hx2 hF hc => ?_⟩
    by_cases e : x = v
    · subst e
      rcases hs with h | h | h
      · rw [hF] at h; cases h
      · omega
      · exact h.2
    · exact h5 x hx1 (by omega) hF hc

theorem minAt_take {F : Nat → Bool} {c : Nat → Int} {v a : Nat} (h : MinAt F c v a) (h1v : 1 ≤ v) (hF : F v = false) (hc : 0 ≤ c v) (hs : a = 0 ∨ c v < c a) : MinAt F c (v + 1) v := by
  refine .inr ⟨h1v, by omega, hF, hc, fun x hx1 hx2 hFx hcx => ?_⟩
  by_cases e : x = v
  · subst e; omega
  · rcases h with ⟨h1, h2⟩ | ⟨h1, h2, h3, h4, h5⟩
    · have := h2 x hx1 (by omega) hFx; omega
    · have := h5 x hx1 (by omega) hFx hcx; omega

/-- what holds of a search at a round's beginning -/
structure AtRound (L : Nat → Nat → Int) (src : Nat) (F : Nat → Bool) (c : Nat → Int) (h : Nat → List Int) (r : Nat) : Prop where
  inv : Inv L src F c h
  bnd : ∀ v, c v ≤ 1000 * (cardF F : Int)
  at' : cardF F + 1 = r ∨ (r = 7 ∧ ∀ v, 0 ≤ c v → F v = true)

theorem AtRound.init {L : Nat → Nat → Int} {src : Nat} (hs : IsNode src) : AtRound L src (fun _ => false) (fun v => if v = src then 0 else -1) (fun _ => []) 1 := by
  refine ⟨Inv.init hs, fun v => ?_, .inl rfl⟩
  rw [card_zero]
  show (if v = src then (0 : Int) else -1) ≤ _
  split <;> omega

theorem AtRound.fin {L : Nat → Nat → Int} {src : Nat} {F : Nat → Bool} {c : Nat → Int} {h : Nat → List Int} (a : AtRound L src F c h 7) : Fix L src c h ∧ ∀ v, F v = true ↔ 0 ≤ c v := by
  have hf : ∀ v, 0 ≤ c v → F v = true := by
    rcases a.at' with h1 | ⟨_, h1⟩
    · intro v hv
      exact card_full (by omega) (a.inv.cnode v hv)
    · exact h1
  exact ⟨⟨F, a.inv, hf⟩, fun v => ⟨fun hv => (a.inv.fnode v hv).2, hf v⟩⟩

theorem AtRound.none {L : Nat → Nat → Int} {src : Nat} {F : Nat → Bool} {c : Nat → Int} {h : Nat → List Int} {r : Nat} (a : AtRound L src F c h r) (hm : MinAt F c 7 0) : AtRound L src F c h 7 := by
  refine ⟨a.inv, a.bnd, .inr ⟨rfl, fun v hv => ?_⟩⟩
  have hn := a.inv.cnode v hv
  unfold IsNode at hn
  cases e : F v with
  | true => rfl
  | false =>
    rcases hm with ⟨_, h2⟩ | ⟨h1, _⟩
    · have := h2 v hn.1 (by omega) e; omega
    · omega

theorem AtRound.next {L : Nat → Nat → Int} {src : Nat} {F : Nat → Bool} {c : Nat → Int} {h : Nat → List Int} {r u : Nat} (a : AtRound L src F c h r) (hL : Links L 1000) (hr : r < 7) (hm : MinAt F c 7 u) (hu : 1 ≤ u) : AtRound L src (fun v => F v || v == u) (fun v => relaxC L c u v) (fun v => relaxL L src c h u v) (r + 1) := by
  rcases hm with ⟨h1, _⟩ | ⟨h1, h2, h3, h4, h5⟩
  · omega
  · have hcard : cardF (fun v => F v || v == u) = cardF F + 1 := card_add ⟨h1, by omega⟩ h3
    refine ⟨a.inv.step hL h3 h4 (fun v hv hc => ?_) (fun v => relaxL_spec a.inv hL h4 v), fun v => ?_, .inl ?_⟩
    · have hn := a.inv.cnode v hc
      unfold IsNode at hn
      exact h5 v hn.1 (by omega) hv hc
    · rw [hcard]
      have := relaxC_bound (L := L) (u := u) (v := v) a.bnd hL.le
      omega
    · rw [hcard]
      rcases a.at' with h6 | ⟨h6, _⟩
      · omega
      · omega

theorem ways_lit (W : World) (lo : Nat) (hb : lo ≤ W.heap.size) : WaysOwn (W.alloc (.cells #[] 46)) lo (W.alloc (.cells #[] 46)).heap.size (.slice (some ⟨W.heap.size, 0, none⟩) 0 0) [] where
  row := World.ownsRow_lit W #[] 0 hb (by unfold maxLen; omega) (by simp)
  top := by intro k hk; simp [Value.ownBlock] at hk; subst hk; simp
  nears := by simp
  apart := by simp
end Go.Proofs.YtidoieolejkflaaGreat
