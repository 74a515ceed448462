/-
  laws.eqIntS, markIntS, heldIntS, toIntS, szIntS: their contracts (IntRow2 without nets).
  Ways as values; laws.szWay, toWay, eqWay.
  laws.markIntS, markWay, heldWay: only the row's own memory turns; what was marked is held.
  Lists of ways, each with a row of its own.
  laws.szWayS, toWayS, eqWayS: their contracts.
  laws.markWayS, heldWayS: only the list's own memory turns; what was marked is held.
  Lists of numbers of the caller's own; laws.toIntS, eqIntS, markIntS, heldIntS over them.
  Lists of records that may share the rows of others; spec.l04CopyList, impl.ownRecords.
  A packet, as a value; laws.szPacket, toPacket, eqPacket: their contracts.
  impl.PacketOk: its contract, and those of what it calls.
-/
import Derived.Test.YtnfockhbcneegaaDoorPt5
import Derived.Test.YtnfockhbcneegaaDoorPt1
import Derived.Deep.QuietTactic
import Derived.BigQuiet
import Derived.WalkSmall
import Derived.Handy
import Derived.Test.YtnfockhbcneegaaDoorPt2
import Derived.Deep.RegionHeld3
namespace Go.Proofs.YtnfockhbcneegaaDoor
open Go.RowKit

def intC (zs : List Int) (j : Nat) : Value := .int .i64 (zs.getD j 0)

def IntsAt (W : World) (v : Value) (zs : List Int) (B : Nat) : Prop := RowAt W v zs.length 1 (intC zs) B

theorem below_drewN {B : Nat} {w wr : World} (h : Below B w wr) (n : Nat) : Below B w (wr.drewN n) := ⟨h.os, h.tape, h.output, h.size, h.block⟩

theorem list_ne_at {xs ys : List Int} {k : Nat} (h : xs.getD k 0 ≠ ys.getD k 0) : ¬ xs = ys := by
  rintro rfl
  exact h rfl

theorem list_eq_all {xs ys : List Int} (hl : xs.length = ys.length) (h : ∀ j, j < xs.length → xs.getD j 0 = ys.getD j 0) : xs = ys := by
  apply List.ext_getElem hl
  intro i h1 h2
  have := h i h1
  simpa [List.getD, List.getElem?_eq_getElem h1, List.getElem?_eq_getElem h2] using this

set_option maxRecDepth 100000 in
set_option maxHeartbeats 1000000 in
theorem eqI_any (v1 v2 : Value) (xs ys : List Int) (w : World) (h1 : IntsAt w v1 xs w.heap.size) (h2 : IntsAt w v2 ys w.heap.size) (hn : xs.length ≤ 1048576) :
    Calls Tryd.prog 30 #[v1, v2] w fun e w' => e = .returned (.bool (decide (xs = ys))) ∧ Below w.heap.size w w' := by
  obtain ⟨a1, c1, rfl, k1⟩ := h1
  obtain ⟨a2, c2, rfl, k2⟩ := h2
  by_cases hl : xs.length = ys.length
  · have K1 := hide k1
    have K2 := hide k2
    clear k1 k2
    go_enter Tryd.func30, Tryd.ntmps30
    go_wp2
    go_loopw [5] (fun i wr => ∃ k : Nat, k ≤ xs.length ∧ i = .int .i64 k ∧ (∀ j, j < k → xs.getD j 0 = ys.getD j 0) ∧ Below w.heap.size w wr) (fun i _ => xs.length - (intOf i).toNat)
    case atStart => exact ⟨0, by omega, rfl, by omega, Below.refl _ _⟩
    case round =>
      obtain ⟨k, hk, rfl, hall, hnx⟩ := hrel
      have HALL := hide hall
      clear hall
      by_cases hlt : k < xs.length
      · obtain ⟨b1, o1, ha1, hb1, d1⟩ : ∃ b1 o1, a1 = some ⟨b1, o1, none⟩ ∧ b1 < w.heap.size ∧ wr.cell? ⟨b1, o1 + k, none⟩ = some (.int .i64 (xs.getD k 0)) := by
          rcases K1.out with h0 | ⟨b, off, ha, hb, hx⟩
          · omega
          · exact ⟨b, off, ha, hb, by rw [hnx.cell (p := ⟨b, off + k, none⟩) hb, hx k (by omega)]; rfl⟩
        obtain ⟨b2, o2, ha2, hb2, d2⟩ : ∃ b2 o2, a2 = some ⟨b2, o2, none⟩ ∧ b2 < w.heap.size ∧ wr.cell? ⟨b2, o2 + k, none⟩ = some (.int .i64 (ys.getD k 0)) := by
          rcases K2.out with h0 | ⟨b, off, ha, hb, hx⟩
          · omega
          · exact ⟨b, off, ha, hb, by rw [hnx.cell (p := ⟨b, off + k, none⟩) hb, hx k (by omega)]; rfl⟩
        subst ha1 ha2
        have hki : (0 : Int) ≤ (k : Int) := by omega
        have hkj : (k : Int) < (xs.length : Int) := by omega
        have hkl : (k : Int) < (ys.length : Int) := by omega
        obtain ⟨x, hx⟩ : ∃ x, x = xs.getD k 0 := ⟨_, rfl⟩
        obtain ⟨y, hy⟩ : ∃ y, y = ys.getD k 0 := ⟨_, rfl⟩
        rw [← hx] at d1
        rw [← hy] at d2
        have HX := hide hx
        have HY := hide hy
        clear hx hy
        by_cases hxy : x = y
        · subst hxy
          go_wp2
          go_quiet (fail)
          go_wp2
          go_roundw
          case rel => exact ⟨k + 1, by omega, by go_num, (fun j hj => by
            by_cases e : j = k
            · subst e; rw [← HX.out, ← HY.out]
            · exact HALL.out j (by omega)), below_drewN hnx _⟩
          case measure => simp [intOf]; omega
        · have hd : (x != y) = true := by simpa using hxy
          go_wp2
          go_quiet (fail)
          go_wp2
          go_ret
          exact ⟨ret_bool_no (list_ne_at (k := k) (by rw [← HX.out, ← HY.out]; exact hxy)), below_drewN hnx _⟩
      · have hkn : k = xs.length := by omega
        have KN := hide hkn
        clear hkn
        go_wp2
        go_ret
        exact ⟨ret_bool_yes (list_eq_all hl (by rw [← KN.out]; exact HALL.out)), hnx⟩
  · clear k1 k2
    have hd : ((xs.length : Int) != (ys.length : Int)) = true := by simp; omega
    go_enter Tryd.func30, Tryd.ntmps30
    go_wp2
    go_ret
    exact ⟨ret_bool_no (fun h => hl (by rw [h])), Below.refl _ _⟩

/-- cells of numbers, as rows of structs of one cell -/
def intE (z : Int) : List Value := [.int .i64 z]

theorem intE_len (z : Int) : (intE z).length = 1 := rfl

theorem flat_int (l : List Int) : flat intE l = intsOf l := by
  induction l with
  | nil => rfl
  | cons x l ih => rw [flat_cons, ih]; rfl

def HopsAt (W : World) (v : Value) (l : List Int) (B : Nat) : Prop := StructsAt intE 1 W v l B

theorem HopsAt.then {W W' : World} {v : Value} {l : List Int} (h : HopsAt W v l W.heap.size) (hb : Below W.heap.size W W') : HopsAt W' v l W'.heap.size := RowAt.then h hb

theorem HopsAt.shape {W : World} {v : Value} {l : List Int} {B : Nat} (h : HopsAt W v l B) : ∃ a cap, v = .slice a l.length cap := by obtain ⟨a, cap, h, _⟩ := h; exact ⟨a, cap, h⟩

theorem HopsAt.ints {W : World} {v : Value} {l : List Int} {B : Nat} (h : HopsAt W v l B) : IntsAt W v l B := by
  obtain ⟨a, cap, hv, h2⟩ := h
  refine ⟨a, cap, hv, ?_⟩
  rcases h2 with h0 | ⟨b, off, ha, hb, hx⟩
  · exact .inl h0
  · refine .inr ⟨b, off, ha, hb, fun j hj => ?_⟩
    rw [hx j hj, flat_int]
    have hj' : j < l.length := by omega
    simp [intsOf, intC, List.getD, List.getElem?_eq_getElem hj']

theorem HopsAt.cell {W : World} {v : Value} {l : List Int} {B : Nat} (h : HopsAt W v l B) (i : Nat) (z : Int) (hz : l[i]? = some z) : ∃ b off cap, v = .slice (some ⟨b, off, none⟩) l.length cap ∧ b < B ∧ W.cell? ⟨b, off + i, none⟩ = some (.int .i64 z) := by
  obtain ⟨b, off, cap, hv, hb, hc⟩ := StructsAt.cell h intE_len i z hz
  exact ⟨b, off, cap, hv, hb, by have := hc 0 _ rfl; simpa using this⟩

theorem hops_of {W : World} {base : Nat} {v : Value} {l : List Int} (h : W.ownsRow base 3 1 v l.length (flat intE l)) : HopsAt W v l W.heap.size := owns_rowAt h

set_option maxRecDepth 100000 in
set_option maxHeartbeats 1000000 in
theorem toIntS_any (v : Value) (ls : List Int) (w : World) (hls : ls.length ≤ 1048576) (hv : HopsAt w v ls w.heap.size) :
    Calls Tryd.prog 22 #[v] w fun e w' => ∃ x, e = .returned x ∧ w'.ownsRow w.heap.size 3 1 x ls.length (flat intE ls) ∧ Below w.heap.size w w' := by
  obtain ⟨a, cap, rfl⟩ := hv.shape
  have HV := hide hv
  clear hv
  obtain ⟨i0, hi, hz0, hz1, hz2⟩ := info_parts Tryd.info3
  have HI := hide hi
  have HZ := hide hz0
  clear hi hz0
  go_enter Tryd.func22, Tryd.ntmps22
  go_wp2_with (first
    | (refine wpList_make_structs intE_len (by omega) _ rfl _ _ 22 rfl w.heap.size 3 i0 (.int .i64 0) 0 rfl Tryd.underlying22 HI.out HZ.out hz1 ls.length rfl rfl (by rw [hz2]; omega) (by unfold maxLen; omega) (Nat.le_refl _) ?_))
  intro w1 hown hg
  have b1 : Below w.heap.size w w1 := (Below.refl _ _).grown hg (Nat.le_refl _) (fun k hk => by simp at hk)
  have OW := hide hown
  clear hown hg
  go_wp2
  go_loopw [4] (fun i wr => ∃ k : Nat, k ≤ ls.length ∧ i = .int .i64 k ∧ wr.ownsRow w.heap.size 3 1 (.slice (some ⟨w.heap.size, 0, none⟩) ls.length ls.length) ls.length (flat intE (part ls 0 k)) ∧ Below w.heap.size w wr) (fun i _ => ls.length - (intOf i).toNat)
  case atStart => exact ⟨0, by omega, rfl, (by simpa [part] using OW.out), b1⟩
  case round =>
    obtain ⟨k, hk, rfl, hown, hnx⟩ := hrel
    by_cases hlt : k < ls.length
    · obtain ⟨l, hl⟩ : ∃ l, ls[k]? = some l := ⟨ls[k], List.getElem?_eq_getElem hlt⟩
      obtain ⟨b, off, cap', hve, hbb, c0⟩ := HV.out.cell k l hl
      cases hve
      rw [← hnx.cell (p := ⟨b, off + k, none⟩) hbb] at c0
      have HL := hide hl
      have hki : (0 : Int) ≤ (k : Int) := by omega
      have hkj : (k : Int) < (ls.length : Int) := by omega
      have hex : ∃ u, wr.cell? ⟨w.heap.size, k, none⟩ = some u := by
        rw [hown.cellAt _ (by omega)]
        have hln : k < (flat intE (part ls 0 k)).length := by rw [hown.1]; omega
        exact ⟨_, List.getElem?_eq_getElem hln⟩
      obtain ⟨u0, d0⟩ := hex
      have f0 := hown.frozenAt k
      have OW3 := hide hown
      clear hown hl
      go_wp2
      refine ⟨⟨k + 1, by omega, by go_num, ?_, hnx.setCell (Nat.le_refl _) _⟩, by simp [intOf]; omega⟩
      have h4 := (OW3.out.stored k (.int .i64 l)).1
      have e4 : (flat intE (part ls 0 k)).set k (.int .i64 l) = flat intE (part ls 0 (k + 1)) := by
        rw [← part_step ls 0 l k HL.out]
        have e5 := flat_set intE_len (part ls 0 k) k l (by rw [part_len _ _ _ hk]; exact hlt)
        rw [Nat.mul_one] at e5
        rw [← e5]
        rfl
      rw [e4] at h4
      exact h4
    · have hkn : k = ls.length := by omega
      have KN := hide hkn
      have OW2 := hide hown
      clear hkn hown
      go_wp2
      go_ret
      refine ⟨_, rfl, ?_, hnx⟩
      have h := OW2.out
      rw [KN.out, part_all] at h
      exact h

set_option maxRecDepth 100000 in
set_option maxHeartbeats 1000000 in
theorem szIntS_any (a : Option Addr) (n c : Nat) (q : Int) (w : World) (hn : (n : Int) ≤ 9223372036854775807) (hq0 : 0 ≤ q) (hq : q ≤ 1048576) :
    Calls Tryd.prog 14 #[.slice a n c, .int .i64 q] w fun e w' => e = .returned (.int .i64 (if q - (n : Int) < 0 then -1 else q - (n : Int))) ∧ w = w' := by
  by_cases h : q - (n : Int) < 0
  · rw [if_pos h]
    go_enter Tryd.func14, Tryd.ntmps14
    go_wp2
    go_ret
    exact ⟨rfl, rfl⟩
  · rw [if_neg h]
    go_enter Tryd.func14, Tryd.ntmps14
    go_wp2
    go_ret
    exact ⟨rfl, rfl⟩
end Go.Proofs.YtnfockhbcneegaaDoor
namespace Go.Proofs.YtnfockhbcneegaaDoor
open Go.RowKit

structure WayD where
  to : Int
  cost : Int
  hops : List Int
  deriving DecidableEq

def wayC (x : WayD) (v : Value) : Array Value := #[.int .i64 x.to, .int .i64 x.cost, v]

/-- the value v is the way x, whose row lies below B -/
def WayAt (W : World) (v : Value) (x : WayD) (B : Nat) : Prop := ∃ v1, v = .agg (wayC x v1) ∧ HopsAt W v1 x.hops B

theorem WayAt.then {W W' : World} {v : Value} {x : WayD} (h : WayAt W v x W.heap.size) (hb : Below W.heap.size W W') : WayAt W' v x W'.heap.size := by
  obtain ⟨v1, hv, h1⟩ := h
  exact ⟨v1, hv, h1.then hb⟩

end Go.Proofs.YtnfockhbcneegaaDoor
namespace Go.Proofs.YtnfockhbcneegaaDoor
open Go.RowKit

end Go.Proofs.YtnfockhbcneegaaDoor
namespace Go.Proofs.YtnfockhbcneegaaDoor
open Go.RowKit

/-- a way, and the value of its row -/
abbrev WP := WayD × Value

def encW (p : WP) : List Value := [.int .i64 p.1.to, .int .i64 p.1.cost, p.2]

theorem encW_len (p : WP) : (encW p).length = 3 := rfl

/-- a list to read: its cells, and each record's row, below B -/
def WaysAt (W : World) (v : Value) (ps : List WP) (B : Nat) : Prop := StructsAt encW 3 W v ps B ∧ ∀ p ∈ ps, HopsAt W p.2 p.1.hops B

theorem WaysAt.shape {W : World} {v : Value} {ps : List WP} {B : Nat} (h : WaysAt W v ps B) : ∃ a cap, v = .slice a ps.length cap := by
  obtain ⟨⟨a, cap, h, _⟩, _⟩ := h
  exact ⟨a, cap, h⟩

theorem WaysAt.later {W W' : World} {v : Value} {ps : List WP} {B C : Nat} (h : WaysAt W v ps B) (hb : Below C W W') (hBC : B ≤ C) : WaysAt W' v ps B :=
  ⟨RowAt.later h.1 hb hBC, fun p hp => RowAt.later (h.2 p hp) hb hBC⟩

theorem WaysAt.more {W : World} {v : Value} {ps : List WP} {B C : Nat} (h : WaysAt W v ps B) (hBC : B ≤ C) : WaysAt W v ps C :=
  ⟨RowAt.more h.1 hBC, fun p hp => RowAt.more (h.2 p hp) hBC⟩

theorem WaysAt.then {W W' : World} {v : Value} {ps : List WP} (h : WaysAt W v ps W.heap.size) (hb : Below W.heap.size W W') : WaysAt W' v ps W'.heap.size := (h.later hb (Nat.le_refl _)).more hb.size

/-- its row is the caller's own, in blocks of lo .. hi -/
def HopOwn (W : World) (lo hi : Nat) (p : WP) : Prop := W.ownsRow lo 3 1 p.2 p.1.hops.length (flat intE p.1.hops) ∧ ∀ k, p.2.ownBlock = some k → k < hi

theorem HopOwn.keep {W W' : World} {lo hi : Nat} {p : WP} (h : HopOwn W lo hi p) (hk : ∀ k, lo ≤ k → k < hi → k < W.heap.size → W'.heap[k]? = W.heap[k]?) : HopOwn W' lo hi p :=
  ⟨owns_keepB h.1 (fun k e => hk k (h.1.lt k e).1 (h.2 k e) (h.1.lt k e).2), h.2⟩

theorem HopOwn.wide {W : World} {lo hi lo' hi' : Nat} {p : WP} (h : HopOwn W lo hi p) (hl : lo' ≤ lo) (hh : hi ≤ hi') : HopOwn W lo' hi' p :=
  ⟨owns_baseS h.1 hl, fun k e => Nat.lt_of_lt_of_le (h.2 k e) hh⟩

theorem HopOwn.at {W : World} {lo hi : Nat} {p : WP} (h : HopOwn W lo hi p) : HopsAt W p.2 p.1.hops hi := by
  have h1 := owns_rowAt h.1
  obtain ⟨a, cap, hv, h2⟩ := h1
  refine ⟨a, cap, hv, ?_⟩
  rcases h2 with h0 | ⟨b, off, ha, hb1, hx⟩
  · exact .inl h0
  · exact .inr ⟨b, off, ha, h.2 b (by rw [hv, ha]; rfl), hx⟩

theorem WaysAt.cells {W : World} {v : Value} {ps : List WP} {B : Nat} (h : WaysAt W v ps B) (i : Nat) (p : WP) (hp : ps[i]? = some p) :
    ∃ b off cap, v = .slice (some ⟨b, off, none⟩) ps.length cap ∧ b < B ∧ W.cell? ⟨b, off + i * 3, none⟩ = some (.int .i64 p.1.to) ∧ W.cell? ⟨b, off + i * 3 + 1, none⟩ = some (.int .i64 p.1.cost) ∧ W.cell? ⟨b, off + i * 3 + 2, none⟩ = some p.2 ∧ HopsAt W p.2 p.1.hops B := by
  obtain ⟨b, off, cap, hv, hb, hc⟩ := StructsAt.cell h.1 encW_len i p hp
  exact ⟨b, off, cap, hv, hb, hc 0 _ rfl, hc 1 _ rfl, hc 2 _ rfl, h.2 p (List.mem_of_getElem? hp)⟩

end Go.Proofs.YtnfockhbcneegaaDoor
namespace Go.Proofs.YtnfockhbcneegaaDoor
open Go.RowKit

end Go.Proofs.YtnfockhbcneegaaDoor
namespace Go.Proofs.YtnfockhbcneegaaDoor
open Go.RowKit

end Go.Proofs.YtnfockhbcneegaaDoor
namespace Go.Proofs.YtnfockhbcneegaaDoor
open Go.RowKit

/-- a row of numbers of the caller's own, in blocks of lo .. hi -/
structure IntsOwn (W : World) (lo hi : Nat) (v : Value) (l : List Int) : Prop where
  row : W.ownsRow lo 3 1 v l.length (flat intE l)
  top : ∀ k, v.ownBlock = some k → k < hi

theorem IntsOwn.keep {W W' : World} {lo hi : Nat} {v : Value} {l : List Int} (h : IntsOwn W lo hi v l) (hk : ∀ k, lo ≤ k → k < hi → k < W.heap.size → W'.heap[k]? = W.heap[k]?) : IntsOwn W' lo hi v l :=
  ⟨owns_keepB h.row (fun k e => hk k (h.row.lt k e).1 (h.top k e) (h.row.lt k e).2), h.top⟩

theorem IntsOwn.below {W W' : World} {lo hi B : Nat} {v : Value} {l : List Int} (h : IntsOwn W lo hi v l) (hb : Below B W W') (hB : hi ≤ B) : IntsOwn W' lo hi v l := h.keep (fun k _ h2 _ => hb.block k (by omega))

theorem IntsOwn.frame {W W' : World} {lo hi l2 h2 : Nat} {v : Value} {l : List Int} (h : IntsOwn W lo hi v l) (hb : Frame l2 h2 W W') (hB : hi ≤ l2 ∨ h2 ≤ lo) : IntsOwn W' lo hi v l := h.keep (fun k h1 h2 h3 => hb.block k h3 (by omega))

theorem IntsOwn.wide {W : World} {lo hi lo' hi' : Nat} {v : Value} {l : List Int} (h : IntsOwn W lo hi v l) (hl : lo' ≤ lo) (hh : hi ≤ hi') : IntsOwn W lo' hi' v l := ⟨owns_baseS h.row hl, fun k e => Nat.lt_of_lt_of_le (h.top k e) hh⟩

theorem IntsOwn.at {W : World} {lo hi : Nat} {v : Value} {l : List Int} (h : IntsOwn W lo hi v l) : HopsAt W v l hi := by
  obtain ⟨a, cap, hv, h2⟩ := owns_rowAt h.row
  refine ⟨a, cap, hv, ?_⟩
  rcases h2 with h0 | ⟨b, off, ha, hb1, hx⟩
  · exact .inl h0
  · exact .inr ⟨b, off, ha, h.top b (by rw [hv, ha]; rfl), hx⟩

theorem IntsOwn.of {W : World} {lo : Nat} {v : Value} {l : List Int} (h : W.ownsRow lo 3 1 v l.length (flat intE l)) : IntsOwn W lo W.heap.size v l := ⟨h, fun k e => (h.lt k e).2⟩

end Go.Proofs.YtnfockhbcneegaaDoor
namespace Go.Proofs.YtnfockhbcneegaaDoor
open Go.RowKit

/-- a list whose records' rows are somebody's own, below hi -/
structure RecsIn (W : World) (hi : Nat) (v : Value) (ps : List RP) : Prop where
  row : W.ownsRow 0 47 8 v ps.length (flat encP ps)
  top : ∀ k, v.ownBlock = some k → k < hi
  nears : ∀ p ∈ ps, NearOwn W 0 hi p

theorem RecsOwn.in {W : World} {lo hi : Nat} {v : Value} {ps : List RP} (h : RecsOwn W lo hi v ps) : RecsIn W hi v ps := ⟨owns_baseS h.row (Nat.zero_le _), h.top, fun p hp => (h.nears p hp).wide (Nat.zero_le _) (Nat.le_refl _)⟩

theorem RecsIn.keep {W W' : World} {hi : Nat} {v : Value} {ps : List RP} (h : RecsIn W hi v ps) (hk : ∀ k, k < hi → k < W.heap.size → W'.heap[k]? = W.heap[k]?) : RecsIn W' hi v ps where
  row := owns_keepB h.row (fun k e => hk k (h.top k e) (h.row.lt k e).2)
  top := h.top
  nears := fun p hp => (h.nears p hp).keep (fun k _ h2 h3 => hk k h2 h3)

theorem RecsIn.below {W W' : World} {hi B : Nat} {v : Value} {ps : List RP} (h : RecsIn W hi v ps) (hb : Below B W W') (hB : hi ≤ B) : RecsIn W' hi v ps := h.keep (fun k h2 _ => hb.block k (by omega))

theorem RecsIn.wide {W : World} {hi hi' : Nat} {v : Value} {ps : List RP} (h : RecsIn W hi v ps) (hh : hi ≤ hi') : RecsIn W hi' v ps := ⟨h.row, fun k e => Nat.lt_of_lt_of_le (h.top k e) hh, fun p hp => (h.nears p hp).wide (Nat.le_refl _) hh⟩

theorem RecsIn.at {W : World} {hi : Nat} {v : Value} {ps : List RP} (h : RecsIn W hi v ps) : RecsAt W v ps hi := by
  refine ⟨?_, fun p hp => (h.nears p hp).at⟩
  have h1 := owns_rowAt h.row
  obtain ⟨a, cap, hv, h2⟩ := h1
  refine ⟨a, cap, hv, ?_⟩
  rcases h2 with h0 | ⟨b, off, ha, hb1, hx⟩
  · exact .inl h0
  · exact .inr ⟨b, off, ha, h.top b (by rw [hv, ha]; rfl), hx⟩

end Go.Proofs.YtnfockhbcneegaaDoor
namespace Go.Proofs.YtnfockhbcneegaaDoor
open Go.RowKit

theorem h3_0 (w : World) (a b c : Obj) : (((w.alloc a).alloc b).alloc c).heap[w.heap.size]? = some a := by
  rw [Below.heap_alloc _ _ _ (by simp; omega), Below.heap_alloc _ _ _ (by simp), heap_alloc_new]

theorem h3_1 (w : World) (a b c : Obj) : (((w.alloc a).alloc b).alloc c).heap[w.heap.size + 1]? = some b := by
  rw [Below.heap_alloc _ _ _ (by simp)]
  have := heap_alloc_new (w.alloc a) b
  simpa using this

theorem h3_2 (w : World) (a b c : Obj) : (((w.alloc a).alloc b).alloc c).heap[w.heap.size + 1 + 1]? = some c := by
  have := heap_alloc_new ((w.alloc a).alloc b) c
  simpa using this

structure PkD where
  kind : Int
  src : Int
  dst : Int
  area : Int
  heard : List Int

abbrev pkV (x : PkD) (v1 v2 : Value) : Value := .agg #[.int .i64 x.kind, .int .i64 x.src, .int .i64 x.dst, .int .i64 x.area, v1, v2]

/-- a packet to read -/
structure PkIn (W : World) (v1 v2 : Value) (x : PkD) (ps : List RP) (B : Nat) : Prop where
  heard : HopsAt W v1 x.heard B
  list : RecsAt W v2 ps B

def PkAt (W : World) (v : Value) (x : PkD) (ps : List RP) (B : Nat) : Prop := ∃ v1 v2, v = pkV x v1 v2 ∧ HopsAt W v1 x.heard B ∧ RecsAt W v2 ps B

def PkLen (x : PkD) (ps : List RP) : Prop := x.heard.length ≤ maxLen ∧ ps.length ≤ maxLen ∧ ∀ p ∈ ps, p.1.near.length ≤ maxLen

theorem PkAt.in {W : World} {v : Value} {x : PkD} {ps : List RP} {B : Nat} (h : PkAt W v x ps B) : ∃ v1 v2, v = pkV x v1 v2 ∧ PkIn W v1 v2 x ps B := by
  obtain ⟨v1, v2, h0, h1, h2⟩ := h
  exact ⟨v1, v2, h0, h1, h2⟩

theorem PkIn.later {W W' : World} {v1 v2 : Value} {x : PkD} {ps : List RP} {B C : Nat} (h : PkIn W v1 v2 x ps B) (hb : Below C W W') (hBC : B ≤ C) : PkIn W' v1 v2 x ps B :=
  ⟨RowAt.later h.heard hb hBC, h.list.later hb hBC⟩

theorem PkIn.more {W : World} {v1 v2 : Value} {x : PkD} {ps : List RP} {B C : Nat} (h : PkIn W v1 v2 x ps B) (hBC : B ≤ C) : PkIn W v1 v2 x ps C :=
  ⟨RowAt.more h.heard hBC, h.list.more hBC⟩

theorem PkIn.then {W W' : World} {v1 v2 : Value} {x : PkD} {ps : List RP} (h : PkIn W v1 v2 x ps W.heap.size) (hb : Below W.heap.size W W') : PkIn W' v1 v2 x ps W'.heap.size := (h.later hb (Nat.le_refl _)).more hb.size

theorem PkIn.shapes {W : World} {v1 v2 : Value} {x : PkD} {ps : List RP} {B : Nat} (h : PkIn W v1 v2 x ps B) : (∃ a c, v1 = .slice a x.heard.length c) ∧ ∃ a c, v2 = .slice a ps.length c :=
  ⟨h.heard.shape, h.list.shape⟩

/-- how many numbers it has -/
def totP (x : PkD) (ps : List RP) : Nat := x.heard.length + tot ps

/-- a packet of the caller's own -/
structure PkOwn (W : World) (lo hi : Nat) (v1 v2 : Value) (x : PkD) (ps : List RP) (m : Nat) : Prop where
  o1 : lo ≤ m
  o2 : m ≤ hi
  heard : IntsOwn W lo m v1 x.heard
  list : RecsOwn W m hi v2 ps

theorem PkOwn.in {W : World} {lo hi m : Nat} {v1 v2 : Value} {x : PkD} {ps : List RP} (h : PkOwn W lo hi v1 v2 x ps m) : PkIn W v1 v2 x ps hi where
  heard := RowAt.more h.heard.at h.o2
  list := h.list.at

theorem PkOwn.keep {W W' : World} {lo hi m : Nat} {v1 v2 : Value} {x : PkD} {ps : List RP} (h : PkOwn W lo hi v1 v2 x ps m) (hk : ∀ k, lo ≤ k → k < hi → k < W.heap.size → W'.heap[k]? = W.heap[k]?) : PkOwn W' lo hi v1 v2 x ps m where
  o1 := h.o1
  o2 := h.o2
  heard := h.heard.keep (fun k a b c => by have := h.o2; exact hk k a (by omega) c)
  list := h.list.keep (fun k a b c => by have := h.o1; exact hk k (by omega) b c)

theorem PkOwn.below {W W' : World} {lo hi m B : Nat} {v1 v2 : Value} {x : PkD} {ps : List RP} (h : PkOwn W lo hi v1 v2 x ps m) (hb : Below B W W') (hB : hi ≤ B) : PkOwn W' lo hi v1 v2 x ps m := h.keep (fun k _ h2 _ => hb.block k (by omega))

theorem PkOwn.frame {W W' : World} {lo hi m l2 h2 : Nat} {v1 v2 : Value} {x : PkD} {ps : List RP} (h : PkOwn W lo hi v1 v2 x ps m) (hb : Frame l2 h2 W W') (hB : hi ≤ l2 ∨ h2 ≤ lo) : PkOwn W' lo hi v1 v2 x ps m := h.keep (fun k a b c => hb.block k c (by omega))

theorem PkOwn.wide {W : World} {lo lo' hi hi' m : Nat} {v1 v2 : Value} {x : PkD} {ps : List RP} (h : PkOwn W lo hi v1 v2 x ps m) (hl : lo' ≤ lo) (hh : hi ≤ hi') : PkOwn W lo' hi' v1 v2 x ps m :=
  ⟨Nat.le_trans hl h.o1, Nat.le_trans h.o2 hh, h.heard.wide hl (Nat.le_refl _), h.list.wide (Nat.le_refl _) hh⟩

set_option maxRecDepth 100000 in
set_option maxHeartbeats 1000000 in
theorem szPacket_any (v1 v2 : Value) (x : PkD) (ps : List RP) (q : Int) (w : World) (hlen : PkLen x ps) (hq0 : 0 ≤ q) (hq : q ≤ 1048576) (hv : PkIn w v1 v2 x ps w.heap.size) :
    Calls Tryd.prog 5 #[pkV x v1 v2, .int .i64 q] w fun e w' => ∃ r : Int, e = .returned (.int .i64 r) ∧ (r < 0 ∨ (0 ≤ r ∧ r = q - (totP x ps : Int))) ∧ Below w.heap.size w w' := by
  obtain ⟨⟨a1, c1, rfl⟩, ⟨a2, c2, rfl⟩⟩ := hv.shapes
  have hm : maxLen = 9223372036854775807 := rfl
  have l1 : (x.heard.length : Int) ≤ 9223372036854775807 := by have := hlen.1; omega
  have HX := hide hv
  have HL := hide hlen
  have HT := hide (show (totP x ps : Int) = (x.heard.length : Int) + (tot ps : Int) by unfold totP; omega)
  clear hv hlen hm
  have BA : Below w.heap.size w (w.alloc (.cells #[.int .i64 x.kind, .int .i64 x.src, .int .i64 x.dst, .int .i64 x.area, .slice a1 x.heard.length c1, .slice a2 ps.length c2] 25)) := (Below.refl _ _).alloc (Nat.le_refl _) _
  have g0 := heap_alloc_new w (.cells #[.int .i64 x.kind, .int .i64 x.src, .int .i64 x.dst, .int .i64 x.area, .slice a1 x.heard.length c1, .slice a2 ps.length c2] 25)
  have HSI := hide (szIntS_any a1 x.heard.length c1 q (w.alloc (.cells #[.int .i64 x.kind, .int .i64 x.src, .int .i64 x.dst, .int .i64 x.area, .slice a1 x.heard.length c1, .slice a2 ps.length c2] 25)) l1 hq0 hq)
  have G0 := hide g0
  clear g0
  go_enter Tryd.func5, Tryd.ntmps5
  go_wp2_with fail
  obtain ⟨w1, hw1⟩ : ∃ W, W = w.alloc (.cells #[.int .i64 x.kind, .int .i64 x.src, .int .i64 x.dst, .int .i64 x.area, .slice a1 x.heard.length c1, .slice a2 ps.length c2] 25) := ⟨_, rfl⟩
  rw [← hw1] at BA G0 HSI ⊢
  clear hw1
  refine HSI.out.mono ?_
  rintro e w2 ⟨rfl, rfl⟩
  by_cases h3 : q - (x.heard.length : Int) < 0
  · rw [if_pos h3]
    go_wp2
    go_ret
    exact ⟨-1, rfl, .inl (by omega), BA⟩
  rw [if_neg h3]
  obtain ⟨z, hz⟩ : ∃ z, z = q - (x.heard.length : Int) := ⟨_, rfl⟩
  rw [← hz] at h3 ⊢
  have hz0 : 0 ≤ z := by omega
  have hz1 : z ≤ 1048576 := by omega
  have HZ := hide hz
  clear hz
  have s5 := cells_at G0.out 5
  simp at s5
  have HSR := hide (szRecordS_any (.slice a2 ps.length c2) ps z w1 HL.out.2.1 HL.out.2.2 hz0 hz1 ((HX.out.list.later BA (Nat.le_refl _)).more BA.size))
  go_wp2_with fail
  refine HSR.out.mono ?_
  rintro e w3 ⟨r, rfl, hr, b3⟩
  have B3 : Below w.heap.size w w3 := BA.trans (b3.mono BA.size)
  clear b3 s5
  rcases hr with hr | ⟨hr0, hr⟩
  · go_wp2
    go_ret
    exact ⟨-1, rfl, .inl (by omega), B3⟩
  · have hr1 : ¬ r < 0 := by omega
    have HR := hide hr
    clear hr
    go_wp2
    go_ret
    exact ⟨r, rfl, .inr ⟨hr0, by rw [HT.out]; have := HR.out; have := HZ.out; omega⟩, B3⟩

set_option maxRecDepth 100000 in
set_option maxHeartbeats 2000000 in
theorem toPacket_any (v1 v2 : Value) (x : PkD) (ps : List RP) (w : World) (ht : totP x ps ≤ 1048576) (hv : PkIn w v1 v2 x ps w.heap.size) :
    Calls Tryd.prog 7 #[pkV x v1 v2] w fun e w' => ∃ u1 u2 qs m, e = .returned (pkV x u1 u2) ∧ fsts qs = fsts ps ∧ PkOwn w' w.heap.size w'.heap.size u1 u2 x qs m ∧ Below w.heap.size w w' := by
  obtain ⟨⟨a1, c1, rfl⟩, ⟨a2, c2, rfl⟩⟩ := hv.shapes
  have hlH : x.heard.length ≤ 1048576 := by unfold totP at ht; omega
  have hlR : tot ps ≤ 1048576 := by unfold totP at ht; omega
  have HX := hide hv
  clear hv ht
  go_enter Tryd.func7, Tryd.ntmps7
  go_wp2_with fail
  have hw0 := h3_0 w (.cells #[.int .i64 x.kind, .int .i64 x.src, .int .i64 x.dst, .int .i64 x.area, .slice a1 x.heard.length c1, .slice a2 ps.length c2] 25) (.cells #[.int .i64 0, .int .i64 0, .int .i64 0, .int .i64 0, .slice none 0 0, .slice none 0 0] 31) (.cells #[.int .i64 x.kind, .int .i64 x.src, .int .i64 x.dst, .int .i64 x.area, .slice none 0 0, .slice none 0 0] 31)
  have hw1 := h3_1 w (.cells #[.int .i64 x.kind, .int .i64 x.src, .int .i64 x.dst, .int .i64 x.area, .slice a1 x.heard.length c1, .slice a2 ps.length c2] 25) (.cells #[.int .i64 0, .int .i64 0, .int .i64 0, .int .i64 0, .slice none 0 0, .slice none 0 0] 31) (.cells #[.int .i64 x.kind, .int .i64 x.src, .int .i64 x.dst, .int .i64 x.area, .slice none 0 0, .slice none 0 0] 31)
  have hw2 := h3_2 w (.cells #[.int .i64 x.kind, .int .i64 x.src, .int .i64 x.dst, .int .i64 x.area, .slice a1 x.heard.length c1, .slice a2 ps.length c2] 25) (.cells #[.int .i64 0, .int .i64 0, .int .i64 0, .int .i64 0, .slice none 0 0, .slice none 0 0] 31) (.cells #[.int .i64 x.kind, .int .i64 x.src, .int .i64 x.dst, .int .i64 x.area, .slice none 0 0, .slice none 0 0] 31)
  have bw := below_three (w := w) (.cells #[.int .i64 x.kind, .int .i64 x.src, .int .i64 x.dst, .int .i64 x.area, .slice a1 x.heard.length c1, .slice a2 ps.length c2] 25) (.cells #[.int .i64 0, .int .i64 0, .int .i64 0, .int .i64 0, .slice none 0 0, .slice none 0 0] 31) (.cells #[.int .i64 x.kind, .int .i64 x.src, .int .i64 x.dst, .int .i64 x.area, .slice none 0 0, .slice none 0 0] 31)
  generalize (((w.alloc (.cells #[.int .i64 x.kind, .int .i64 x.src, .int .i64 x.dst, .int .i64 x.area, .slice a1 x.heard.length c1, .slice a2 ps.length c2] 25)).alloc (.cells #[.int .i64 0, .int .i64 0, .int .i64 0, .int .i64 0, .slice none 0 0, .slice none 0 0] 31)).alloc (.cells #[.int .i64 x.kind, .int .i64 x.src, .int .i64 x.dst, .int .i64 x.area, .slice none 0 0, .slice none 0 0] 31)) = w1 at *
  refine (toIntS_any _ x.heard w1 hlH (HX.out.heard.then bw)).mono ?_
  rintro e w4 ⟨p1, rfl, ho1, b4⟩
  obtain ⟨p1a, p1c, rfl⟩ := owns_lenS ho1
  have hl1 := lt_of_heap hw2
  have q0 := (b4.block _ (lt_of_heap hw0)).trans hw0
  have q1 := (b4.block _ (lt_of_heap hw1)).trans hw1
  have q2 := (b4.block _ hl1).trans hw2
  have hz4 := b4.size
  have bw4 : Below w.heap.size w w4 := bw.trans (b4.mono bw.size)
  have O1 := hide ho1
  have HW0 := hide q0
  have HW1 := hide q1
  have HW2 := hide q2
  have s4 := cells_at q2 4
  have f4 := frozen_at q2 4
  have t5 := cells_at q0 5
  simp at s4 t5
  clear ho1 q0 q1 q2 hw0 hw1 hw2 b4
  go_wp2_with fail
  have o1 := owns_set (p := w.heap.size + 1 + 1) (j := 4) (u := (.slice p1a x.heard.length p1c)) O1.out (by omega)
  have q1 : (w4.setCell ⟨w.heap.size + 1 + 1, 4, none⟩ (.slice p1a x.heard.length p1c)).heap[w.heap.size + 1]? = some (.cells #[.int .i64 0, .int .i64 0, .int .i64 0, .int .i64 0, .slice none 0 0, .slice none 0 0] 31) := by
    rw [heap_setCell_other _ ⟨w.heap.size + 1 + 1, 4, none⟩ _ _ (by show w.heap.size + 1 ≠ w.heap.size + 1 + 1; omega)]
    exact HW1.out
  have q2 : (w4.setCell ⟨w.heap.size + 1 + 1, 4, none⟩ (.slice p1a x.heard.length p1c)).heap[w.heap.size + 1 + 1]? = some (.cells #[.int .i64 x.kind, .int .i64 x.src, .int .i64 x.dst, .int .i64 x.area, .slice p1a x.heard.length p1c, .slice none 0 0] 31) := heap_setCell_same _ _ 4 _ _ (.slice p1a x.heard.length p1c) HW2.out
  have bw5 : Below w.heap.size w (w4.setCell ⟨w.heap.size + 1 + 1, 4, none⟩ (.slice p1a x.heard.length p1c)) := bw4.setCell (by show w.heap.size ≤ w.heap.size + 1 + 1; omega) _
  have z5 : (w4.setCell ⟨w.heap.size + 1 + 1, 4, none⟩ (.slice p1a x.heard.length p1c)).heap.size = w4.heap.size := by simp
  generalize (w4.setCell ⟨w.heap.size + 1 + 1, 4, none⟩ (.slice p1a x.heard.length p1c)) = w5 at *
  clear s4 t5 f4 HW0 HW1 HW2 O1
  refine (toRecordS_any _ ps w5 (Nat.le_trans (tot_len ps) hlR) (fun _ hp => Nat.le_trans (tot_mem hp) hlR) (HX.out.list.then bw5)).mono ?_
  rintro e w4 ⟨p2, qs, rfl, fq, ho2, b6⟩
  obtain ⟨p2a, p2c, rfl⟩ := owns_lenS ho2.row
  have hl5 := lt_of_heap q2
  rw [← b6.block _ (lt_of_heap q1)] at q1
  rw [← b6.block _ hl5] at q2
  have hz6 := b6.size
  have bw6 : Below w.heap.size w w4 := bw5.trans (b6.mono bw5.size)
  have hl6 := lt_of_heap q2
  have OW := hide (show PkOwn w4 w1.heap.size w4.heap.size (.slice p1a x.heard.length p1c) (.slice p2a qs.length p2c) x qs w5.heap.size from
    { o1 := by omega
      o2 := by omega
      heard := ⟨owns_below o1 b6 (by omega), fun k hk => (o1.lt k hk).2⟩
      list := ho2 })
  have FQ := hide fq
  have r0 := cells_at q1 0
  have t0 := cells_at q2 0
  have fz0 := frozen_at q1 0
  have r1 := cells_at q1 1
  have t1 := cells_at q2 1
  have fz1 := frozen_at q1 1
  have r2 := cells_at q1 2
  have t2 := cells_at q2 2
  have fz2 := frozen_at q1 2
  have r3 := cells_at q1 3
  have t3 := cells_at q2 3
  have fz3 := frozen_at q1 3
  have r4 := cells_at q1 4
  have t4 := cells_at q2 4
  have fz4 := frozen_at q1 4
  have r5 := cells_at q1 5
  have t5 := cells_at q2 5
  have fz5 := frozen_at q1 5
  have e5 := frozen_at q2 5
  simp at r0 r1 r2 r3 r4 r5 t0 t1 t2 t3 t4 t5
  have Q1 := hide q1
  have Q2 := hide q2
  clear o1 ho2 q1 q2 fq
  go_wp2
  have hfin : (((((((w4.setCell ⟨w.heap.size + 1 + 1, 5, none⟩ (.slice p2a qs.length p2c)).setCell ⟨w.heap.size + 1, 0, none⟩ (.int .i64 x.kind)).setCell ⟨w.heap.size + 1, 1, none⟩ (.int .i64 x.src)).setCell ⟨w.heap.size + 1, 2, none⟩ (.int .i64 x.dst)).setCell ⟨w.heap.size + 1, 3, none⟩ (.int .i64 x.area)).setCell ⟨w.heap.size + 1, 4, none⟩ (.slice p1a x.heard.length p1c)).setCell ⟨w.heap.size + 1, 5, none⟩ (.slice p2a qs.length p2c)).heap[w.heap.size + 1]? = some (.cells #[.int .i64 x.kind, .int .i64 x.src, .int .i64 x.dst, .int .i64 x.area, .slice p1a x.heard.length p1c, .slice p2a qs.length p2c] 31) := by
    have k0 : (w4.setCell ⟨w.heap.size + 1 + 1, 5, none⟩ (.slice p2a qs.length p2c)).heap[w.heap.size + 1]? = some (.cells #[.int .i64 0, .int .i64 0, .int .i64 0, .int .i64 0, .slice none 0 0, .slice none 0 0] 31) := by
      rw [heap_setCell_other _ ⟨w.heap.size + 1 + 1, 5, none⟩ _ _ (by show w.heap.size + 1 ≠ w.heap.size + 1 + 1; omega)]
      exact Q1.out
    have k1 := heap_setCell_same _ _ 0 _ _ (.int .i64 x.kind) k0
    have k2 := heap_setCell_same _ _ 1 _ _ (.int .i64 x.src) k1
    have k3 := heap_setCell_same _ _ 2 _ _ (.int .i64 x.dst) k2
    have k4 := heap_setCell_same _ _ 3 _ _ (.int .i64 x.area) k3
    have k5 := heap_setCell_same _ _ 4 _ _ (.slice p1a x.heard.length p1c) k4
    have k6 := heap_setCell_same _ _ 5 _ _ (.slice p2a qs.length p2c) k5
    exact k6
  have hkeep : ∀ k, w1.heap.size ≤ k → (((((((w4.setCell ⟨w.heap.size + 1 + 1, 5, none⟩ (.slice p2a qs.length p2c)).setCell ⟨w.heap.size + 1, 0, none⟩ (.int .i64 x.kind)).setCell ⟨w.heap.size + 1, 1, none⟩ (.int .i64 x.src)).setCell ⟨w.heap.size + 1, 2, none⟩ (.int .i64 x.dst)).setCell ⟨w.heap.size + 1, 3, none⟩ (.int .i64 x.area)).setCell ⟨w.heap.size + 1, 4, none⟩ (.slice p1a x.heard.length p1c)).setCell ⟨w.heap.size + 1, 5, none⟩ (.slice p2a qs.length p2c)).heap[k]? = w4.heap[k]? := fun k hk => by
    rw [heap_setCell_other _ ⟨w.heap.size + 1, 5, none⟩ _ _ (by show k ≠ w.heap.size + 1; omega), heap_setCell_other _ ⟨w.heap.size + 1, 4, none⟩ _ _ (by show k ≠ w.heap.size + 1; omega), heap_setCell_other _ ⟨w.heap.size + 1, 3, none⟩ _ _ (by show k ≠ w.heap.size + 1; omega), heap_setCell_other _ ⟨w.heap.size + 1, 2, none⟩ _ _ (by show k ≠ w.heap.size + 1; omega), heap_setCell_other _ ⟨w.heap.size + 1, 1, none⟩ _ _ (by show k ≠ w.heap.size + 1; omega), heap_setCell_other _ ⟨w.heap.size + 1, 0, none⟩ _ _ (by show k ≠ w.heap.size + 1; omega), heap_setCell_other _ ⟨w.heap.size + 1 + 1, 5, none⟩ _ _ (by show k ≠ w.heap.size + 1 + 1; omega)]
  have hsize : (((((((w4.setCell ⟨w.heap.size + 1 + 1, 5, none⟩ (.slice p2a qs.length p2c)).setCell ⟨w.heap.size + 1, 0, none⟩ (.int .i64 x.kind)).setCell ⟨w.heap.size + 1, 1, none⟩ (.int .i64 x.src)).setCell ⟨w.heap.size + 1, 2, none⟩ (.int .i64 x.dst)).setCell ⟨w.heap.size + 1, 3, none⟩ (.int .i64 x.area)).setCell ⟨w.heap.size + 1, 4, none⟩ (.slice p1a x.heard.length p1c)).setCell ⟨w.heap.size + 1, 5, none⟩ (.slice p2a qs.length p2c)).heap.size = w4.heap.size := by simp
  have hbel : Below w.heap.size w (((((((w4.setCell ⟨w.heap.size + 1 + 1, 5, none⟩ (.slice p2a qs.length p2c)).setCell ⟨w.heap.size + 1, 0, none⟩ (.int .i64 x.kind)).setCell ⟨w.heap.size + 1, 1, none⟩ (.int .i64 x.src)).setCell ⟨w.heap.size + 1, 2, none⟩ (.int .i64 x.dst)).setCell ⟨w.heap.size + 1, 3, none⟩ (.int .i64 x.area)).setCell ⟨w.heap.size + 1, 4, none⟩ (.slice p1a x.heard.length p1c)).setCell ⟨w.heap.size + 1, 5, none⟩ (.slice p2a qs.length p2c)) := (((((((bw6.setCell (by show w.heap.size ≤ w.heap.size + 1 + 1; omega) _).setCell (by show w.heap.size ≤ w.heap.size + 1; omega) _).setCell (by show w.heap.size ≤ w.heap.size + 1; omega) _).setCell (by show w.heap.size ≤ w.heap.size + 1; omega) _).setCell (by show w.heap.size ≤ w.heap.size + 1; omega) _).setCell (by show w.heap.size ≤ w.heap.size + 1; omega) _).setCell (by show w.heap.size ≤ w.heap.size + 1; omega) _)
  try simp only [Exit.inBlock, Exit.then]
  refine bodyPost_ret (results_cell_row rfl _ _ (w.heap.size + 1) 31 #[.int .i64 x.kind, .int .i64 x.src, .int .i64 x.dst, .int .i64 x.area, .slice p1a x.heard.length p1c, .slice p2a qs.length p2c] (0, 0) _ rfl hfin Tryd.underlying31 rfl (by kernel_rfl)) rfl ?_
  exact ⟨_, _, qs, _, rfl, FQ.out, ((OW.out.keep (fun k h1 _ _ => hkeep k h1)).wide (by omega) (by rw [hsize]; omega)), hbel⟩

set_option maxRecDepth 100000 in
set_option maxHeartbeats 2000000 in
theorem eqPacket_any (v1 v2 u1 u2 : Value) (x : PkD) (ps qs : List RP) (w : World) (ht : totP x ps ≤ 1048576) (h1 : PkIn w v1 v2 x ps w.heap.size) (h2 : PkIn w u1 u2 x qs w.heap.size) (he : fsts ps = fsts qs) :
    Calls Tryd.prog 9 #[pkV x v1 v2, pkV x u1 u2] w fun e w' => e = .returned (.bool true) ∧ Below w.heap.size w w' := by
  obtain ⟨⟨a1, c1, rfl⟩, ⟨a2, c2, rfl⟩⟩ := h1.shapes
  obtain ⟨⟨b1, d1, rfl⟩, ⟨b2, d2, rfl⟩⟩ := h2.shapes
  have hlH : x.heard.length ≤ 1048576 := by unfold totP at ht; omega
  have hlR : tot ps ≤ 1048576 := by unfold totP at ht; omega
  have H1 := hide h1
  have H2 := hide h2
  have HE := hide he
  clear h1 h2 he ht
  go_enter Tryd.func9, Tryd.ntmps9
  go_wp2_with fail
  obtain ⟨w1, hw1⟩ : ∃ w1, w1 = (w.alloc (.cells #[.int .i64 x.kind, .int .i64 x.src, .int .i64 x.dst, .int .i64 x.area, .slice a1 x.heard.length c1, .slice a2 ps.length c2] 31)).alloc (.cells #[.int .i64 x.kind, .int .i64 x.src, .int .i64 x.dst, .int .i64 x.area, .slice b1 x.heard.length d1, .slice b2 qs.length d2] 31) := ⟨_, rfl⟩
  have B1 : Below w.heap.size w w1 := by rw [hw1]; exact below_two _ _
  have p0 : w1.heap[w.heap.size]? = some (.cells #[.int .i64 x.kind, .int .i64 x.src, .int .i64 x.dst, .int .i64 x.area, .slice a1 x.heard.length c1, .slice a2 ps.length c2] 31) := by rw [hw1, Below.heap_alloc _ _ _ (by simp), heap_alloc_new]
  have q0 : w1.heap[w.heap.size + 1]? = some (.cells #[.int .i64 x.kind, .int .i64 x.src, .int .i64 x.dst, .int .i64 x.area, .slice b1 x.heard.length d1, .slice b2 qs.length d2] 31) := by
    rw [hw1]
    have := heap_alloc_new (w.alloc (.cells #[.int .i64 x.kind, .int .i64 x.src, .int .i64 x.dst, .int .i64 x.area, .slice a1 x.heard.length c1, .slice a2 ps.length c2] 31)) (.cells #[.int .i64 x.kind, .int .i64 x.src, .int .i64 x.dst, .int .i64 x.area, .slice b1 x.heard.length d1, .slice b2 qs.length d2] 31)
    simpa using this
  rw [← hw1]
  clear hw1
  have HEI := eqI_any _ _ x.heard x.heard w1 (HopsAt.ints (H1.out.then B1).heard) (HopsAt.ints (H2.out.then B1).heard) hlH
  rw [decide_eq_true rfl] at HEI
  refine HEI.mono ?_
  rintro e w3 ⟨rfl, b3⟩
  have p1 := (b3.block _ (lt_of_heap p0)).trans p0
  have q1 := (b3.block _ (lt_of_heap q0)).trans q0
  have B3 : Below w.heap.size w w3 := B1.trans (b3.mono B1.size)
  have HER := eqRecordS_any _ _ ps qs w3 (H1.out.then B3).list (H2.out.then B3).list (Nat.le_trans (tot_len ps) hlR) (fun _ hp => Nat.le_trans (tot_mem hp) hlR)
  rw [decide_eq_true HE.out] at HER
  have HR := hide HER
  have s6 := cells_at p1 5
  have t6 := cells_at q1 5
  simp at s6 t6
  clear p0 q0 p1 q1 HER HEI b3
  go_wp2_with fail
  refine HR.out.mono ?_
  rintro e w4 ⟨rfl, b4⟩
  have B4 : Below w.heap.size w w4 := B3.trans (b4.mono B3.size)
  go_wp2
  go_ret
  exact ⟨rfl, B4⟩
end Go.Proofs.YtnfockhbcneegaaDoor
namespace Go.Proofs.YtnfockhbcneegaaDoor
open Go.RowKit

set_option linter.unusedSimpArgs false

def nodesB (h : List Int) : Bool := allOk (fun z => inB z 1 6) h && ascB cmpN h

def toldB (a : Int) (xs : List RecD) : Bool := allOk (inScope a) xs && storeB xs

def headsB (xs : List RecD) : Bool := allOk (fun r => sameBodyB r (headD r)) xs

def saidB (x : PkD) (xs : List RecD) : Bool :=
  if x.kind = 1 then nodesB x.heard && (xs.length == 0)
  else if x.kind = 2 then (x.heard.length == 0) && (toldB x.area xs && headsB xs)
  else if x.kind = 3 then (x.heard.length == 0) && toldB x.area xs
  else false

def pkB (x : PkD) (xs : List RecD) : Bool := inB x.src 1 6 && (inB x.dst 1 6 && (!(x.src == x.dst) && (inB x.area 0 2 && saidB x xs)))

set_option maxRecDepth 100000 in
set_option maxHeartbeats 4000000 in
theorem ascI_any (v : Value) (ls : List Int) (w : World) (hls : ls.length ≤ 1048576) (hv : HopsAt w v ls w.heap.size) :
    Calls Tryd.prog 93 #[v, .func (.func 94) #[] #[]] w fun e w' => e = .returned (.bool (ascB cmpN ls)) ∧ Below w.heap.size w w' := by
  obtain ⟨a, cap, rfl⟩ := HopsAt.shape hv
  have HV := hide hv
  clear hv
  go_enter Tryd.func93, Tryd.ntmps93
  go_wp2
  go_loopw [5] (fun i wr => ∃ k : Nat, 1 ≤ k ∧ (k ≤ ls.length ∨ k = 1) ∧ i = .int .i64 k ∧ (∀ j, j < k → ascAt cmpN ls j = true) ∧ Below w.heap.size w wr) (fun i _ => ls.length + 1 - (intOf i).toNat)
  case atStart => exact ⟨1, by omega, by omega, rfl, fun j hj => by obtain rfl : j = 0 := by omega
                                                                    rfl, Below.refl _ _⟩
  case round =>
    obtain ⟨k, hk1, hk, rfl, hno, hb⟩ := hrel
    have HNO := hide hno
    clear hno
    by_cases hlt : k < ls.length
    · obtain ⟨l, hl⟩ : ∃ l, ls[k]? = some l := ⟨ls[k], List.getElem?_eq_getElem hlt⟩
      obtain ⟨j, hj⟩ : ∃ j, k = j + 1 := ⟨k - 1, by omega⟩
      obtain ⟨p, hp⟩ : ∃ p, ls[j]? = some p := ⟨ls[j], List.getElem?_eq_getElem (by omega)⟩
      obtain ⟨b, off, cap', hve, hbb, c0⟩ := HopsAt.cell HV.out k l hl
      cases hve
      obtain ⟨b', off', cap2, hve2, hbb2, d0⟩ := HopsAt.cell HV.out j p hp
      cases hve2
      rw [← hb.cell (p := ⟨b, off + k, none⟩) hbb] at c0
      rw [← hb.cell (p := ⟨b, off + j, none⟩) hbb] at d0
      have hat : ascAt cmpN ls k = decide (cmpN p l < 0) := by rw [hj]; exact ascAt_eq hp (by rw [← hj]; exact hl)
      have hzr := hb.size
      have hbr : b < wr.heap.size := by omega
      have hki : (0 : Int) ≤ (k : Int) := by omega
      have hkj : (k : Int) < (ls.length : Int) := by omega
      have hj1 : (k : Int) - 1 = (j : Int) := by omega
      have hj2 : (0 : Int) ≤ (j : Int) := by omega
      have hj3 : (j : Int) < (ls.length : Int) := by omega
      have hj5 : IntKind.i64.wrap (j : Int) = (j : Int) := wrap_fit _ (by omega) (by omega)
      have HORD := hide (compare_any p l)
      have HAT := hide hat
      have HJ := hide hj
      clear hl hp hat hj
      obtain ⟨x, hx⟩ : ∃ x, x = cmpN p l := ⟨_, rfl⟩
      rw [← hx] at HORD HAT
      clear hx
      by_cases hx0 : x < 0
      · have hx1 : ¬ (0 : Int) ≤ x := by omega
        rw [decide_eq_true hx0] at HAT
        go_wp2
        go_region_held3 (fun W => W.cell? ⟨b, off + k, none⟩ = some (.int .i64 l) ∧ W.cell? ⟨b, off + j, none⟩ = some (.int .i64 p)) (first | go_keep | assumption) (first | (go_at_call 94; refine (HORD.out _).mono ?_; rintro e w2 ⟨rfl, rfl⟩))
        go_wp2
        exact ⟨⟨k + 1, by omega, by omega, by go_num, next_true HNO.out HAT.out, hb.drew⟩, by simp [intOf]; omega⟩
      · have hx1 : (0 : Int) ≤ x := by omega
        rw [decide_eq_false hx0] at HAT
        have hf : ascB cmpN ls = false := all_false hlt HAT.out
        have HF := hide hf
        clear hf
        go_wp2
        go_region_held3 (fun W => W.cell? ⟨b, off + k, none⟩ = some (.int .i64 l) ∧ W.cell? ⟨b, off + j, none⟩ = some (.int .i64 p)) (first | go_keep | assumption) (first | (go_at_call 94; refine (HORD.out _).mono ?_; rintro e w2 ⟨rfl, rfl⟩))
        go_wp2
        go_ret
        exact ⟨ret_bool HF.out, hb.drew⟩
    · have hall : ascB cmpN ls = true := all_true fun i hi => HNO.out i (by omega)
      have HA := hide hall
      clear hall
      go_wp2
      go_ret
      exact ⟨ret_bool HA.out, hb⟩

theorem nodes_bad {h : List Int} {k : Nat} (hk : k < h.length) (hb : okAt (fun z => inB z 1 6) h k = false) : nodesB h = false := by unfold nodesB allOk; rw [all_false hk hb]; rfl

set_option maxRecDepth 100000 in
set_option maxHeartbeats 2000000 in
theorem nodesOk_any (v : Value) (h : List Int) (w : World) (hn : h.length ≤ 1048576) (hv : HopsAt w v h w.heap.size) :
    Calls Tryd.prog 78 #[v] w fun e w' => e = .returned (.bool (nodesB h)) ∧ Below w.heap.size w w' := by
  obtain ⟨a, cap, rfl⟩ := HopsAt.shape hv
  have HV := hide hv
  clear hv
  go_enter Tryd.func78, Tryd.ntmps78
  go_wp2
  go_loopw [7] (fun i wr => ∃ k : Nat, k ≤ h.length ∧ i = .int .i64 k ∧ (∀ j, j < k → okAt (fun z => inB z 1 6) h j = true) ∧ wr = w) (fun i _ => h.length - (intOf i).toNat)
  case atStart => exact ⟨0, by omega, rfl, by omega, rfl⟩
  case round =>
    obtain ⟨k, hk, rfl, hall, rfl⟩ := hrel
    have HALL := hide hall
    clear hall
    by_cases hlt : k < h.length
    · obtain ⟨z, hz⟩ : ∃ z, h[k]? = some z := ⟨h[k], List.getElem?_eq_getElem hlt⟩
      obtain ⟨b, off, cap', hve, hbb, c0⟩ := HopsAt.cell HV.out k z hz
      cases hve
      have HAT := okAt_eq (ok := fun z => inB z 1 6) hz
      have HIN := isIn_any z 1 6
      obtain ⟨q, hq⟩ : ∃ q, q = inB z 1 6 := ⟨_, rfl⟩
      rw [← hq] at HAT HIN
      have HAT2 := hide HAT
      have HIN2 := hide HIN
      clear hz HAT HIN hq
      have hki : (0 : Int) ≤ (k : Int) := by omega
      have hkj : (k : Int) < (h.length : Int) := by omega
      go_wp2_with fail
      refine (HIN2.out _).mono ?_
      rintro e w2 ⟨rfl, rfl⟩
      cases q
      · have HF := hide (nodes_bad hlt HAT2.out)
        go_wp2
        go_ret
        exact ⟨ret_bool HF.out, Below.refl _ _⟩
      · go_wp2
        go_roundw
        case rel => exact ⟨k + 1, by omega, by go_num, next_true HALL.out HAT2.out, trivial⟩
        case measure => simp [intOf]; omega
    · have e1 : allOk (fun z => inB z 1 6) h = true := all_true fun i hi => HALL.out i (by omega)
      have e2 : nodesB h = ascB cmpN h := by unfold nodesB; rw [e1]; rfl
      have HE := hide e2
      have HAS := hide (ascI_any _ h wr hn HV.out)
      clear e1 e2
      go_wp2_with fail
      refine HAS.out.mono ?_
      rintro e w2 ⟨rfl, b2⟩
      go_wp2
      go_ret
      exact ⟨ret_bool HE.out, b2⟩

theorem told_bad {a : Int} {xs : List RecD} {k : Nat} (hk : k < xs.length) (h : okAt (inScope a) xs k = false) : toldB a xs = false := by unfold toldB allOk; rw [all_false hk h]; rfl

theorem rows_none (W : World) (B : Nat) : NearsAt W (.slice none 0 0) [] B := ⟨none, 0, rfl, .inl (by simp)⟩

set_option maxRecDepth 100000 in
set_option maxHeartbeats 2000000 in
theorem toldIn_any (a : Int) (v : Value) (ps : List RP) (w : World) (hn : tot ps ≤ 1048576) (hv : RecsAt w v ps w.heap.size) :
    Calls Tryd.prog 79 #[.int .i64 a, v] w fun e w' => e = .returned (.bool (toldB a (fsts ps))) ∧ Below w.heap.size w w' := by
  have hnl := tot_len ps
  obtain ⟨a1, cap, rfl⟩ := hv.shape
  have HV := hide hv
  clear hv
  have HFL := hide (show (fsts ps).length = ps.length by simp [fsts])
  go_enter Tryd.func79, Tryd.ntmps79
  go_wp2
  go_loopw [9] (fun i wr => ∃ k : Nat, k ≤ ps.length ∧ i = .int .i64 k ∧ (∀ j, j < k → okAt (inScope a) (fsts ps) j = true) ∧ Below w.heap.size w wr) (fun i _ => ps.length - (intOf i).toNat)
  case atStart => exact ⟨0, by omega, rfl, by omega, Below.refl _ _⟩
  case round =>
    obtain ⟨k, hk, rfl, hall, hnx⟩ := hrel
    have HALL := hide hall
    clear hall
    have hsz := hnx.size
    by_cases hlt : k < ps.length
    · obtain ⟨p, hp⟩ : ∃ p, ps[k]? = some p := ⟨ps[k], List.getElem?_eq_getElem hlt⟩
      obtain ⟨b, off, cap', hve, hbb, c0, c1, c2, c3, c4, c5, c6, c7, hnr⟩ := HV.out.cells k p hp
      cases hve
      rw [← hnx.cell (p := ⟨b, off + k * 8, none⟩) hbb] at c0
      rw [← hnx.cell (p := ⟨b, off + k * 8 + 1, none⟩) hbb] at c1
      rw [← hnx.cell (p := ⟨b, off + k * 8 + 2, none⟩) hbb] at c2
      rw [← hnx.cell (p := ⟨b, off + k * 8 + 3, none⟩) hbb] at c3
      rw [← hnx.cell (p := ⟨b, off + k * 8 + 4, none⟩) hbb] at c4
      rw [← hnx.cell (p := ⟨b, off + k * 8 + 5, none⟩) hbb] at c5
      rw [← hnx.cell (p := ⟨b, off + k * 8 + 6, none⟩) hbb] at c6
      rw [← hnx.cell (p := ⟨b, off + k * 8 + 7, none⟩) hbb] at c7
      obtain ⟨pa, pc, hpn⟩ := NearsAt.shape hnr
      rw [hpn] at c5
      have HAT2 := hide (okAt_eq (ok := inScope a) (fsts_at hp))
      clear hp hnr hpn
      have hki : (0 : Int) ≤ (k : Int) := by omega
      have hkj : (k : Int) < (ps.length : Int) := by omega
      by_cases h1 : p.1.area = a
      · have hd : (p.1.area != a) = false := by simp [h1]
        have HT := hide (show okAt (inScope a) (fsts ps) k = true by rw [HAT2.out]; simp [inScope, h1])
        clear h1 HAT2
        go_wp2
        go_roundw
        case rel => exact ⟨k + 1, by omega, by go_num, next_true HALL.out HT.out, hnx.alloc hsz _⟩
        case measure => simp [intOf]; omega
      have hd : (p.1.area != a) = true := by simpa using h1
      by_cases h2 : p.1.area = 9
      · have hd2 : (p.1.area != 9) = false := by simp [h2]
        have HT := hide (show okAt (inScope a) (fsts ps) k = true by rw [HAT2.out]; simp [inScope, h2])
        clear h1 h2 HAT2
        go_wp2
        go_roundw
        case rel => exact ⟨k + 1, by omega, by go_num, next_true HALL.out HT.out, hnx.alloc hsz _⟩
        case measure => simp [intOf]; omega
      · have hd2 : (p.1.area != 9) = true := by simpa using h2
        have HT := hide (told_bad (by rw [HFL.out]; exact hlt) (show okAt (inScope a) (fsts ps) k = false by rw [HAT2.out]; simp [inScope, h1, h2]))
        clear h1 h2 HAT2
        go_wp2
        go_ret
        exact ⟨ret_bool HT.out, hnx.alloc hsz _⟩
    · have e1 : allOk (inScope a) (fsts ps) = true := all_true fun i hi => HALL.out i (by have := HFL.out; omega)
      have e2 : toldB a (fsts ps) = storeB (fsts ps) := by unfold toldB; rw [e1]; rfl
      have HE := hide e2
      have HIO := hide (istoreOk_any (.slice a1 ps.length cap) ps wr hn ((HV.out.later hnx (Nat.le_refl _)).more hsz))
      clear e1 e2
      go_wp2_with fail
      refine HIO.out.mono ?_
      rintro e w2 ⟨rfl, b2⟩
      go_wp2
      go_ret
      exact ⟨ret_bool HE.out, hnx.trans (b2.mono hsz)⟩

theorem heads_bad {xs : List RecD} {k : Nat} (hk : k < xs.length) (h : okAt (fun r => sameBodyB r (headD r)) xs k = false) : headsB xs = false := all_false hk h

set_option maxRecDepth 100000 in
set_option maxHeartbeats 4000000 in
theorem allHeaders_any (v : Value) (ps : List RP) (w : World) (hn : tot ps ≤ 1048576) (hv : RecsAt w v ps w.heap.size) :
    Calls Tryd.prog 80 #[v] w fun e w' => e = .returned (.bool (headsB (fsts ps))) ∧ Below w.heap.size w w' := by
  have hnl := tot_len ps
  obtain ⟨a1, cap, rfl⟩ := hv.shape
  have HV := hide hv
  clear hv
  have HFL := hide (show (fsts ps).length = ps.length by simp [fsts])
  go_enter Tryd.func80, Tryd.ntmps80
  go_wp2
  go_loopw [7] (fun i wr => ∃ k : Nat, k ≤ ps.length ∧ i = .int .i64 k ∧ (∀ j, j < k → okAt (fun r => sameBodyB r (headD r)) (fsts ps) j = true) ∧ Below w.heap.size w wr) (fun i _ => ps.length - (intOf i).toNat)
  case atStart => exact ⟨0, by omega, rfl, by omega, Below.refl _ _⟩
  case round =>
    obtain ⟨k, hk, rfl, hall, hnx⟩ := hrel
    have HALL := hide hall
    clear hall
    have hsz := hnx.size
    by_cases hlt : k < ps.length
    · obtain ⟨p, hp⟩ : ∃ p, ps[k]? = some p := ⟨ps[k], List.getElem?_eq_getElem hlt⟩
      obtain ⟨b, off, cap', hve, hbb, c0, c1, c2, c3, c4, c5, c6, c7, hnr⟩ := HV.out.cells k p hp
      cases hve
      rw [← hnx.cell (p := ⟨b, off + k * 8, none⟩) hbb] at c0
      rw [← hnx.cell (p := ⟨b, off + k * 8 + 1, none⟩) hbb] at c1
      rw [← hnx.cell (p := ⟨b, off + k * 8 + 2, none⟩) hbb] at c2
      rw [← hnx.cell (p := ⟨b, off + k * 8 + 3, none⟩) hbb] at c3
      rw [← hnx.cell (p := ⟨b, off + k * 8 + 4, none⟩) hbb] at c4
      rw [← hnx.cell (p := ⟨b, off + k * 8 + 5, none⟩) hbb] at c5
      rw [← hnx.cell (p := ⟨b, off + k * 8 + 6, none⟩) hbb] at c6
      rw [← hnx.cell (p := ⟨b, off + k * 8 + 7, none⟩) hbb] at c7
      have hnr2 : NearsAt wr p.2 p.1.near wr.heap.size := (RowAt.later hnr hnx (Nat.le_refl _)).more hnx.size
      obtain ⟨pa, pc, hpn⟩ := NearsAt.shape hnr
      have hpl : p.1.near.length ≤ 1048576 := by have := tot_mem (List.mem_of_getElem? hp); omega
      have HAT2 := hide (okAt_eq (ok := fun r => sameBodyB r (headD r)) (fsts_at hp))
      have HHD := ihead_any p.1 pa p.1.near.length pc
      have HSB : ∀ W, Below wr.heap.size wr W → Calls Tryd.prog 96 #[.agg (recC p.1 p.2), .agg (recC (headD p.1) (.slice none 0 0))] W fun e w' => e = .returned (.bool (sameBodyB p.1 (headD p.1))) ∧ Below W.heap.size W w' :=
        fun W hb => isameBody_any _ _ p.1 (headD p.1) W ⟨_, rfl, RowAt.then hnr2 hb⟩ ⟨_, rfl, rows_none _ _⟩ hpl (by simp [headD])
      rw [hpn] at c5 HSB
      unfold recC at HHD HSB
      obtain ⟨q, hq⟩ : ∃ q, q = sameBodyB p.1 (headD p.1) := ⟨_, rfl⟩
      rw [← hq] at HSB HAT2
      have H1 := hide HHD
      have H2 := hide HSB
      clear hp hnr hnr2 hpn HHD HSB hq
      have hki : (0 : Int) ≤ (k : Int) := by omega
      have hkj : (k : Int) < (ps.length : Int) := by omega
      go_wp2
      have B0 := (Below.refl wr.heap.size wr).alloc (Nat.le_refl _) (.cells #[.int .i64 p.1.area, .int .i64 p.1.kind, .int .i64 p.1.owner, .int .i64 p.1.key, .int .i64 p.1.seq, .slice pa p.1.near.length pc, .int .i64 p.1.cost, .bool p.1.far] 47)
      have g0 := heap_alloc_new wr (.cells #[.int .i64 p.1.area, .int .i64 p.1.kind, .int .i64 p.1.owner, .int .i64 p.1.key, .int .i64 p.1.seq, .slice pa p.1.near.length pc, .int .i64 p.1.cost, .bool p.1.far] 47)
      generalize wr.alloc (.cells #[.int .i64 p.1.area, .int .i64 p.1.kind, .int .i64 p.1.owner, .int .i64 p.1.key, .int .i64 p.1.seq, .slice pa p.1.near.length pc, .int .i64 p.1.cost, .bool p.1.far] 47) = w1 at *
      have d0 := cells_at g0 0
      have d1 := cells_at g0 1
      have d2 := cells_at g0 2
      have d3 := cells_at g0 3
      have d4 := cells_at g0 4
      have d5 := cells_at g0 5
      have d6 := cells_at g0 6
      have d7 := cells_at g0 7
      simp at d0 d1 d2 d3 d4 d5 d6 d7
      have hz1 := lt_of_heap g0
      clear g0 c0 c1 c2 c3 c4 c5 c6 c7
      go_region_held3 (fun W => W.cell? ⟨wr.heap.size, 0, none⟩ = some (.int .i64 p.1.area) ∧ W.cell? ⟨wr.heap.size, 1, none⟩ = some (.int .i64 p.1.kind) ∧ W.cell? ⟨wr.heap.size, 2, none⟩ = some (.int .i64 p.1.owner) ∧ W.cell? ⟨wr.heap.size, 3, none⟩ = some (.int .i64 p.1.key) ∧ W.cell? ⟨wr.heap.size, 4, none⟩ = some (.int .i64 p.1.seq) ∧ W.cell? ⟨wr.heap.size, 5, none⟩ = some (.slice pa p.1.near.length pc) ∧ W.cell? ⟨wr.heap.size, 6, none⟩ = some (.int .i64 p.1.cost) ∧ W.cell? ⟨wr.heap.size, 7, none⟩ = some (.bool p.1.far)) (first | go_keep | (refine ⟨?_, ?_, ?_, ?_, ?_, ?_, ?_, ?_⟩ <;> (rw [b3.cell (Nat.lt_of_lt_of_le (by assumption) b2.size), b2.cell (by assumption)]; assumption)) | (refine ⟨?_, ?_, ?_, ?_, ?_, ?_, ?_, ?_⟩ <;> (rw [b2.cell (by assumption)]; assumption))) (first | (go_at_call 97; refine (H1.out _).mono ?_; rintro e w2 ⟨rfl, b2⟩) | (go_at_call 96; refine (H2.out _ (B0.drew.trans (b2.mono B0.size))).mono ?_; rintro e w3 ⟨rfl, b3⟩))
      have B3 : Below w.heap.size w w3 := hnx.trans (((B0.drew.trans (b2.mono B0.size)).trans (b3.mono (Nat.le_trans B0.size b2.size))).mono hsz)
      cases q
      · have HF := hide (heads_bad (by rw [HFL.out]; exact hlt) HAT2.out)
        go_wp2
        go_ret
        exact ⟨ret_bool HF.out, B3⟩
      · go_wp2
        go_roundw
        case rel => exact ⟨k + 1, by omega, by go_num, next_true HALL.out HAT2.out, B3⟩
        case measure => simp [intOf]; omega
    · have HE := hide (show headsB (fsts ps) = true from all_true fun i hi => HALL.out i (by have := HFL.out; omega))
      go_wp2
      go_ret
      exact ⟨ret_bool HE.out, hnx⟩
end Go.Proofs.YtnfockhbcneegaaDoor
