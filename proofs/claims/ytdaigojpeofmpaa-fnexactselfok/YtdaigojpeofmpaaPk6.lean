/-
  laws.eqIntS, markIntS, heldIntS, toIntS, szIntS: their contracts (IntRow2 without nets).
  Ways as values; laws.szWay, toWay, eqWay.
  laws.markIntS, markWay, heldWay: only the row's own memory turns; what was marked is held.
  Lists of ways, each with a row of its own.
  laws.szWayS, toWayS, eqWayS: their contracts.
  laws.markWayS, heldWayS: only the list's own memory turns; what was marked is held.
  Lists of numbers of the caller's own; laws.toIntS, eqIntS, markIntS, heldIntS over them.
  A node's own: what it is, what it hears and what it knows, as a value.
-/
import Derived.Test.YtdaigojpeofmpaaPk5
import Derived.Test.YtdaigojpeofmpaaPk1
import Derived.Deep.QuietTactic
import Derived.BigQuiet
import Derived.WalkSmall
import Derived.Handy
import Derived.Test.YtdaigojpeofmpaaPk4
import Derived.Test.YtdaigojpeofmpaaPk2
namespace Go.Proofs.Ytdaigojpeofmpaa
open Go.RowKit

def intC (zs : List Int) (j : Nat) : Value := .int .i64 (zs.getD j 0)

def IntsAt (W : World) (v : Value) (zs : List Int) (B : Nat) : Prop := RowAt W v zs.length 1 (intC zs) B

theorem ints_of_owns {W : World} {base : Nat} {v : Value} {zs : List Int} (h : W.ownsRow base 3 1 v zs.length (intsOf zs)) : IntsAt W v zs W.heap.size := by
  by_cases h0 : zs.length = 0
  · obtain ⟨a, cap, rfl⟩ := owns_len h
    exact ⟨a, cap, rfl, .inl h0⟩
  · obtain ⟨g, cap, rfl, hg, hl⟩ := owns_shape h (by omega)
    refine ⟨_, cap, rfl, .inr ⟨g, 0, rfl, hl, fun j hj => ?_⟩⟩
    rw [Nat.zero_add, h.cellAt j (by omega)]
    have hj' : j < zs.length := by omega
    simp [intsOf, intC, List.getElem?_eq_getElem hj']

theorem below_drewN {B : Nat} {w wr : World} (h : Below B w wr) (n : Nat) : Below B w (wr.drewN n) := ⟨h.os, h.tape, h.output, h.size, h.block⟩

theorem list_ne_at {xs ys : List Int} {k : Nat} (h : xs.getD k 0 ≠ ys.getD k 0) : ¬ xs = ys := by
  rintro rfl
  exact h rfl

theorem list_eq_all {xs ys : List Int} (hl : xs.length = ys.length) (h : ∀ j, j < xs.length → xs.getD j 0 = ys.getD j 0) : xs = ys := by
  apply List.ext_getElem hl
  intro i h1 h2
  have := h i h1
  simpa [List.getD, List.getElem?_eq_getElem h1, List.getElem?_eq_getElem h2] using this

set_option maxRecDepth 100000 in
set_option maxHeartbeats 1000000 in
theorem eqI_any (v1 v2 : Value) (xs ys : List Int) (w : World) (h1 : IntsAt w v1 xs w.heap.size) (h2 : IntsAt w v2 ys w.heap.size) (hn : xs.length ≤ 1048576) :
    Calls Try.prog 37 #[v1, v2] w fun e w' => e = .returned (.bool (decide (xs = ys))) ∧ Below w.heap.size w w' := by
  obtain ⟨a1, c1, rfl, k1⟩ := h1
  obtain ⟨a2, c2, rfl, k2⟩ := h2
  by_cases hl : xs.length = ys.length
  · have K1 := hide k1
    have K2 := hide k2
    clear k1 k2
    go_enter Try.func37, Try.ntmps37
    go_wp2
    go_loopw [5] (fun i wr => ∃ k : Nat, k ≤ xs.length ∧ i = .int .i64 k ∧ (∀ j, j < k → xs.getD j 0 = ys.getD j 0) ∧ Below w.heap.size w wr) (fun i _ => xs.length - (intOf i).toNat)
    case atStart => exact ⟨0, by omega, rfl, by omega, Below.refl _ _⟩
    case round =>
      obtain ⟨k, hk, rfl, hall, hnx⟩ := hrel
      have HALL := hide hall
      clear hall
      by_cases hlt : k < xs.length
      · obtain ⟨b1, o1, ha1, hb1, d1⟩ : ∃ b1 o1, a1 = some ⟨b1, o1, none⟩ ∧ b1 < w.heap.size ∧ wr.cell? ⟨b1, o1 + k, none⟩ = some (.int .i64 (xs.getD k 0)) := by
          rcases K1.out with h0 | ⟨b, off, ha, hb, hx⟩
          · omega
          · exact ⟨b, off, ha, hb, by rw [hnx.cell (p := ⟨b, off + k, none⟩) hb, hx k (by omega)]; rfl⟩
        obtain ⟨b2, o2, ha2, hb2, d2⟩ : ∃ b2 o2, a2 = some ⟨b2, o2, none⟩ ∧ b2 < w.heap.size ∧ wr.cell? ⟨b2, o2 + k, none⟩ = some (.int .i64 (ys.getD k 0)) := by
          rcases K2.out with h0 | ⟨b, off, ha, hb, hx⟩
          · omega
          · exact ⟨b, off, ha, hb, by rw [hnx.cell (p := ⟨b, off + k, none⟩) hb, hx k (by omega)]; rfl⟩
        subst ha1 ha2
        have hki : (0 : Int) ≤ (k : Int) := by omega
        have hkj : (k : Int) < (xs.length : Int) := by omega
        have hkl : (k : Int) < (ys.length : Int) := by omega
        obtain ⟨x, hx⟩ : ∃ x, x = xs.getD k 0 := ⟨_, rfl⟩
        obtain ⟨y, hy⟩ : ∃ y, y = ys.getD k 0 := ⟨_, rfl⟩
        rw [← hx] at d1
        rw [← hy] at d2
        have HX := hide hx
        have HY := hide hy
        clear hx hy
        by_cases hxy : x = y
        · subst hxy
          go_wp2
          go_quiet (fail)
          go_wp2
          go_roundw
          case rel => exact ⟨k + 1, by omega, by go_num, (fun j hj => by
            by_cases e : j = k
            · subst e; rw [← HX.out, ← HY.out]
            · exact HALL.out j (by omega)), below_drewN hnx _⟩
          case measure => simp [intOf]; omega
        · have hd : (x != y) = true := by simpa using hxy
          go_wp2
          go_quiet (fail)
          go_wp2
          go_ret
          exact ⟨ret_bool_no (list_ne_at (k := k) (by rw [← HX.out, ← HY.out]; exact hxy)), below_drewN hnx _⟩
      · have hkn : k = xs.length := by omega
        have KN := hide hkn
        clear hkn
        go_wp2
        go_ret
        exact ⟨ret_bool_yes (list_eq_all hl (by rw [← KN.out]; exact HALL.out)), hnx⟩
  · clear k1 k2
    have hd : ((xs.length : Int) != (ys.length : Int)) = true := by simp; omega
    go_enter Try.func37, Try.ntmps37
    go_wp2
    go_ret
    exact ⟨ret_bool_no (fun h => hl (by rw [h])), Below.refl _ _⟩

def marksI (q : Int) : Nat → List Int
  | 0 => []
  | n + 1 => marksI q n ++ [q + (n : Int)]

theorem marksI_length (q : Int) : ∀ n, (marksI q n).length = n
  | 0 => rfl
  | n + 1 => by simp [marksI, marksI_length q n]

def markedI (q : Int) (i : Nat) (xs : List Int) : List Int := marksI q i ++ xs.drop i

theorem markedI_length (q : Int) (i : Nat) (xs : List Int) (h : i ≤ xs.length) : (markedI q i xs).length = xs.length := by simp [markedI, marksI_length]; omega

theorem markedI_step (q : Int) (i : Nat) (xs : List Int) (h : i < xs.length) : (markedI q i xs).set i (q + (i : Int)) = markedI q (i + 1) xs := by
  unfold markedI
  rw [marksI, List.set_append_right _ _ (by rw [marksI_length]; omega), marksI_length, Nat.sub_self, List.drop_eq_getElem_cons h]
  simp only [List.set_cons_zero, List.append_assoc, List.cons_append, List.nil_append]

theorem intsOf_set (xs : List Int) (i : Nat) (t : Int) : (intsOf xs).set i (.int .i64 t) = intsOf (xs.set i t) := by simp [intsOf]

theorem marksI_get (q : Int) : ∀ (n k : Nat), k < n → (marksI q n).getD k 0 = q + (k : Int)
  | 0, k, h => by omega
  | n + 1, k, h => by
    by_cases e : k = n
    · subst e
      simp [marksI, List.getD, marksI_length]
    · have := marksI_get q n k (by omega)
      have hk : k < (marksI q n).length := by rw [marksI_length]; omega
      simp only [marksI, List.getD, List.getElem?_append_left hk] at this ⊢
      exact this

/-- cells of numbers, as rows of structs of one cell -/
def intE (z : Int) : List Value := [.int .i64 z]

theorem intE_len (z : Int) : (intE z).length = 1 := rfl

theorem flat_int (l : List Int) : flat intE l = intsOf l := by
  induction l with
  | nil => rfl
  | cons x l ih => rw [flat_cons, ih]; rfl

def HopsAt (W : World) (v : Value) (l : List Int) (B : Nat) : Prop := StructsAt intE 1 W v l B

theorem HopsAt.then {W W' : World} {v : Value} {l : List Int} (h : HopsAt W v l W.heap.size) (hb : Below W.heap.size W W') : HopsAt W' v l W'.heap.size := RowAt.then h hb

theorem HopsAt.shape {W : World} {v : Value} {l : List Int} {B : Nat} (h : HopsAt W v l B) : ∃ a cap, v = .slice a l.length cap := by obtain ⟨a, cap, h, _⟩ := h; exact ⟨a, cap, h⟩

theorem HopsAt.ints {W : World} {v : Value} {l : List Int} {B : Nat} (h : HopsAt W v l B) : IntsAt W v l B := by
  obtain ⟨a, cap, hv, h2⟩ := h
  refine ⟨a, cap, hv, ?_⟩
  rcases h2 with h0 | ⟨b, off, ha, hb, hx⟩
  · exact .inl h0
  · refine .inr ⟨b, off, ha, hb, fun j hj => ?_⟩
    rw [hx j hj, flat_int]
    have hj' : j < l.length := by omega
    simp [intsOf, intC, List.getD, List.getElem?_eq_getElem hj']

theorem HopsAt.cell {W : World} {v : Value} {l : List Int} {B : Nat} (h : HopsAt W v l B) (i : Nat) (z : Int) (hz : l[i]? = some z) : ∃ b off cap, v = .slice (some ⟨b, off, none⟩) l.length cap ∧ b < B ∧ W.cell? ⟨b, off + i, none⟩ = some (.int .i64 z) := by
  obtain ⟨b, off, cap, hv, hb, hc⟩ := StructsAt.cell h intE_len i z hz
  exact ⟨b, off, cap, hv, hb, by have := hc 0 _ rfl; simpa using this⟩

theorem hops_of {W : World} {base : Nat} {v : Value} {l : List Int} (h : W.ownsRow base 3 1 v l.length (flat intE l)) : HopsAt W v l W.heap.size := owns_rowAt h

set_option maxRecDepth 100000 in
set_option maxHeartbeats 1000000 in
theorem toIntS_any (v : Value) (ls : List Int) (w : World) (hls : ls.length ≤ 1048576) (hv : HopsAt w v ls w.heap.size) :
    Calls Try.prog 32 #[v] w fun e w' => ∃ x, e = .returned x ∧ w'.ownsRow w.heap.size 3 1 x ls.length (flat intE ls) ∧ Below w.heap.size w w' := by
  obtain ⟨a, cap, rfl⟩ := hv.shape
  have HV := hide hv
  clear hv
  obtain ⟨i0, hi, hz0, hz1, hz2⟩ := info_parts Try.info3
  have HI := hide hi
  have HZ := hide hz0
  clear hi hz0
  go_enter Try.func32, Try.ntmps32
  go_wp2_with (first
    | (refine wpList_make_structs intE_len (by omega) _ rfl _ _ 26 rfl w.heap.size 3 i0 (.int .i64 0) 0 rfl Try.underlying26 HI.out HZ.out hz1 ls.length rfl rfl (by rw [hz2]; omega) (by unfold maxLen; omega) (Nat.le_refl _) ?_))
  intro w1 hown hg
  have b1 : Below w.heap.size w w1 := (Below.refl _ _).grown hg (Nat.le_refl _) (fun k hk => by simp at hk)
  have OW := hide hown
  clear hown hg
  go_wp2
  go_loopw [4] (fun i wr => ∃ k : Nat, k ≤ ls.length ∧ i = .int .i64 k ∧ wr.ownsRow w.heap.size 3 1 (.slice (some ⟨w.heap.size, 0, none⟩) ls.length ls.length) ls.length (flat intE (part ls 0 k)) ∧ Below w.heap.size w wr) (fun i _ => ls.length - (intOf i).toNat)
  case atStart => exact ⟨0, by omega, rfl, (by simpa [part] using OW.out), b1⟩
  case round =>
    obtain ⟨k, hk, rfl, hown, hnx⟩ := hrel
    by_cases hlt : k < ls.length
    · obtain ⟨l, hl⟩ : ∃ l, ls[k]? = some l := ⟨ls[k], List.getElem?_eq_getElem hlt⟩
      obtain ⟨b, off, cap', hve, hbb, c0⟩ := HV.out.cell k l hl
      cases hve
      rw [← hnx.cell (p := ⟨b, off + k, none⟩) hbb] at c0
      have HL := hide hl
      have hki : (0 : Int) ≤ (k : Int) := by omega
      have hkj : (k : Int) < (ls.length : Int) := by omega
      have hex : ∃ u, wr.cell? ⟨w.heap.size, k, none⟩ = some u := by
        rw [hown.cellAt _ (by omega)]
        have hln : k < (flat intE (part ls 0 k)).length := by rw [hown.1]; omega
        exact ⟨_, List.getElem?_eq_getElem hln⟩
      obtain ⟨u0, d0⟩ := hex
      have f0 := hown.frozenAt k
      have OW3 := hide hown
      clear hown hl
      go_wp2
      refine ⟨⟨k + 1, by omega, by go_num, ?_, hnx.setCell (Nat.le_refl _) _⟩, by simp [intOf]; omega⟩
      have h4 := (OW3.out.stored k (.int .i64 l)).1
      have e4 : (flat intE (part ls 0 k)).set k (.int .i64 l) = flat intE (part ls 0 (k + 1)) := by
        rw [← part_step ls 0 l k HL.out]
        have e5 := flat_set intE_len (part ls 0 k) k l (by rw [part_len _ _ _ hk]; exact hlt)
        rw [Nat.mul_one] at e5
        rw [← e5]
        rfl
      rw [e4] at h4
      exact h4
    · have hkn : k = ls.length := by omega
      have KN := hide hkn
      have OW2 := hide hown
      clear hkn hown
      go_wp2
      go_ret
      refine ⟨_, rfl, ?_, hnx⟩
      have h := OW2.out
      rw [KN.out, part_all] at h
      exact h

set_option maxRecDepth 100000 in
set_option maxHeartbeats 1000000 in
theorem szIntS_any (a : Option Addr) (n c : Nat) (q : Int) (w : World) (hn : (n : Int) ≤ 9223372036854775807) (hq0 : 0 ≤ q) (hq : q ≤ 1048576) :
    Calls Try.prog 26 #[.slice a n c, .int .i64 q] w fun e w' => e = .returned (.int .i64 (if q - (n : Int) < 0 then -1 else q - (n : Int))) ∧ w = w' := by
  by_cases h : q - (n : Int) < 0
  · rw [if_pos h]
    go_enter Try.func26, Try.ntmps26
    go_wp2
    go_ret
    exact ⟨rfl, rfl⟩
  · rw [if_neg h]
    go_enter Try.func26, Try.ntmps26
    go_wp2
    go_ret
    exact ⟨rfl, rfl⟩
end Go.Proofs.Ytdaigojpeofmpaa
namespace Go.Proofs.Ytdaigojpeofmpaa
open Go.RowKit

structure WayD where
  to : Int
  cost : Int
  hops : List Int
  deriving DecidableEq

def wayC (x : WayD) (v : Value) : Array Value := #[.int .i64 x.to, .int .i64 x.cost, v]

/-- the value v is the way x, whose row lies below B -/
def WayAt (W : World) (v : Value) (x : WayD) (B : Nat) : Prop := ∃ v1, v = .agg (wayC x v1) ∧ HopsAt W v1 x.hops B

theorem WayAt.then {W W' : World} {v : Value} {x : WayD} (h : WayAt W v x W.heap.size) (hb : Below W.heap.size W W') : WayAt W' v x W'.heap.size := by
  obtain ⟨v1, hv, h1⟩ := h
  exact ⟨v1, hv, h1.then hb⟩

theorem wayAt_of {W : World} {lo : Nat} {x : WayD} {u : Value} (h : W.ownsRow lo 3 1 u x.hops.length (flat intE x.hops)) : WayAt W (.agg (wayC x u)) x W.heap.size := ⟨u, rfl, hops_of h⟩

def szW (q : Int) (n : Nat) : Int := if q - (n : Int) < 0 then -1 else q - (n : Int)

theorem szW_neg {q : Int} {n : Nat} : szW q n < 0 ∨ (0 ≤ szW q n ∧ szW q n = q - (n : Int)) := by
  unfold szW
  split <;> omega

end Go.Proofs.Ytdaigojpeofmpaa
namespace Go.Proofs.Ytdaigojpeofmpaa
open Go.RowKit

theorem grown_reflW (w : World) (r : Option Nat) : w.grownBy w r := ⟨rfl, rfl, rfl, Nat.le_refl _, fun _ _ _ => rfl⟩

end Go.Proofs.Ytdaigojpeofmpaa
namespace Go.Proofs.Ytdaigojpeofmpaa
open Go.RowKit

/-- a way, and the value of its row -/
abbrev WP := WayD × Value

def encW (p : WP) : List Value := [.int .i64 p.1.to, .int .i64 p.1.cost, p.2]

def zeroWD : WayD := ⟨0, 0, []⟩

def zW : WP := (zeroWD, .slice none 0 0)

theorem encW_len (p : WP) : (encW p).length = 3 := rfl

/-- a list to read: its cells, and each record's row, below B -/
def WaysAt (W : World) (v : Value) (ps : List WP) (B : Nat) : Prop := StructsAt encW 3 W v ps B ∧ ∀ p ∈ ps, HopsAt W p.2 p.1.hops B

theorem WaysAt.shape {W : World} {v : Value} {ps : List WP} {B : Nat} (h : WaysAt W v ps B) : ∃ a cap, v = .slice a ps.length cap := by
  obtain ⟨⟨a, cap, h, _⟩, _⟩ := h
  exact ⟨a, cap, h⟩

theorem WaysAt.later {W W' : World} {v : Value} {ps : List WP} {B C : Nat} (h : WaysAt W v ps B) (hb : Below C W W') (hBC : B ≤ C) : WaysAt W' v ps B :=
  ⟨RowAt.later h.1 hb hBC, fun p hp => RowAt.later (h.2 p hp) hb hBC⟩

theorem WaysAt.more {W : World} {v : Value} {ps : List WP} {B C : Nat} (h : WaysAt W v ps B) (hBC : B ≤ C) : WaysAt W v ps C :=
  ⟨RowAt.more h.1 hBC, fun p hp => RowAt.more (h.2 p hp) hBC⟩

theorem WaysAt.then {W W' : World} {v : Value} {ps : List WP} (h : WaysAt W v ps W.heap.size) (hb : Below W.heap.size W W') : WaysAt W' v ps W'.heap.size := (h.later hb (Nat.le_refl _)).more hb.size

/-- its row is the caller's own, in blocks of lo .. hi -/
def HopOwn (W : World) (lo hi : Nat) (p : WP) : Prop := W.ownsRow lo 3 1 p.2 p.1.hops.length (flat intE p.1.hops) ∧ ∀ k, p.2.ownBlock = some k → k < hi

def ApartW (p q : WP) : Prop := ∀ k, p.2.ownBlock = some k → q.2.ownBlock ≠ some k

theorem HopOwn.keep {W W' : World} {lo hi : Nat} {p : WP} (h : HopOwn W lo hi p) (hk : ∀ k, lo ≤ k → k < hi → k < W.heap.size → W'.heap[k]? = W.heap[k]?) : HopOwn W' lo hi p :=
  ⟨owns_keepB h.1 (fun k e => hk k (h.1.lt k e).1 (h.2 k e) (h.1.lt k e).2), h.2⟩

theorem HopOwn.wide {W : World} {lo hi lo' hi' : Nat} {p : WP} (h : HopOwn W lo hi p) (hl : lo' ≤ lo) (hh : hi ≤ hi') : HopOwn W lo' hi' p :=
  ⟨owns_baseS h.1 hl, fun k e => Nat.lt_of_lt_of_le (h.2 k e) hh⟩

theorem HopOwn.at {W : World} {lo hi : Nat} {p : WP} (h : HopOwn W lo hi p) : HopsAt W p.2 p.1.hops hi := by
  have h1 := owns_rowAt h.1
  obtain ⟨a, cap, hv, h2⟩ := h1
  refine ⟨a, cap, hv, ?_⟩
  rcases h2 with h0 | ⟨b, off, ha, hb1, hx⟩
  · exact .inl h0
  · exact .inr ⟨b, off, ha, h.2 b (by rw [hv, ha]; rfl), hx⟩

/-- near rows of new records are behind all that was there -/
theorem apartW_add {W : World} {lo hi : Nat} {ps : List WP} {p : WP} (h : ps.Pairwise ApartW) (hn : ∀ q ∈ ps, HopOwn W lo hi q) (hp : ∀ k, p.2.ownBlock = some k → hi ≤ k) : (ps ++ [p]).Pairwise ApartW := by
  rw [List.pairwise_append]
  refine ⟨h, by simp, ?_⟩
  intro a ha b hb
  have : b = p := by simpa using hb
  subst this
  intro k hk he
  have h1 := (hn a ha).2 k hk
  have h2 := hp k he
  omega

/-- how many numbers a list has -/
def totW (ps : List WP) : Nat := (ps.map (fun p => 1 + p.1.hops.length)).sum

theorem totW_cons (p : WP) (ps : List WP) : totW (p :: ps) = 1 + p.1.hops.length + totW ps := by simp [totW]

theorem totW_append (a b : List WP) : totW (a ++ b) = totW a + totW b := by simp [totW]

theorem totW_len (ps : List WP) : ps.length ≤ totW ps := by
  induction ps with
  | nil => simp [totW]
  | cons p ps ih => rw [totW_cons, List.length_cons]; omega

theorem totW_mem {ps : List WP} {p : WP} (h : p ∈ ps) : p.1.hops.length ≤ totW ps := by
  induction ps with
  | nil => simp at h
  | cons q ps ih =>
    rw [totW_cons]
    rcases List.mem_cons.1 h with rfl | h1
    · omega
    · have := ih h1; omega

theorem totW_map {ps qs : List WP} (h : ps.map (·.1) = qs.map (·.1)) : totW ps = totW qs := by
  have e : ∀ l : List WP, totW l = ((l.map (·.1)).map (fun x => 1 + x.hops.length)).sum := fun l => by simp [totW, List.map_map, Function.comp_def]
  rw [e, e, h]

theorem totW_take {ps : List WP} {k : Nat} {p : WP} (h : ps[k]? = some p) : totW (ps.take (k + 1)) = totW (ps.take k) + (1 + p.1.hops.length) := by
  obtain ⟨hk, e⟩ := List.getElem?_eq_some_iff.1 h
  rw [List.take_succ_eq_append_getElem hk, totW_append, e]
  simp [totW]

theorem mapW_take {ps : List WP} {k : Nat} {p : WP} (h : ps[k]? = some p) : (ps.take (k + 1)).map (·.1) = (ps.take k).map (·.1) ++ [p.1] := by
  obtain ⟨hk, e⟩ := List.getElem?_eq_some_iff.1 h
  rw [List.take_succ_eq_append_getElem hk, List.map_append, e]
  rfl
theorem WaysAt.cells {W : World} {v : Value} {ps : List WP} {B : Nat} (h : WaysAt W v ps B) (i : Nat) (p : WP) (hp : ps[i]? = some p) :
    ∃ b off cap, v = .slice (some ⟨b, off, none⟩) ps.length cap ∧ b < B ∧ W.cell? ⟨b, off + i * 3, none⟩ = some (.int .i64 p.1.to) ∧ W.cell? ⟨b, off + i * 3 + 1, none⟩ = some (.int .i64 p.1.cost) ∧ W.cell? ⟨b, off + i * 3 + 2, none⟩ = some p.2 ∧ HopsAt W p.2 p.1.hops B := by
  obtain ⟨b, off, cap, hv, hb, hc⟩ := StructsAt.cell h.1 encW_len i p hp
  exact ⟨b, off, cap, hv, hb, hc 0 _ rfl, hc 1 _ rfl, hc 2 _ rfl, h.2 p (List.mem_of_getElem? hp)⟩

/-- three cells laid at o of block g -/
abbrev putW (W : World) (g o : Nat) (p : WP) : World := ((W.setCell ⟨g, o, none⟩ (.int .i64 p.1.to)).setCell ⟨g, o + 1, none⟩ (.int .i64 p.1.cost)).setCell ⟨g, o + 2, none⟩ p.2

theorem putW_grown (W : World) (g o : Nat) (p : WP) : W.grownBy (putW W g o p) (some g) := grown_trans (grown_trans (grown_set W g _ _) (grown_set _ g _ _)) (grown_set _ g _ _)

end Go.Proofs.Ytdaigojpeofmpaa
namespace Go.Proofs.Ytdaigojpeofmpaa
open Go.RowKit

def fstsW (ps : List WP) : List WayD := ps.map (·.1)

theorem fstsW_at {ps : List WP} {i : Nat} {p : WP} (h : ps[i]? = some p) : (fstsW ps)[i]? = some p.1 := by simp [fstsW, h]

end Go.Proofs.Ytdaigojpeofmpaa
namespace Go.Proofs.Ytdaigojpeofmpaa
open Go.RowKit

/-- the numbers of a record that is marked from c on -/
def mkW (c : Int) (p : WP) : WP := (⟨c, c + 1, marksI (c + 1 + 1) p.1.hops.length⟩, p.2)

def nxW (c : Int) (p : WP) : Int := c + 1 + 1 + (p.1.hops.length : Int)

def mkWL : Int → List WP → List WP
  | _, [] => []
  | c, p :: ps => mkW c p :: mkWL (nxW c p) ps

def mkWE : Int → List WP → Int
  | c, [] => c
  | c, p :: ps => mkWE (nxW c p) ps

theorem mkWL_len (c : Int) (ps : List WP) : (mkWL c ps).length = ps.length := by
  induction ps generalizing c with
  | nil => rfl
  | cons p ps ih => simp [mkWL, ih]

theorem mkWE_append (c : Int) (a b : List WP) : mkWE c (a ++ b) = mkWE (mkWE c a) b := by
  induction a generalizing c with
  | nil => rfl
  | cons p a ih => exact ih _

theorem mkWL_append (c : Int) (a b : List WP) : mkWL c (a ++ b) = mkWL c a ++ mkWL (mkWE c a) b := by
  induction a generalizing c with
  | nil => rfl
  | cons p a ih => simp only [List.cons_append, mkWL, mkWE, ih]

theorem mkWE_step {ps : List WP} {k : Nat} {p : WP} (c : Int) (h : ps[k]? = some p) : mkWE c (ps.take (k + 1)) = nxW (mkWE c (ps.take k)) p := by
  obtain ⟨hk, e⟩ := List.getElem?_eq_some_iff.1 h
  rw [List.take_succ_eq_append_getElem hk, mkWE_append, e]
  rfl

theorem mkWL_step {ps : List WP} {k : Nat} {p : WP} (c : Int) (h : ps[k]? = some p) : mkWL c (ps.take (k + 1)) = mkWL c (ps.take k) ++ [mkW (mkWE c (ps.take k)) p] := by
  obtain ⟨hk, e⟩ := List.getElem?_eq_some_iff.1 h
  rw [List.take_succ_eq_append_getElem hk, mkWL_append, e]
  rfl

theorem mkWE_tot (c : Int) (ps : List WP) : c + (totW ps : Int) ≤ mkWE c ps ∧ mkWE c ps ≤ c + 2 * (totW ps : Int) := by
  induction ps generalizing c with
  | nil => simp [mkWE, totW]
  | cons p ps ih =>
    have h := ih (nxW c p)
    rw [totW_cons]
    simp only [mkWE]
    unfold nxW at h ⊢
    omega

theorem totW_takeLe (ps : List WP) (k : Nat) : totW (ps.take k) ≤ totW ps := by
  have h := totW_append (ps.take k) (ps.drop k)
  rw [List.take_append_drop] at h
  omega

theorem mkWL_at {ps : List WP} {k : Nat} {p : WP} (c : Int) (h : ps[k]? = some p) : (mkWL c ps)[k]? = some (mkW (mkWE c (ps.take k)) p) := by
  obtain ⟨hk, e⟩ := List.getElem?_eq_some_iff.1 h
  have e2 : ps = ps.take k ++ (p :: ps.drop (k + 1)) := by
    rw [← e]
    simp
  have e3 : mkWL c ps = mkWL c (ps.take k) ++ (mkW (mkWE c (ps.take k)) p :: mkWL (nxW (mkWE c (ps.take k)) p) (ps.drop (k + 1))) := by
    conv => lhs; rw [e2]
    rw [mkWL_append]
    rfl
  rw [e3, List.getElem?_append_right (by rw [mkWL_len, List.length_take]; omega), mkWL_len, List.length_take, Nat.min_eq_left (by omega), Nat.sub_self]
  rfl

theorem apartW_snd (ps : List WP) : ps.Pairwise ApartW ↔ (ps.map (·.2)).Pairwise (fun a b : Value => ∀ k, a.ownBlock = some k → b.ownBlock ≠ some k) := by
  rw [List.pairwise_map]
  exact Iff.rfl

theorem apartW_at {ps : List WP} (h : ps.Pairwise ApartW) {i k : Nat} {p q : WP} (hi : ps[i]? = some p) (hk : ps[k]? = some q) (hne : i ≠ k) : ApartW p q := by
  obtain ⟨h1, e1⟩ := List.getElem?_eq_some_iff.1 hi
  obtain ⟨h2, e2⟩ := List.getElem?_eq_some_iff.1 hk
  rw [List.pairwise_iff_getElem] at h
  rcases Nat.lt_or_ge i k with hl | hl
  · have := h i k h1 h2 hl
    rw [e1, e2] at this
    exact this
  · have := h k i h2 h1 (by omega)
    rw [e1, e2] at this
    exact fun j hj he => this j he hj

theorem setW_snd {ps : List WP} {k : Nat} {p q : WP} (hk : ps[k]? = some p) (h : q.2 = p.2) : (ps.set k q).map (·.2) = ps.map (·.2) := by
  apply List.ext_getElem?
  intro i
  by_cases e : i = k
  · subst e
    obtain ⟨h1, e1⟩ := List.getElem?_eq_some_iff.1 hk
    rw [List.getElem?_map, List.getElem?_set_self h1, List.getElem?_map, hk]
    simp [h]
  · simp [List.getElem?_set_ne (Ne.symm e)]

theorem setW2 {xs : List WP} {k : Nat} {p q : WP} (hk : xs[k]? = some p) (hq : q.2 = p.2) : ((flat encW xs).set (k * 3) (.int .i64 q.1.to)).set (k * 3 + 1) (.int .i64 q.1.cost) = flat encW (xs.set k q) := by
  obtain ⟨hlt, _⟩ := List.getElem?_eq_some_iff.1 hk
  have e : (((flat encW xs).set (k * 3) (.int .i64 q.1.to)).set (k * 3 + 1) (.int .i64 q.1.cost)).set (k * 3 + 2) q.2 = flat encW (xs.set k q) := flat_set encW_len xs k q hlt
  rw [← e]
  have h5 : (((flat encW xs).set (k * 3) (.int .i64 q.1.to)).set (k * 3 + 1) (.int .i64 q.1.cost))[k * 3 + 2]? = some q.2 := by
    rw [List.getElem?_set_ne (by omega), List.getElem?_set_ne (by omega), flat_get encW_len xs k 2 p hk (by omega), hq]
    rfl
  obtain ⟨h6, e6⟩ := List.getElem?_eq_some_iff.1 h5
  rw [← e6]
  exact (List.set_getElem_self h6).symm

abbrev setM2 (W : World) (g o : Nat) (z : Int) : World := (W.setCell ⟨g, o, none⟩ (.int .i64 z)).setCell ⟨g, o + 1, none⟩ (.int .i64 (z + 1))

theorem setM2_grown (W : World) (g o : Nat) (z : Int) : W.grownBy (setM2 W g o z) (some g) := grown_trans (grown_set W g _ _) (grown_set _ g _ _)

end Go.Proofs.Ytdaigojpeofmpaa
namespace Go.Proofs.Ytdaigojpeofmpaa
open Go.RowKit

/-- a row of numbers of the caller's own, in blocks of lo .. hi -/
structure IntsOwn (W : World) (lo hi : Nat) (v : Value) (l : List Int) : Prop where
  row : W.ownsRow lo 3 1 v l.length (flat intE l)
  top : ∀ k, v.ownBlock = some k → k < hi

theorem IntsOwn.keep {W W' : World} {lo hi : Nat} {v : Value} {l : List Int} (h : IntsOwn W lo hi v l) (hk : ∀ k, lo ≤ k → k < hi → k < W.heap.size → W'.heap[k]? = W.heap[k]?) : IntsOwn W' lo hi v l :=
  ⟨owns_keepB h.row (fun k e => hk k (h.row.lt k e).1 (h.top k e) (h.row.lt k e).2), h.top⟩

theorem IntsOwn.below {W W' : World} {lo hi B : Nat} {v : Value} {l : List Int} (h : IntsOwn W lo hi v l) (hb : Below B W W') (hB : hi ≤ B) : IntsOwn W' lo hi v l := h.keep (fun k _ h2 _ => hb.block k (by omega))

theorem IntsOwn.frame {W W' : World} {lo hi l2 h2 : Nat} {v : Value} {l : List Int} (h : IntsOwn W lo hi v l) (hb : Frame l2 h2 W W') (hB : hi ≤ l2 ∨ h2 ≤ lo) : IntsOwn W' lo hi v l := h.keep (fun k h1 h2 h3 => hb.block k h3 (by omega))

theorem IntsOwn.wide {W : World} {lo hi lo' hi' : Nat} {v : Value} {l : List Int} (h : IntsOwn W lo hi v l) (hl : lo' ≤ lo) (hh : hi ≤ hi') : IntsOwn W lo' hi' v l := ⟨owns_baseS h.row hl, fun k e => Nat.lt_of_lt_of_le (h.top k e) hh⟩

theorem IntsOwn.at {W : World} {lo hi : Nat} {v : Value} {l : List Int} (h : IntsOwn W lo hi v l) : HopsAt W v l hi := by
  obtain ⟨a, cap, hv, h2⟩ := owns_rowAt h.row
  refine ⟨a, cap, hv, ?_⟩
  rcases h2 with h0 | ⟨b, off, ha, hb1, hx⟩
  · exact .inl h0
  · exact .inr ⟨b, off, ha, h.top b (by rw [hv, ha]; rfl), hx⟩

theorem IntsOwn.of {W : World} {lo : Nat} {v : Value} {l : List Int} (h : W.ownsRow lo 3 1 v l.length (flat intE l)) : IntsOwn W lo W.heap.size v l := ⟨h, fun k e => (h.lt k e).2⟩

theorem toInts_own (v : Value) (l : List Int) (w W : World) (h0 : HopsAt w v l w.heap.size) (hb : Below w.heap.size w W) (hn : l.length ≤ 1048576) :
    Calls Try.prog 32 #[v] W fun e w' => ∃ x, e = .returned x ∧ IntsOwn w' W.heap.size w'.heap.size x l ∧ Below W.heap.size W w' := by
  refine (toIntS_any v l W hn (h0.then hb)).mono ?_
  rintro e w' ⟨x, rfl, ho, hb2⟩
  exact ⟨x, rfl, IntsOwn.of ho, hb2⟩

theorem eqInts_own (v1 v2 : Value) (l : List Int) (l1 h1 l2 h2 : Nat) (w : World) (k1 : IntsOwn w l1 h1 v1 l) (k2 : IntsOwn w l2 h2 v2 l) (hn : l.length ≤ 1048576) (g1 : h1 ≤ w.heap.size) (g2 : h2 ≤ w.heap.size) :
    Calls Try.prog 37 #[v1, v2] w fun e w' => e = .returned (.bool true) ∧ Below w.heap.size w w' := by
  have h := eqI_any v1 v2 l l w (HopsAt.ints (RowAt.more k1.at g1)) (HopsAt.ints (RowAt.more k2.at g2)) hn
  rw [decide_eq_true rfl] at h
  exact h

end Go.Proofs.Ytdaigojpeofmpaa
namespace Go.Proofs.Ytdaigojpeofmpaa
open Go.RowKit

structure SelfD where
  id : Int
  boot : Int
  net : NetD
  heard : List Int

abbrev selfV (x : SelfD) (v1 v2 v3 v4 : Value) : Value := .agg #[.int .i64 x.id, .int .i64 x.boot, .int .i64 x.net.n, v1, v2, v3, v4]

/-- a node to read -/
structure SelfIn (W : World) (v1 v2 v3 v4 : Value) (x : SelfD) (ps : List RP) (B : Nat) : Prop where
  links : LinksAt W v1 x.net.ls B
  things : ThingsAt W v2 x.net.ts B
  heard : HopsAt W v3 x.heard B
  store : RecsAt W v4 ps B

def SelfAt (W : World) (v : Value) (x : SelfD) (ps : List RP) (B : Nat) : Prop := ∃ v1 v2 v3 v4, v = selfV x v1 v2 v3 v4 ∧ LinksAt W v1 x.net.ls B ∧ ThingsAt W v2 x.net.ts B ∧ HopsAt W v3 x.heard B ∧ RecsAt W v4 ps B

def SelfLen (x : SelfD) (ps : List RP) : Prop := x.net.ls.length ≤ maxLen ∧ x.net.ts.length ≤ maxLen ∧ x.heard.length ≤ maxLen ∧ ps.length ≤ maxLen ∧ ∀ p ∈ ps, p.1.near.length ≤ maxLen

theorem SelfAt.in {W : World} {v : Value} {x : SelfD} {ps : List RP} {B : Nat} (h : SelfAt W v x ps B) : ∃ v1 v2 v3 v4, v = selfV x v1 v2 v3 v4 ∧ SelfIn W v1 v2 v3 v4 x ps B := by
  obtain ⟨v1, v2, v3, v4, h0, h1, h2, h3, h4⟩ := h
  exact ⟨v1, v2, v3, v4, h0, h1, h2, h3, h4⟩

theorem SelfIn.later {W W' : World} {v1 v2 v3 v4 : Value} {x : SelfD} {ps : List RP} {B C : Nat} (h : SelfIn W v1 v2 v3 v4 x ps B) (hb : Below C W W') (hBC : B ≤ C) : SelfIn W' v1 v2 v3 v4 x ps B :=
  ⟨RowAt.later h.links hb hBC, RowAt.later h.things hb hBC, RowAt.later h.heard hb hBC, h.store.later hb hBC⟩

theorem SelfIn.more {W : World} {v1 v2 v3 v4 : Value} {x : SelfD} {ps : List RP} {B C : Nat} (h : SelfIn W v1 v2 v3 v4 x ps B) (hBC : B ≤ C) : SelfIn W v1 v2 v3 v4 x ps C :=
  ⟨RowAt.more h.links hBC, RowAt.more h.things hBC, RowAt.more h.heard hBC, h.store.more hBC⟩

theorem SelfIn.then {W W' : World} {v1 v2 v3 v4 : Value} {x : SelfD} {ps : List RP} (h : SelfIn W v1 v2 v3 v4 x ps W.heap.size) (hb : Below W.heap.size W W') : SelfIn W' v1 v2 v3 v4 x ps W'.heap.size := (h.later hb (Nat.le_refl _)).more hb.size

/-- how many numbers it has -/
def totS (x : SelfD) (ps : List RP) : Nat := x.net.ls.length + x.net.ts.length + x.heard.length + tot ps

/-- a node of the caller's own: its net, what it hears and its store lie in blocks of their own, one behind another -/
structure SelfOwn (W : World) (lo hi : Nat) (v1 v2 v3 v4 : Value) (x : SelfD) (ps : List RP) (m1 m2 : Nat) : Prop where
  o1 : lo ≤ m1
  o2 : m1 ≤ m2
  o3 : m2 ≤ hi
  links : W.ownsRow lo 95 4 v1 x.net.ls.length (flat lkE x.net.ls)
  ltop : ∀ k, v1.ownBlock = some k → k < m1
  things : W.ownsRow lo 98 4 v2 x.net.ts.length (flat thE x.net.ts)
  ttop : ∀ k, v2.ownBlock = some k → k < m1
  heard : IntsOwn W m1 m2 v3 x.heard
  store : RecsOwn W m2 hi v4 ps

theorem rowAt_own {α : Type} {enc : α → List Value} {W : World} {lo hi sz : Nat} {t : TypeId} {v : Value} {l : List α} (h : W.ownsRow lo t sz v l.length (flat enc l)) (ht : ∀ k, v.ownBlock = some k → k < hi) : StructsAt enc sz W v l hi := by
  obtain ⟨a, cap, hv, h2⟩ := owns_rowAt h
  refine ⟨a, cap, hv, ?_⟩
  rcases h2 with h0 | ⟨b, off, ha, hb1, hx⟩
  · exact .inl h0
  · exact .inr ⟨b, off, ha, ht b (by rw [hv, ha]; rfl), hx⟩

theorem SelfOwn.in {W : World} {lo hi m1 m2 : Nat} {v1 v2 v3 v4 : Value} {x : SelfD} {ps : List RP} (h : SelfOwn W lo hi v1 v2 v3 v4 x ps m1 m2) : SelfIn W v1 v2 v3 v4 x ps hi where
  links := RowAt.more (rowAt_own h.links h.ltop) (Nat.le_trans h.o2 h.o3)
  things := RowAt.more (rowAt_own h.things h.ttop) (Nat.le_trans h.o2 h.o3)
  heard := RowAt.more h.heard.at h.o3
  store := h.store.at

theorem SelfOwn.keep {W W' : World} {lo hi m1 m2 : Nat} {v1 v2 v3 v4 : Value} {x : SelfD} {ps : List RP} (h : SelfOwn W lo hi v1 v2 v3 v4 x ps m1 m2) (hk : ∀ k, lo ≤ k → k < hi → k < W.heap.size → W'.heap[k]? = W.heap[k]?) : SelfOwn W' lo hi v1 v2 v3 v4 x ps m1 m2 where
  o1 := h.o1
  o2 := h.o2
  o3 := h.o3
  links := owns_keepB h.links (fun k e => by have h1 := h.links.lt k e; have h2 := h.ltop k e; have := h.o2; have := h.o3; exact hk k h1.1 (by omega) h1.2)
  ltop := h.ltop
  things := owns_keepB h.things (fun k e => by have h1 := h.things.lt k e; have h2 := h.ttop k e; have := h.o2; have := h.o3; exact hk k h1.1 (by omega) h1.2)
  ttop := h.ttop
  heard := h.heard.keep (fun k a b c => by have := h.o1; have := h.o3; exact hk k (by omega) (by omega) c)
  store := h.store.keep (fun k a b c => by have := h.o1; have := h.o2; exact hk k (by omega) b c)

theorem SelfOwn.below {W W' : World} {lo hi m1 m2 B : Nat} {v1 v2 v3 v4 : Value} {x : SelfD} {ps : List RP} (h : SelfOwn W lo hi v1 v2 v3 v4 x ps m1 m2) (hb : Below B W W') (hB : hi ≤ B) : SelfOwn W' lo hi v1 v2 v3 v4 x ps m1 m2 := h.keep (fun k _ h2 _ => hb.block k (by omega))

theorem SelfOwn.frame {W W' : World} {lo hi m1 m2 l2 h2 : Nat} {v1 v2 v3 v4 : Value} {x : SelfD} {ps : List RP} (h : SelfOwn W lo hi v1 v2 v3 v4 x ps m1 m2) (hb : Frame l2 h2 W W') (hB : hi ≤ l2 ∨ h2 ≤ lo) : SelfOwn W' lo hi v1 v2 v3 v4 x ps m1 m2 := h.keep (fun k a b c => hb.block k c (by omega))

theorem SelfOwn.low {W : World} {lo lo' hi m1 m2 : Nat} {v1 v2 v3 v4 : Value} {x : SelfD} {ps : List RP} (h : SelfOwn W lo hi v1 v2 v3 v4 x ps m1 m2) (hl : lo' ≤ lo) : SelfOwn W lo' hi v1 v2 v3 v4 x ps m1 m2 :=
  ⟨Nat.le_trans hl h.o1, h.o2, h.o3, owns_baseS h.links hl, h.ltop, owns_baseS h.things hl, h.ttop, h.heard, h.store⟩

theorem SelfOwn.high {W : World} {lo hi hi' m1 m2 : Nat} {v1 v2 v3 v4 : Value} {x : SelfD} {ps : List RP} (h : SelfOwn W lo hi v1 v2 v3 v4 x ps m1 m2) (hl : hi ≤ hi') : SelfOwn W lo hi' v1 v2 v3 v4 x ps m1 m2 :=
  ⟨h.o1, h.o2, Nat.le_trans h.o3 hl, h.links, h.ltop, h.things, h.ttop, h.heard, h.store.wide (Nat.le_refl _) hl⟩
end Go.Proofs.Ytdaigojpeofmpaa
