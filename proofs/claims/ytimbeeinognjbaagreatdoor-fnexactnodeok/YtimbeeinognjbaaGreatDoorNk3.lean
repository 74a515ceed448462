/-
  laws.markIntS, markWay, heldWay: only the row's own memory turns; what was marked is held.
  Lists of ways, each with a row of its own.
  laws.szWayS, toWayS, eqWayS: their contracts.
  laws.markWayS, heldWayS: only the list's own memory turns; what was marked is held.
  Lists of numbers of the caller's own; laws.toIntS, eqIntS, markIntS, heldIntS over them.
  spec.l04Copy, impl.ownRecord: a record with a row of its own.
  A list of records to which one more is put.
  Lists of records that may share the rows of others; spec.l04CopyList, impl.ownRecords.
  A node's own: what it is, what it hears and what it knows, as a value.
  laws.szSelf, toSelf, eqSelf: their contracts.
  Ears as values (as things: three numbers and a truth); laws.szEarS, toEarS, eqEarS.
-/
import Derived.Test.YtimbeeinognjbaaGreatDoorNk2
import Derived.Laws.AppendOwnNone
import Derived.Test.YtimbeeinognjbaaGreatDoorNk1
namespace Go.Proofs.YtimbeeinognjbaaGreatDoor
open Go.RowKit

theorem grown_reflW (w : World) (r : Option Nat) : w.grownBy w r := ⟨rfl, rfl, rfl, Nat.le_refl _, fun _ _ _ => rfl⟩

set_option maxRecDepth 100000 in
set_option maxHeartbeats 1000000 in
theorem markG_any (v : Value) (base : Nat) (xs : List Int) (q : Int) (w : World) (h1 : w.ownsRow base 3 1 v xs.length (flat intE xs)) (hn : xs.length ≤ 1048576) (hq : 0 ≤ q) (hq2 : q ≤ 1000000000) :
    Calls Tryz.prog 38 #[v, .int .i64 q] w fun e w' => e = .returned (.int .i64 (q + (xs.length : Int))) ∧ w'.ownsRow base 3 1 v xs.length (flat intE (marksI q xs.length)) ∧ w.grownBy w' v.ownBlock := by
  rw [flat_int] at h1
  rw [flat_int]
  by_cases h0 : xs.length = 0
  · have hx : xs = [] := List.length_eq_zero_iff.1 h0
    subst hx
    obtain ⟨a1, c1, rfl⟩ := owns_len h1
    have H1 := hide h1
    clear h1 h0
    go_enter Tryz.func38, Tryz.ntmps38
    go_wp2
    refine wp_loop_rounds 1 ?_
    rw [rounds_succ]
    go_wp2
    go_ret
    exact ⟨by simp, H1.out, grown_reflW _ _⟩
  · obtain ⟨g1, c1, rfl, hg1, hl1⟩ := owns_shape h1 (by omega)
    obtain ⟨n, hnn⟩ : ∃ n, n = xs.length := ⟨_, rfl⟩
    have NN := hide hnn
    rw [← hnn] at hn h1 ⊢
    clear hnn h0
    go_enter Tryz.func38, Tryz.ntmps38
    go_wp2
    go_loopw [5, 1] (fun i r wr => ∃ k : Nat, k ≤ n ∧ i = .int .i64 k ∧ r = .int .i64 (q + (k : Int)) ∧ wr.ownsRow base 3 1 (.slice (some ⟨g1, 0, none⟩) n c1) n (intsOf (markedI q k xs)) ∧ w.grownBy wr (some g1)) (fun i _ _ => n - (intOf i).toNat)
    case atStart => exact ⟨0, by omega, rfl, by simp, h1, grown_reflW _ _⟩
    case round =>
      clear h1
      obtain ⟨k, hk, rfl, rfl, hown, hnx⟩ := hrel
      by_cases hlt : k < n
      · have hki : (0 : Int) ≤ (k : Int) := by omega
        have hkj : (k : Int) < (n : Int) := by omega
        have hfr1 := hown.frozenAt k
        have hcl1 : ∃ t, wr.cell? ⟨g1, k, none⟩ = some (.int .i64 t) := by
          rw [hown.cellAt k (by omega)]
          have hl : k < (markedI q k xs).length := by rw [markedI_length]; have := NN.out; omega; have := NN.out; omega
          exact ⟨(markedI q k xs)[k], by simp [intsOf, List.getElem?_eq_getElem hl]⟩
        obtain ⟨t, hcl⟩ := hcl1
        have hst := hown.stored k (.int .i64 (q + (k : Int)))
        rw [intsOf_set, markedI_step q k xs (by have := NN.out; omega)] at hst
        have ST := hide hst.1
        clear hst hown
        go_wp2
        go_roundw
        case rel => exact ⟨k + 1, by omega, by go_num, by go_num, ST.out, grown_trans hnx (grown_set _ _ _ _)⟩
        case measure => simp [intOf]; omega
      · have hkn : k = n := by omega
        have KN := hide hkn
        have OW := hide hown
        clear hkn hown
        go_wp2
        go_ret
        refine ⟨ret_int (by rw [KN.out]), ?_, hnx⟩
        have h := OW.out
        rw [KN.out] at h
        unfold markedI at h
        rw [List.drop_eq_nil_of_le (by have := NN.out; omega), List.append_nil] at h
        exact h

set_option maxRecDepth 100000 in
set_option maxHeartbeats 1000000 in
theorem heldG_any (v : Value) (n : Nat) (q : Int) (w : World) (h1 : HopsAt w v (marksI q n) w.heap.size) (hn : n ≤ 1048576) (hq : 0 ≤ q) (hq2 : q ≤ 1000000000) :
    Calls Tryz.prog 39 #[v, .int .i64 q] w fun e w' => e = .returned (.int .i64 (q + (n : Int))) ∧ w = w' := by
  obtain ⟨a1, c1, rfl, k1⟩ := h1.ints
  rw [marksI_length] at k1 ⊢
  have K1 := hide k1
  clear k1 h1
  go_enter Tryz.func39, Tryz.ntmps39
  go_wp2
  go_loop [5, 1] (fun i r => ∃ k : Nat, k ≤ n ∧ i = .int .i64 k ∧ r = .int .i64 (q + (k : Int))) (fun i _ => n - (intOf i).toNat)
  case atStart => exact ⟨0, by omega, rfl, by simp⟩
  case round =>
    obtain ⟨k, hk, rfl, rfl⟩ := hrel
    by_cases hlt : k < n
    · obtain ⟨b1, o1, ha1, hb1, d1⟩ : ∃ b1 o1, a1 = some ⟨b1, o1, none⟩ ∧ b1 < w.heap.size ∧ w.cell? ⟨b1, o1 + k, none⟩ = some (.int .i64 (q + (k : Int))) := by
        rcases K1.out with h0 | ⟨b, off, ha, hb, hx⟩
        · omega
        · exact ⟨b, off, ha, hb, by rw [hx k (by omega)]; simp only [intC, marksI_get q n k hlt]⟩
      subst ha1
      have hki : (0 : Int) ≤ (k : Int) := by omega
      have hkj : (k : Int) < (n : Int) := by omega
      go_wp2
      go_round
      case rel => exact ⟨k + 1, by omega, by go_num, by go_num⟩
      case measure => simp [intOf]; omega
    · have hkn : k = n := by omega
      have KN := hide hkn
      clear hkn
      go_wp2
      go_ret
      exact ⟨ret_int (by rw [KN.out]), rfl⟩
end Go.Proofs.YtimbeeinognjbaaGreatDoor
namespace Go.Proofs.YtimbeeinognjbaaGreatDoor
open Go.RowKit

/-- a way, and the value of its row -/
abbrev WP := WayD × Value

def encW (p : WP) : List Value := [.int .i64 p.1.to, .int .i64 p.1.cost, p.2]

def zeroWD : WayD := ⟨0, 0, []⟩

def zW : WP := (zeroWD, .slice none 0 0)

theorem encW_len (p : WP) : (encW p).length = 3 := rfl

/-- a list to read: its cells, and each record's row, below B -/
def WaysAt (W : World) (v : Value) (ps : List WP) (B : Nat) : Prop := StructsAt encW 3 W v ps B ∧ ∀ p ∈ ps, HopsAt W p.2 p.1.hops B

theorem WaysAt.shape {W : World} {v : Value} {ps : List WP} {B : Nat} (h : WaysAt W v ps B) : ∃ a cap, v = .slice a ps.length cap := by
  obtain ⟨⟨a, cap, h, _⟩, _⟩ := h
  exact ⟨a, cap, h⟩

theorem WaysAt.later {W W' : World} {v : Value} {ps : List WP} {B C : Nat} (h : WaysAt W v ps B) (hb : Below C W W') (hBC : B ≤ C) : WaysAt W' v ps B :=
  ⟨RowAt.later h.1 hb hBC, fun p hp => RowAt.later (h.2 p hp) hb hBC⟩

theorem WaysAt.more {W : World} {v : Value} {ps : List WP} {B C : Nat} (h : WaysAt W v ps B) (hBC : B ≤ C) : WaysAt W v ps C :=
  ⟨RowAt.more h.1 hBC, fun p hp => RowAt.more (h.2 p hp) hBC⟩

theorem WaysAt.then {W W' : World} {v : Value} {ps : List WP} (h : WaysAt W v ps W.heap.size) (hb : Below W.heap.size W W') : WaysAt W' v ps W'.heap.size := (h.later hb (Nat.le_refl _)).more hb.size

/-- its row is the caller's own, in blocks of lo .. hi -/
def HopOwn (W : World) (lo hi : Nat) (p : WP) : Prop := W.ownsRow lo 3 1 p.2 p.1.hops.length (flat intE p.1.hops) ∧ ∀ k, p.2.ownBlock = some k → k < hi

def ApartW (p q : WP) : Prop := ∀ k, p.2.ownBlock = some k → q.2.ownBlock ≠ some k

/-- a list of the caller's own: its row and those of its records, no two in one block, all in blocks of lo .. hi -/
structure WaysOwn (W : World) (lo hi : Nat) (v : Value) (ps : List WP) : Prop where
  row : W.ownsRow lo 104 3 v ps.length (flat encW ps)
  top : ∀ k, v.ownBlock = some k → k < hi
  nears : ∀ p ∈ ps, HopOwn W lo hi p
  apart : ps.Pairwise ApartW

theorem HopOwn.keep {W W' : World} {lo hi : Nat} {p : WP} (h : HopOwn W lo hi p) (hk : ∀ k, lo ≤ k → k < hi → k < W.heap.size → W'.heap[k]? = W.heap[k]?) : HopOwn W' lo hi p :=
  ⟨owns_keepB h.1 (fun k e => hk k (h.1.lt k e).1 (h.2 k e) (h.1.lt k e).2), h.2⟩

theorem HopOwn.wide {W : World} {lo hi lo' hi' : Nat} {p : WP} (h : HopOwn W lo hi p) (hl : lo' ≤ lo) (hh : hi ≤ hi') : HopOwn W lo' hi' p :=
  ⟨owns_baseS h.1 hl, fun k e => Nat.lt_of_lt_of_le (h.2 k e) hh⟩

theorem HopOwn.at {W : World} {lo hi : Nat} {p : WP} (h : HopOwn W lo hi p) : HopsAt W p.2 p.1.hops hi := by
  have h1 := owns_rowAt h.1
  obtain ⟨a, cap, hv, h2⟩ := h1
  refine ⟨a, cap, hv, ?_⟩
  rcases h2 with h0 | ⟨b, off, ha, hb1, hx⟩
  · exact .inl h0
  · exact .inr ⟨b, off, ha, h.2 b (by rw [hv, ha]; rfl), hx⟩

theorem WaysOwn.keep {W W' : World} {lo hi : Nat} {v : Value} {ps : List WP} (h : WaysOwn W lo hi v ps) (hk : ∀ k, lo ≤ k → k < hi → k < W.heap.size → W'.heap[k]? = W.heap[k]?) : WaysOwn W' lo hi v ps where
  row := owns_keepB h.row (fun k e => hk k (h.row.lt k e).1 (h.top k e) (h.row.lt k e).2)
  top := h.top
  nears := fun p hp => (h.nears p hp).keep hk
  apart := h.apart

theorem WaysOwn.below {W W' : World} {lo hi B : Nat} {v : Value} {ps : List WP} (h : WaysOwn W lo hi v ps) (hb : Below B W W') (hB : hi ≤ B) : WaysOwn W' lo hi v ps := h.keep (fun k _ h2 _ => hb.block k (by omega))

theorem WaysOwn.wide {W : World} {lo hi lo' hi' : Nat} {v : Value} {ps : List WP} (h : WaysOwn W lo hi v ps) (hl : lo' ≤ lo) (hh : hi ≤ hi') : WaysOwn W lo' hi' v ps where
  row := owns_baseS h.row hl
  top := fun k e => Nat.lt_of_lt_of_le (h.top k e) hh
  nears := fun p hp => (h.nears p hp).wide hl hh
  apart := h.apart

theorem WaysOwn.at {W : World} {lo hi : Nat} {v : Value} {ps : List WP} (h : WaysOwn W lo hi v ps) : WaysAt W v ps hi := by
  refine ⟨?_, fun p hp => (h.nears p hp).at⟩
  have h1 := owns_rowAt h.row
  obtain ⟨a, cap, hv, h2⟩ := h1
  refine ⟨a, cap, hv, ?_⟩
  rcases h2 with h0 | ⟨b, off, ha, hb1, hx⟩
  · exact .inl h0
  · exact .inr ⟨b, off, ha, h.top b (by rw [hv, ha]; rfl), hx⟩

theorem WaysOwn.frame {W W' : World} {lo hi l2 h2 : Nat} {v : Value} {ps : List WP} (h : WaysOwn W lo hi v ps) (hb : Frame l2 h2 W W') (hB : hi ≤ l2 ∨ h2 ≤ lo) : WaysOwn W' lo hi v ps := h.keep (fun k h1 h2 h3 => hb.block k h3 (by omega))

/-- near rows of new records are behind all that was there -/
theorem apartW_add {W : World} {lo hi : Nat} {ps : List WP} {p : WP} (h : ps.Pairwise ApartW) (hn : ∀ q ∈ ps, HopOwn W lo hi q) (hp : ∀ k, p.2.ownBlock = some k → hi ≤ k) : (ps ++ [p]).Pairwise ApartW := by
  rw [List.pairwise_append]
  refine ⟨h, by simp, ?_⟩
  intro a ha b hb
  have : b = p := by simpa using hb
  subst this
  intro k hk he
  have h1 := (hn a ha).2 k hk
  have h2 := hp k he
  omega

/-- how many numbers a list has -/
def totW (ps : List WP) : Nat := (ps.map (fun p => 1 + p.1.hops.length)).sum

theorem totW_cons (p : WP) (ps : List WP) : totW (p :: ps) = 1 + p.1.hops.length + totW ps := by simp [totW]

theorem totW_append (a b : List WP) : totW (a ++ b) = totW a + totW b := by simp [totW]

theorem totW_len (ps : List WP) : ps.length ≤ totW ps := by
  induction ps with
  | nil => simp [totW]
  | cons p ps ih => rw [totW_cons, List.length_cons]; omega

theorem totW_mem {ps : List WP} {p : WP} (h : p ∈ ps) : p.1.hops.length ≤ totW ps := by
  induction ps with
  | nil => simp at h
  | cons q ps ih =>
    rw [totW_cons]
    rcases List.mem_cons.1 h with rfl | h1
    · omega
    · have := ih h1; omega

theorem totW_map {ps qs : List WP} (h : ps.map (·.1) = qs.map (·.1)) : totW ps = totW qs := by
  have e : ∀ l : List WP, totW l = ((l.map (·.1)).map (fun x => 1 + x.hops.length)).sum := fun l => by simp [totW, List.map_map, Function.comp_def]
  rw [e, e, h]

theorem totW_take {ps : List WP} {k : Nat} {p : WP} (h : ps[k]? = some p) : totW (ps.take (k + 1)) = totW (ps.take k) + (1 + p.1.hops.length) := by
  obtain ⟨hk, e⟩ := List.getElem?_eq_some_iff.1 h
  rw [List.take_succ_eq_append_getElem hk, totW_append, e]
  simp [totW]

theorem mapW_take {ps : List WP} {k : Nat} {p : WP} (h : ps[k]? = some p) : (ps.take (k + 1)).map (·.1) = (ps.take k).map (·.1) ++ [p.1] := by
  obtain ⟨hk, e⟩ := List.getElem?_eq_some_iff.1 h
  rw [List.take_succ_eq_append_getElem hk, List.map_append, e]
  rfl
theorem WaysAt.cells {W : World} {v : Value} {ps : List WP} {B : Nat} (h : WaysAt W v ps B) (i : Nat) (p : WP) (hp : ps[i]? = some p) :
    ∃ b off cap, v = .slice (some ⟨b, off, none⟩) ps.length cap ∧ b < B ∧ W.cell? ⟨b, off + i * 3, none⟩ = some (.int .i64 p.1.to) ∧ W.cell? ⟨b, off + i * 3 + 1, none⟩ = some (.int .i64 p.1.cost) ∧ W.cell? ⟨b, off + i * 3 + 2, none⟩ = some p.2 ∧ HopsAt W p.2 p.1.hops B := by
  obtain ⟨b, off, cap, hv, hb, hc⟩ := StructsAt.cell h.1 encW_len i p hp
  exact ⟨b, off, cap, hv, hb, hc 0 _ rfl, hc 1 _ rfl, hc 2 _ rfl, h.2 p (List.mem_of_getElem? hp)⟩

/-- three cells laid at o of block g -/
abbrev putW (W : World) (g o : Nat) (p : WP) : World := ((W.setCell ⟨g, o, none⟩ (.int .i64 p.1.to)).setCell ⟨g, o + 1, none⟩ (.int .i64 p.1.cost)).setCell ⟨g, o + 2, none⟩ p.2

theorem putW_grown (W : World) (g o : Nat) (p : WP) : W.grownBy (putW W g o p) (some g) := grown_trans (grown_trans (grown_set W g _ _) (grown_set _ g _ _)) (grown_set _ g _ _)

theorem putW_owns {W : World} {base g cap n j : Nat} {xs : List WP} {p : WP} (h : W.ownsRow base 104 3 (.slice (some ⟨g, 0, none⟩) n cap) n (flat encW xs)) (hj : j < xs.length) :
    (putW W g (j * 3) p).ownsRow base 104 3 (.slice (some ⟨g, 0, none⟩) n cap) n (flat encW (xs.set j p)) := by
  have e : (((flat encW xs).set (j * 3) (.int .i64 p.1.to)).set (j * 3 + 1) (.int .i64 p.1.cost)).set (j * 3 + 2) p.2 = flat encW (xs.set j p) := flat_set encW_len xs j p hj
  rw [← e]
  exact (((h.stored (j * 3) _).1.stored (j * 3 + 1) _).1.stored (j * 3 + 2) _).1
end Go.Proofs.YtimbeeinognjbaaGreatDoor
namespace Go.Proofs.YtimbeeinognjbaaGreatDoor
open Go.RowKit

theorem Tryz.infoWay : (Tryz.prog.info? 104).map (fun i => (i.zero, i.size, i.bytes)) = some (some (.agg (wayC zeroWD (.slice none 0 0))), 3, 40) := by kernel_rfl

def fstsW (ps : List WP) : List WayD := ps.map (·.1)

theorem fstsW_at {ps : List WP} {i : Nat} {p : WP} (h : ps[i]? = some p) : (fstsW ps)[i]? = some p.1 := by simp [fstsW, h]

end Go.Proofs.YtimbeeinognjbaaGreatDoor
namespace Go.Proofs.YtimbeeinognjbaaGreatDoor
open Go.RowKit

/-- the numbers of a record that is marked from c on -/
def mkW (c : Int) (p : WP) : WP := (⟨c, c + 1, marksI (c + 1 + 1) p.1.hops.length⟩, p.2)

def nxW (c : Int) (p : WP) : Int := c + 1 + 1 + (p.1.hops.length : Int)

def mkWL : Int → List WP → List WP
  | _, [] => []
  | c, p :: ps => mkW c p :: mkWL (nxW c p) ps

def mkWE : Int → List WP → Int
  | c, [] => c
  | c, p :: ps => mkWE (nxW c p) ps

theorem mkWL_len (c : Int) (ps : List WP) : (mkWL c ps).length = ps.length := by
  induction ps generalizing c with
  | nil => rfl
  | cons p ps ih => simp [mkWL, ih]

theorem mkWE_append (c : Int) (a b : List WP) : mkWE c (a ++ b) = mkWE (mkWE c a) b := by
  induction a generalizing c with
  | nil => rfl
  | cons p a ih => exact ih _

theorem mkWL_append (c : Int) (a b : List WP) : mkWL c (a ++ b) = mkWL c a ++ mkWL (mkWE c a) b := by
  induction a generalizing c with
  | nil => rfl
  | cons p a ih => simp only [List.cons_append, mkWL, mkWE, ih]

theorem mkWE_step {ps : List WP} {k : Nat} {p : WP} (c : Int) (h : ps[k]? = some p) : mkWE c (ps.take (k + 1)) = nxW (mkWE c (ps.take k)) p := by
  obtain ⟨hk, e⟩ := List.getElem?_eq_some_iff.1 h
  rw [List.take_succ_eq_append_getElem hk, mkWE_append, e]
  rfl

theorem mkWL_step {ps : List WP} {k : Nat} {p : WP} (c : Int) (h : ps[k]? = some p) : mkWL c (ps.take (k + 1)) = mkWL c (ps.take k) ++ [mkW (mkWE c (ps.take k)) p] := by
  obtain ⟨hk, e⟩ := List.getElem?_eq_some_iff.1 h
  rw [List.take_succ_eq_append_getElem hk, mkWL_append, e]
  rfl

theorem mkWE_tot (c : Int) (ps : List WP) : c + (totW ps : Int) ≤ mkWE c ps ∧ mkWE c ps ≤ c + 2 * (totW ps : Int) := by
  induction ps generalizing c with
  | nil => simp [mkWE, totW]
  | cons p ps ih =>
    have h := ih (nxW c p)
    rw [totW_cons]
    simp only [mkWE]
    unfold nxW at h ⊢
    omega

theorem totW_takeLe (ps : List WP) (k : Nat) : totW (ps.take k) ≤ totW ps := by
  have h := totW_append (ps.take k) (ps.drop k)
  rw [List.take_append_drop] at h
  omega

theorem mkWL_at {ps : List WP} {k : Nat} {p : WP} (c : Int) (h : ps[k]? = some p) : (mkWL c ps)[k]? = some (mkW (mkWE c (ps.take k)) p) := by
  obtain ⟨hk, e⟩ := List.getElem?_eq_some_iff.1 h
  have e2 : ps = ps.take k ++ (p :: ps.drop (k + 1)) := by
    rw [← e]
    simp
  have e3 : mkWL c ps = mkWL c (ps.take k) ++ (mkW (mkWE c (ps.take k)) p :: mkWL (nxW (mkWE c (ps.take k)) p) (ps.drop (k + 1))) := by
    conv => lhs; rw [e2]
    rw [mkWL_append]
    rfl
  rw [e3, List.getElem?_append_right (by rw [mkWL_len, List.length_take]; omega), mkWL_len, List.length_take, Nat.min_eq_left (by omega), Nat.sub_self]
  rfl

theorem apartW_snd (ps : List WP) : ps.Pairwise ApartW ↔ (ps.map (·.2)).Pairwise (fun a b : Value => ∀ k, a.ownBlock = some k → b.ownBlock ≠ some k) := by
  rw [List.pairwise_map]
  exact Iff.rfl

theorem apartW_at {ps : List WP} (h : ps.Pairwise ApartW) {i k : Nat} {p q : WP} (hi : ps[i]? = some p) (hk : ps[k]? = some q) (hne : i ≠ k) : ApartW p q := by
  obtain ⟨h1, e1⟩ := List.getElem?_eq_some_iff.1 hi
  obtain ⟨h2, e2⟩ := List.getElem?_eq_some_iff.1 hk
  rw [List.pairwise_iff_getElem] at h
  rcases Nat.lt_or_ge i k with hl | hl
  · have := h i k h1 h2 hl
    rw [e1, e2] at this
    exact this
  · have := h k i h2 h1 (by omega)
    rw [e1, e2] at this
    exact fun j hj he => this j he hj

theorem setW_snd {ps : List WP} {k : Nat} {p q : WP} (hk : ps[k]? = some p) (h : q.2 = p.2) : (ps.set k q).map (·.2) = ps.map (·.2) := by
  apply List.ext_getElem?
  intro i
  by_cases e : i = k
  · subst e
    obtain ⟨h1, e1⟩ := List.getElem?_eq_some_iff.1 hk
    rw [List.getElem?_map, List.getElem?_set_self h1, List.getElem?_map, hk]
    simp [h]
  · simp [List.getElem?_set_ne (Ne.symm e)]

/-- one record turned within its list -/
theorem WaysOwn.turn {W W8 : World} {lo hi g n cap k : Nat} {xs : List WP} {p q : WP} (h : WaysOwn W lo hi (.slice (some ⟨g, 0, none⟩) n cap) xs) (hn : xs.length = n) (hk : xs[k]? = some p) (hq : q.2 = p.2)
    (row : W8.ownsRow lo 104 3 (.slice (some ⟨g, 0, none⟩) n cap) n (flat encW (xs.set k q))) (near : W8.ownsRow lo 3 1 q.2 q.1.hops.length (flat intE q.1.hops))
    (hkeep : ∀ j, j < W.heap.size → j ≠ g → some j ≠ p.2.ownBlock → W8.heap[j]? = W.heap[j]?) : WaysOwn W8 lo hi (.slice (some ⟨g, 0, none⟩) n cap) (xs.set k q) where
  row := by rw [List.length_set, hn]; exact row
  top := h.top
  apart := by rw [apartW_snd, setW_snd hk hq, ← apartW_snd]; exact h.apart
  nears := by
    intro r hr
    obtain ⟨i, hi, e⟩ := List.getElem_of_mem hr
    have hr2 : (xs.set k q)[i]? = some r := by rw [← e]; exact List.getElem?_eq_getElem hi
    by_cases ek : i = k
    · subst ek
      rw [List.getElem?_set_self (by simpa using hi)] at hr2
      cases hr2
      refine ⟨near, ?_⟩
      rw [hq]
      exact (h.nears p (List.mem_of_getElem? hk)).2
    · rw [List.getElem?_set_ne (Ne.symm ek)] at hr2
      have ho := h.nears r (List.mem_of_getElem? hr2)
      refine ⟨owns_keepB ho.1 (fun j hj => ?_), ho.2⟩
      refine hkeep j (ho.1.lt j hj).2 ?_ ?_
      · rintro rfl
        obtain ⟨cur, hh⟩ : ∃ cur, W.heap[j]? = some (.cells cur 104 (0, 0)) := by
          rcases h.row.2 with ⟨h0, _⟩ | ⟨g', cap', cur', hv', _, hh', _⟩
          · cases h0
          · cases hv'; exact ⟨cur', hh'⟩
        rcases ho.1.2 with ⟨h0, _⟩ | ⟨g', cap', cur', hv', _, hh', _⟩
        · rw [h0] at hj; simp [Value.ownBlock] at hj
        · rw [hv'] at hj
          simp [Value.ownBlock] at hj
          subst hj
          rw [hh] at hh'
          simp at hh'
      · intro he
        exact apartW_at h.apart hr2 hk ek j hj he.symm

theorem setW2 {xs : List WP} {k : Nat} {p q : WP} (hk : xs[k]? = some p) (hq : q.2 = p.2) : ((flat encW xs).set (k * 3) (.int .i64 q.1.to)).set (k * 3 + 1) (.int .i64 q.1.cost) = flat encW (xs.set k q) := by
  obtain ⟨hlt, _⟩ := List.getElem?_eq_some_iff.1 hk
  have e : (((flat encW xs).set (k * 3) (.int .i64 q.1.to)).set (k * 3 + 1) (.int .i64 q.1.cost)).set (k * 3 + 2) q.2 = flat encW (xs.set k q) := flat_set encW_len xs k q hlt
  rw [← e]
  have h5 : (((flat encW xs).set (k * 3) (.int .i64 q.1.to)).set (k * 3 + 1) (.int .i64 q.1.cost))[k * 3 + 2]? = some q.2 := by
    rw [List.getElem?_set_ne (by omega), List.getElem?_set_ne (by omega), flat_get encW_len xs k 2 p hk (by omega), hq]
    rfl
  obtain ⟨h6, e6⟩ := List.getElem?_eq_some_iff.1 h5
  rw [← e6]
  exact (List.set_getElem_self h6).symm

abbrev setM2 (W : World) (g o : Nat) (z : Int) : World := (W.setCell ⟨g, o, none⟩ (.int .i64 z)).setCell ⟨g, o + 1, none⟩ (.int .i64 (z + 1))

theorem setM2_grown (W : World) (g o : Nat) (z : Int) : W.grownBy (setM2 W g o z) (some g) := grown_trans (grown_set W g _ _) (grown_set _ g _ _)

end Go.Proofs.YtimbeeinognjbaaGreatDoor
namespace Go.Proofs.YtimbeeinognjbaaGreatDoor
open Go.RowKit

/-- a row of numbers of the caller's own, in blocks of lo .. hi -/
structure IntsOwn (W : World) (lo hi : Nat) (v : Value) (l : List Int) : Prop where
  row : W.ownsRow lo 3 1 v l.length (flat intE l)
  top : ∀ k, v.ownBlock = some k → k < hi

theorem IntsOwn.keep {W W' : World} {lo hi : Nat} {v : Value} {l : List Int} (h : IntsOwn W lo hi v l) (hk : ∀ k, lo ≤ k → k < hi → k < W.heap.size → W'.heap[k]? = W.heap[k]?) : IntsOwn W' lo hi v l :=
  ⟨owns_keepB h.row (fun k e => hk k (h.row.lt k e).1 (h.top k e) (h.row.lt k e).2), h.top⟩

theorem IntsOwn.below {W W' : World} {lo hi B : Nat} {v : Value} {l : List Int} (h : IntsOwn W lo hi v l) (hb : Below B W W') (hB : hi ≤ B) : IntsOwn W' lo hi v l := h.keep (fun k _ h2 _ => hb.block k (by omega))

theorem IntsOwn.frame {W W' : World} {lo hi l2 h2 : Nat} {v : Value} {l : List Int} (h : IntsOwn W lo hi v l) (hb : Frame l2 h2 W W') (hB : hi ≤ l2 ∨ h2 ≤ lo) : IntsOwn W' lo hi v l := h.keep (fun k h1 h2 h3 => hb.block k h3 (by omega))

theorem IntsOwn.wide {W : World} {lo hi lo' hi' : Nat} {v : Value} {l : List Int} (h : IntsOwn W lo hi v l) (hl : lo' ≤ lo) (hh : hi ≤ hi') : IntsOwn W lo' hi' v l := ⟨owns_baseS h.row hl, fun k e => Nat.lt_of_lt_of_le (h.top k e) hh⟩

theorem IntsOwn.at {W : World} {lo hi : Nat} {v : Value} {l : List Int} (h : IntsOwn W lo hi v l) : HopsAt W v l hi := by
  obtain ⟨a, cap, hv, h2⟩ := owns_rowAt h.row
  refine ⟨a, cap, hv, ?_⟩
  rcases h2 with h0 | ⟨b, off, ha, hb1, hx⟩
  · exact .inl h0
  · exact .inr ⟨b, off, ha, h.top b (by rw [hv, ha]; rfl), hx⟩

theorem IntsOwn.of {W : World} {lo : Nat} {v : Value} {l : List Int} (h : W.ownsRow lo 3 1 v l.length (flat intE l)) : IntsOwn W lo W.heap.size v l := ⟨h, fun k e => (h.lt k e).2⟩

theorem toInts_own (v : Value) (l : List Int) (w W : World) (h0 : HopsAt w v l w.heap.size) (hb : Below w.heap.size w W) (hn : l.length ≤ 1048576) :
    Calls Tryz.prog 47 #[v] W fun e w' => ∃ x, e = .returned x ∧ IntsOwn w' W.heap.size w'.heap.size x l ∧ Below W.heap.size W w' := by
  refine (toIntS_any v l W hn (h0.then hb)).mono ?_
  rintro e w' ⟨x, rfl, ho, hb2⟩
  exact ⟨x, rfl, IntsOwn.of ho, hb2⟩

theorem eqInts_own (v1 v2 : Value) (l : List Int) (l1 h1 l2 h2 : Nat) (w : World) (k1 : IntsOwn w l1 h1 v1 l) (k2 : IntsOwn w l2 h2 v2 l) (hn : l.length ≤ 1048576) (g1 : h1 ≤ w.heap.size) (g2 : h2 ≤ w.heap.size) :
    Calls Tryz.prog 58 #[v1, v2] w fun e w' => e = .returned (.bool true) ∧ Below w.heap.size w w' := by
  have h := eqI_any v1 v2 l l w (HopsAt.ints (RowAt.more k1.at g1)) (HopsAt.ints (RowAt.more k2.at g2)) hn
  rw [decide_eq_true rfl] at h
  exact h

theorem markInts_own (v : Value) (l : List Int) (lo hi : Nat) (q : Int) (w : World) (h : IntsOwn w lo hi v l) (hn : l.length ≤ 1048576) (hq : 0 ≤ q) (hq2 : q ≤ 1000000000) :
    Calls Tryz.prog 38 #[v, .int .i64 q] w fun e w' => e = .returned (.int .i64 (q + (l.length : Int))) ∧ IntsOwn w' lo hi v (marksI q l.length) ∧ Frame lo hi w w' := by
  refine (markG_any v lo l q w h.row hn hq hq2).mono ?_
  rintro e w' ⟨rfl, ho, hg⟩
  exact ⟨rfl, ⟨by rw [marksI_length]; exact ho, h.top⟩, Frame.grown hg (fun k hk => ⟨(h.row.lt k hk).1, h.top k hk⟩)⟩

theorem heldInts_own (v : Value) (n lo hi : Nat) (q : Int) (w : World) (h : IntsOwn w lo hi v (marksI q n)) (hn : n ≤ 1048576) (hq : 0 ≤ q) (hq2 : q ≤ 1000000000) (g : hi ≤ w.heap.size) :
    Calls Tryz.prog 39 #[v, .int .i64 q] w fun e w' => e = .returned (.int .i64 (q + (n : Int))) ∧ w = w' :=
  heldG_any v n q w (RowAt.more h.at g) hn hq hq2
end Go.Proofs.YtimbeeinognjbaaGreatDoor
namespace Go.Proofs.YtimbeeinognjbaaGreatDoor
open Go.RowKit

set_option linter.unusedSimpArgs false

theorem nrE_one5 (a : Nr) : ∀ u ∈ nrE a, u.oneCell' = true := by
  intro u hu
  simp [nrE] at hu
  rcases hu with rfl | rfl <;> rfl

/-- 'append(out, xs...)' of a row of structs, both the caller's own -/
theorem append_row5 {α : Type} {enc : α → List Value} {sz bytes : Nat} (hlen : ∀ l : List α, (flat enc l).length = l.length * sz) (hpos : 0 < sz) (hone : ∀ a, ∀ u ∈ enc a, u.oneCell' = true) (hbb : bytes ≤ 100) {P : Program} (w : World) {ops : Array Oper} {rest : List Oper} {o : Oper} {a : Act} {Q : Exit → Act → World → Prop} (hgd : o.guard = none) (s x : Operand) (t : TypeId)
    (ho : o.op = .call { callee := .builtin .append, args := #[s, x], argTypes := #[t, t] }) (base : Nat) (e : TypeId) (ht : P.underlying t = some (.slice e)) (zv : Value) (hzv : zv.cells.size = sz)
    (hinfo : (P.info? e).map (fun i => (i.zero, i.size, i.bytes)) = some (some zv, sz, bytes))
    (v : Value) (l : List α) (hs : a.eval s = v) (hown : w.ownsRow base e sz v l.length (flat enc l))
    (base2 : Nat) (v2 : Value) (l2 : List α) (hx : a.eval x = v2) (hown2 : w.ownsRow base2 e sz v2 l2.length (flat enc l2))
    (hl : l.length + l2.length ≤ 1000000000) (hbase : base ≤ w.heap.size)
    (h : ∀ v' w', w'.ownsRow base e sz v' (l ++ l2).length (flat enc (l ++ l2)) → w.grownBy w' v.ownBlock → wpList P ops Q rest (a.put o.dst v') w') : wpList P ops Q (o :: rest) a w := by
  obtain ⟨i0, hi, hz0, hz1, hz2⟩ := info_parts hinfo
  rcases hown2.2 with ⟨e1, e2⟩ | ⟨g, cap, cur, e1, _⟩
  · have e3 : l2 = [] := List.eq_nil_of_length_eq_zero e2
    subst e3
    refine wpList_append_own_none hgd s x t ho base e i0 sz ht hi v l.length (flat enc l) hs hown (hx.trans e1) ?_
    exact h v w (by simpa using hown) (grown_refl w _)
  · refine wpList_append_own w hgd s x t ho base e i0 zv sz bytes ht hi hz0 hz1 hz2 hzv hpos v l.length (flat enc l) hs hown ⟨g, 0, none⟩ l2.length cap (flat enc l2) (hx.trans e1) (hlen l2) (hown2.cells (by rw [e1]; rfl)) ?_ (by unfold maxLen; omega) ?_ hbase ?_
    · intro u hu
      simp only [flat, List.mem_flatMap] at hu
      obtain ⟨b, _, hb⟩ := hu
      exact hone b u hb
    · have : (l.length + l2.length) * bytes ≤ 1000000000 * 100 := Nat.mul_le_mul hl hbb
      omega
    · intro v' w' h1 h2 _
      have e1 : flat enc l ++ flat enc l2 = flat enc (l ++ l2) := by rw [flat_append]
      rw [e1] at h1
      exact h v' w' (by simpa using h1) h2

abbrev putR5 (W : World) (g : Nat) (x : RecD) (v : Value) : World := (((((((W.setCell ⟨g, 0, none⟩ (.int .i64 x.area)).setCell ⟨g, 1, none⟩ (.int .i64 x.kind)).setCell ⟨g, 2, none⟩ (.int .i64 x.owner)).setCell ⟨g, 3, none⟩ (.int .i64 x.key)).setCell ⟨g, 4, none⟩ (.int .i64 x.seq)).setCell ⟨g, 5, none⟩ v).setCell ⟨g, 6, none⟩ (.int .i64 x.cost)).setCell ⟨g, 7, none⟩ (.bool x.far)

set_option maxHeartbeats 1000000 in
theorem fin85 {W : World} {B0 : Nat} {c0 c1 c2 c3 c4 c5 c6 c7 : Value} (x : RecD) (v : Value) (hr : W.heap[B0]? = some (.cells #[c0, c1, c2, c3, c4, c5, c6, c7] 128)) :
    (putR5 W B0 x v).heap[B0]? = some (.cells (recC x v) 128) := by
  have k1 := heap_setCell_same _ _ 0 _ _ (.int .i64 x.area) hr
  have k2 := heap_setCell_same _ _ 1 _ _ (.int .i64 x.kind) k1
  have k3 := heap_setCell_same _ _ 2 _ _ (.int .i64 x.owner) k2
  have k4 := heap_setCell_same _ _ 3 _ _ (.int .i64 x.key) k3
  have k5 := heap_setCell_same _ _ 4 _ _ (.int .i64 x.seq) k4
  have k6 := heap_setCell_same _ _ 5 _ _ v k5
  have k7 := heap_setCell_same _ _ 6 _ _ (.int .i64 x.cost) k6
  have k8 := heap_setCell_same _ _ 7 _ _ (.bool x.far) k7
  simp only [List.setIfInBounds_toArray, List.set_cons_zero, List.set_cons_succ] at k8
  unfold putR5 recC
  exact k8

theorem grown85 (W : World) (g : Nat) (x : RecD) (v : Value) : W.grownBy (putR5 W g x v) (some g) :=
  grown_trans (grown_trans (grown_trans (grown_trans (grown_trans (grown_trans (grown_trans (grown_set W g _ _) (grown_set _ g _ _)) (grown_set _ g _ _)) (grown_set _ g _ _)) (grown_set _ g _ _)) (grown_set _ g _ _)) (grown_set _ g _ _)) (grown_set _ g _ _)

theorem nr_flat5 (l : List Nr) : (flat nrE l).length = l.length * 2 := flat_len nrE_len l

theorem own_lit05 (W : World) (g base : Nat) (hg : g = W.heap.size) (hb : base ≤ W.heap.size) : (W.alloc (.cells #[] 225)).ownsRow base 225 2 (.slice (some ⟨g, 0, none⟩) 0 0) 0 (flat nrE []) := by
  subst hg
  exact World.ownsRow_lit W #[] 0 hb (by unfold maxLen; omega) (by simp)

end Go.Proofs.YtimbeeinognjbaaGreatDoor
namespace Go.Proofs.YtimbeeinognjbaaGreatDoor
open Go.RowKit

theorem append_struct5 {α : Type} {enc : α → List Value} {sz bytes : Nat} (hlen : ∀ a, (enc a).length = sz) (hpos : 0 < sz) (hbb : bytes ≤ 100) {P : Program} (w : World) {ops : Array Oper} {rest : List Oper} {o : Oper} {a : Act} {Q : Exit → Act → World → Prop} (hgd : o.guard = none) (s x : Operand) (t : TypeId)
    (ho : o.op = .call { callee := .builtin .append, args := #[s, x], argTypes := #[t, t] }) (base : Nat) (e : TypeId) (ht : P.underlying t = some (.slice e)) (zv : Value) (hzv : zv.cells.size = sz)
    (hinfo : (P.info? e).map (fun i => (i.zero, i.size, i.bytes)) = some (some zv, sz, bytes))
    (v : Value) (l : List α) (y : α) (hone : ∀ u ∈ enc y, u.oneCell' = true) (hs : a.eval s = v) (hown : w.ownsRow base e sz v l.length (flat enc l))
    (ad : Addr) (c : Nat) (hx : a.eval x = .slice (some ad) 1 c) (hnews : ∀ j u, (enc y)[j]? = some u → w.cell? (ad.add j) = some u)
    (hl : l.length + 1 ≤ 1000000000) (hbase : base ≤ w.heap.size)
    (h : ∀ v' w', w'.ownsRow base e sz v' (l ++ [y]).length (flat enc (l ++ [y])) → w.grownBy w' v.ownBlock → wpList P ops Q rest (a.put o.dst v') w') : wpList P ops Q (o :: rest) a w := by
  obtain ⟨i0, hi, hz0, hz1, hz2⟩ := info_parts hinfo
  refine wpList_append_own w hgd s x t ho base e i0 zv sz bytes ht hi hz0 hz1 hz2 hzv hpos v l.length (flat enc l) hs hown ad 1 c (enc y) hx (by rw [hlen]; omega) hnews hone (by unfold maxLen; omega) ?_ hbase ?_
  · have : (l.length + 1) * bytes ≤ 1000000000 * 100 := Nat.mul_le_mul hl hbb
    omega
  · intro v' w' h1 h2 _
    have e1 : flat enc l ++ enc y = flat enc (l ++ [y]) := by rw [flat_append]; simp [flat]
    rw [e1] at h1
    exact h v' w' (by simpa using h1) h2

theorem encP_one (x : RecD) (a : Option Addr) (n c : Nat) : ∀ u ∈ encP (x, .slice a n c), u.oneCell' = true := by
  intro u hu
  simp only [encP, List.mem_cons, List.not_mem_nil, or_false] at hu
  rcases hu with rfl | rfl | rfl | rfl | rfl | rfl | rfl | rfl <;> rfl

theorem near_row_ne {W : World} {lo lo2 hi n size2 : Nat} {v : Value} {xs : List Value} {q : RP} (hq : NearOwn W lo hi q) (hr : W.ownsRow lo2 128 size2 v n xs) (j : Nat) (hj : q.2.ownBlock = some j) : some j ≠ v.ownBlock := by
  intro e
  rcases hr.2 with ⟨h0, _⟩ | ⟨g, cap, cur, hv, _, hh, _⟩
  · rw [h0] at e; simp [Value.ownBlock] at e
  · rw [hv] at e
    simp [Value.ownBlock] at e
    subst e
    exact own_type_ne2 hq.1 hh (by decide) hj.symm

/-- one more record, its row behind all that was there -/
theorem RecsOwn.push {W Wa W2 : World} {lo : Nat} {v v' : Value} {qs : List RP} {p : RP} (h : RecsOwn W lo W.heap.size v qs) (hb : Below W.heap.size W Wa) (hlo : lo ≤ W.heap.size) (hp : NearOwn Wa W.heap.size Wa.heap.size p)
    (row : W2.ownsRow lo 128 8 v' (qs.length + 1) (flat encP (qs ++ [p]))) (hg : Wa.grownBy W2 v.ownBlock) : RecsOwn W2 lo W2.heap.size v' (qs ++ [p]) where
  row := by simpa using row
  top := fun k hk => (row.lt k hk).2
  apart := apart_add h.apart h.nears (fun k hk => (hp.1.lt k hk).1)
  nears := by
    have rowa := owns_below h.row hb (Nat.le_refl _)
    have key : ∀ q, NearOwn Wa lo Wa.heap.size q → NearOwn W2 lo W2.heap.size q := fun q hq =>
      ⟨owns_keepB hq.1 (fun j hj => hg.block j (hq.2 j hj) (near_row_ne hq rowa j hj)), fun k hk => Nat.lt_of_lt_of_le (hq.2 k hk) hg.size⟩
    intro q hq
    rcases List.mem_append.1 hq with h1 | h1
    · exact key q (((h.nears q h1).keep (W' := Wa) (fun j _ h2 _ => hb.block j h2)).wide (Nat.le_refl _) hb.size)
    · have : q = p := by simpa using h1
      subst this
      exact key q (hp.wide hlo (Nat.le_refl _))

/-- one more record, its row behind hi -/
theorem RecsOwn.push2 {Wa W2 : World} {lo hi : Nat} {v v' : Value} {qs : List RP} {p : RP} (h : RecsOwn Wa lo hi v qs) (hhi : hi ≤ Wa.heap.size) (hlo : lo ≤ hi) (hp : NearOwn Wa hi Wa.heap.size p)
    (row : W2.ownsRow lo 128 8 v' (qs.length + 1) (flat encP (qs ++ [p]))) (hg : Wa.grownBy W2 v.ownBlock) : RecsOwn W2 lo W2.heap.size v' (qs ++ [p]) where
  row := by simpa using row
  top := fun k hk => (row.lt k hk).2
  apart := apart_add h.apart h.nears (fun k hk => (hp.1.lt k hk).1)
  nears := by
    have key : ∀ q, NearOwn Wa lo Wa.heap.size q → NearOwn W2 lo W2.heap.size q := fun q hq =>
      ⟨owns_keepB hq.1 (fun j hj => hg.block j (hq.2 j hj) (near_row_ne hq h.row j hj)), fun k hk => Nat.lt_of_lt_of_le (hq.2 k hk) hg.size⟩
    intro q hq
    rcases List.mem_append.1 hq with h1 | h1
    · exact key q ((h.nears q h1).wide (Nat.le_refl _) hhi)
    · have : q = p := by simpa using h1
      subst this
      exact key q (hp.wide hlo (Nat.le_refl _))

theorem RecsOwn.grownP {W W' : World} {lo hi p : Nat} {v : Value} {ps : List RP} (h : RecsOwn W lo hi v ps) (hg : W.grownBy W' (some p)) (hp : p < lo) : RecsOwn W' lo hi v ps := h.keep (fun k h1 _ h3 => hg.block k h3 (by simp; omega))

theorem recs_lit (W : World) (lo : Nat) (hb : lo ≤ W.heap.size) : RecsOwn (W.alloc (.cells #[] 128)) lo (W.alloc (.cells #[] 128)).heap.size (.slice (some ⟨W.heap.size, 0, none⟩) 0 0) [] where
  row := World.ownsRow_lit W #[] 0 hb (by unfold maxLen; omega) (by simp)
  top := by intro k hk; simp [Value.ownBlock] at hk; subst hk; simp
  nears := by simp
  apart := by simp

theorem filter_take {ps : List RP} {k : Nat} {p : RP} (f : RecD → Bool) (h : ps[k]? = some p) : (fsts (ps.take (k + 1))).filter f = (fsts (ps.take k)).filter f ++ (if f p.1 then [p.1] else []) := by
  have e : fsts (ps.take (k + 1)) = fsts (ps.take k) ++ [p.1] := map_take h
  rw [e, List.filter_append]
  congr 1
  by_cases hf : f p.1 <;> simp [hf]
end Go.Proofs.YtimbeeinognjbaaGreatDoor
namespace Go.Proofs.YtimbeeinognjbaaGreatDoor
open Go.RowKit

/-- a list whose records' rows are somebody's own, below hi -/
structure RecsIn (W : World) (hi : Nat) (v : Value) (ps : List RP) : Prop where
  row : W.ownsRow 0 128 8 v ps.length (flat encP ps)
  top : ∀ k, v.ownBlock = some k → k < hi
  nears : ∀ p ∈ ps, NearOwn W 0 hi p

theorem RecsOwn.in {W : World} {lo hi : Nat} {v : Value} {ps : List RP} (h : RecsOwn W lo hi v ps) : RecsIn W hi v ps := ⟨owns_baseS h.row (Nat.zero_le _), h.top, fun p hp => (h.nears p hp).wide (Nat.zero_le _) (Nat.le_refl _)⟩

theorem RecsIn.keep {W W' : World} {hi : Nat} {v : Value} {ps : List RP} (h : RecsIn W hi v ps) (hk : ∀ k, k < hi → k < W.heap.size → W'.heap[k]? = W.heap[k]?) : RecsIn W' hi v ps where
  row := owns_keepB h.row (fun k e => hk k (h.top k e) (h.row.lt k e).2)
  top := h.top
  nears := fun p hp => (h.nears p hp).keep (fun k _ h2 h3 => hk k h2 h3)

theorem RecsIn.below {W W' : World} {hi B : Nat} {v : Value} {ps : List RP} (h : RecsIn W hi v ps) (hb : Below B W W') (hB : hi ≤ B) : RecsIn W' hi v ps := h.keep (fun k h2 _ => hb.block k (by omega))

theorem RecsIn.wide {W : World} {hi hi' : Nat} {v : Value} {ps : List RP} (h : RecsIn W hi v ps) (hh : hi ≤ hi') : RecsIn W hi' v ps := ⟨h.row, fun k e => Nat.lt_of_lt_of_le (h.top k e) hh, fun p hp => (h.nears p hp).wide (Nat.le_refl _) hh⟩

theorem RecsIn.at {W : World} {hi : Nat} {v : Value} {ps : List RP} (h : RecsIn W hi v ps) : RecsAt W v ps hi := by
  refine ⟨?_, fun p hp => (h.nears p hp).at⟩
  have h1 := owns_rowAt h.row
  obtain ⟨a, cap, hv, h2⟩ := h1
  refine ⟨a, cap, hv, ?_⟩
  rcases h2 with h0 | ⟨b, off, ha, hb1, hx⟩
  · exact .inl h0
  · exact .inr ⟨b, off, ha, h.top b (by rw [hv, ha]; rfl), hx⟩

theorem true_filter (xs : List RecD) : xs.filter (fun _ => true) = xs := by simp

end Go.Proofs.YtimbeeinognjbaaGreatDoor
namespace Go.Proofs.YtimbeeinognjbaaGreatDoor
open Go.RowKit

structure SelfD where
  id : Int
  boot : Int
  net : NetD
  heard : List Int

abbrev selfV (x : SelfD) (v1 v2 v3 v4 : Value) : Value := .agg #[.int .i64 x.id, .int .i64 x.boot, .int .i64 x.net.n, v1, v2, v3, v4]

/-- a node to read -/
structure SelfIn (W : World) (v1 v2 v3 v4 : Value) (x : SelfD) (ps : List RP) (B : Nat) : Prop where
  links : LinksAt W v1 x.net.ls B
  things : ThingsAt W v2 x.net.ts B
  heard : HopsAt W v3 x.heard B
  store : RecsAt W v4 ps B

def SelfAt (W : World) (v : Value) (x : SelfD) (ps : List RP) (B : Nat) : Prop := ∃ v1 v2 v3 v4, v = selfV x v1 v2 v3 v4 ∧ LinksAt W v1 x.net.ls B ∧ ThingsAt W v2 x.net.ts B ∧ HopsAt W v3 x.heard B ∧ RecsAt W v4 ps B

def SelfLen (x : SelfD) (ps : List RP) : Prop := x.net.ls.length ≤ maxLen ∧ x.net.ts.length ≤ maxLen ∧ x.heard.length ≤ maxLen ∧ ps.length ≤ maxLen ∧ ∀ p ∈ ps, p.1.near.length ≤ maxLen

theorem SelfAt.in {W : World} {v : Value} {x : SelfD} {ps : List RP} {B : Nat} (h : SelfAt W v x ps B) : ∃ v1 v2 v3 v4, v = selfV x v1 v2 v3 v4 ∧ SelfIn W v1 v2 v3 v4 x ps B := by
  obtain ⟨v1, v2, v3, v4, h0, h1, h2, h3, h4⟩ := h
  exact ⟨v1, v2, v3, v4, h0, h1, h2, h3, h4⟩

theorem SelfIn.later {W W' : World} {v1 v2 v3 v4 : Value} {x : SelfD} {ps : List RP} {B C : Nat} (h : SelfIn W v1 v2 v3 v4 x ps B) (hb : Below C W W') (hBC : B ≤ C) : SelfIn W' v1 v2 v3 v4 x ps B :=
  ⟨RowAt.later h.links hb hBC, RowAt.later h.things hb hBC, RowAt.later h.heard hb hBC, h.store.later hb hBC⟩

theorem SelfIn.more {W : World} {v1 v2 v3 v4 : Value} {x : SelfD} {ps : List RP} {B C : Nat} (h : SelfIn W v1 v2 v3 v4 x ps B) (hBC : B ≤ C) : SelfIn W v1 v2 v3 v4 x ps C :=
  ⟨RowAt.more h.links hBC, RowAt.more h.things hBC, RowAt.more h.heard hBC, h.store.more hBC⟩

theorem SelfIn.then {W W' : World} {v1 v2 v3 v4 : Value} {x : SelfD} {ps : List RP} (h : SelfIn W v1 v2 v3 v4 x ps W.heap.size) (hb : Below W.heap.size W W') : SelfIn W' v1 v2 v3 v4 x ps W'.heap.size := (h.later hb (Nat.le_refl _)).more hb.size

/-- how many numbers it has -/
def totS (x : SelfD) (ps : List RP) : Nat := x.net.ls.length + x.net.ts.length + x.heard.length + tot ps

/-- a node of the caller's own: its net, what it hears and its store lie in blocks of their own, one behind another -/
structure SelfOwn (W : World) (lo hi : Nat) (v1 v2 v3 v4 : Value) (x : SelfD) (ps : List RP) (m1 m2 : Nat) : Prop where
  o1 : lo ≤ m1
  o2 : m1 ≤ m2
  o3 : m2 ≤ hi
  links : W.ownsRow lo 84 4 v1 x.net.ls.length (flat lkE x.net.ls)
  ltop : ∀ k, v1.ownBlock = some k → k < m1
  things : W.ownsRow lo 123 4 v2 x.net.ts.length (flat thE x.net.ts)
  ttop : ∀ k, v2.ownBlock = some k → k < m1
  heard : IntsOwn W m1 m2 v3 x.heard
  store : RecsOwn W m2 hi v4 ps

theorem rowAt_own {α : Type} {enc : α → List Value} {W : World} {lo hi sz : Nat} {t : TypeId} {v : Value} {l : List α} (h : W.ownsRow lo t sz v l.length (flat enc l)) (ht : ∀ k, v.ownBlock = some k → k < hi) : StructsAt enc sz W v l hi := by
  obtain ⟨a, cap, hv, h2⟩ := owns_rowAt h
  refine ⟨a, cap, hv, ?_⟩
  rcases h2 with h0 | ⟨b, off, ha, hb1, hx⟩
  · exact .inl h0
  · exact .inr ⟨b, off, ha, ht b (by rw [hv, ha]; rfl), hx⟩

theorem SelfOwn.in {W : World} {lo hi m1 m2 : Nat} {v1 v2 v3 v4 : Value} {x : SelfD} {ps : List RP} (h : SelfOwn W lo hi v1 v2 v3 v4 x ps m1 m2) : SelfIn W v1 v2 v3 v4 x ps hi where
  links := RowAt.more (rowAt_own h.links h.ltop) (Nat.le_trans h.o2 h.o3)
  things := RowAt.more (rowAt_own h.things h.ttop) (Nat.le_trans h.o2 h.o3)
  heard := RowAt.more h.heard.at h.o3
  store := h.store.at

theorem SelfOwn.keep {W W' : World} {lo hi m1 m2 : Nat} {v1 v2 v3 v4 : Value} {x : SelfD} {ps : List RP} (h : SelfOwn W lo hi v1 v2 v3 v4 x ps m1 m2) (hk : ∀ k, lo ≤ k → k < hi → k < W.heap.size → W'.heap[k]? = W.heap[k]?) : SelfOwn W' lo hi v1 v2 v3 v4 x ps m1 m2 where
  o1 := h.o1
  o2 := h.o2
  o3 := h.o3
  links := owns_keepB h.links (fun k e => by have h1 := h.links.lt k e; have h2 := h.ltop k e; have := h.o2; have := h.o3; exact hk k h1.1 (by omega) h1.2)
  ltop := h.ltop
  things := owns_keepB h.things (fun k e => by have h1 := h.things.lt k e; have h2 := h.ttop k e; have := h.o2; have := h.o3; exact hk k h1.1 (by omega) h1.2)
  ttop := h.ttop
  heard := h.heard.keep (fun k a b c => by have := h.o1; have := h.o3; exact hk k (by omega) (by omega) c)
  store := h.store.keep (fun k a b c => by have := h.o1; have := h.o2; exact hk k (by omega) b c)

theorem SelfOwn.below {W W' : World} {lo hi m1 m2 B : Nat} {v1 v2 v3 v4 : Value} {x : SelfD} {ps : List RP} (h : SelfOwn W lo hi v1 v2 v3 v4 x ps m1 m2) (hb : Below B W W') (hB : hi ≤ B) : SelfOwn W' lo hi v1 v2 v3 v4 x ps m1 m2 := h.keep (fun k _ h2 _ => hb.block k (by omega))

theorem SelfOwn.frame {W W' : World} {lo hi m1 m2 l2 h2 : Nat} {v1 v2 v3 v4 : Value} {x : SelfD} {ps : List RP} (h : SelfOwn W lo hi v1 v2 v3 v4 x ps m1 m2) (hb : Frame l2 h2 W W') (hB : hi ≤ l2 ∨ h2 ≤ lo) : SelfOwn W' lo hi v1 v2 v3 v4 x ps m1 m2 := h.keep (fun k a b c => hb.block k c (by omega))

theorem SelfOwn.low {W : World} {lo lo' hi m1 m2 : Nat} {v1 v2 v3 v4 : Value} {x : SelfD} {ps : List RP} (h : SelfOwn W lo hi v1 v2 v3 v4 x ps m1 m2) (hl : lo' ≤ lo) : SelfOwn W lo' hi v1 v2 v3 v4 x ps m1 m2 :=
  ⟨Nat.le_trans hl h.o1, h.o2, h.o3, owns_baseS h.links hl, h.ltop, owns_baseS h.things hl, h.ttop, h.heard, h.store⟩

theorem SelfOwn.high {W : World} {lo hi hi' m1 m2 : Nat} {v1 v2 v3 v4 : Value} {x : SelfD} {ps : List RP} (h : SelfOwn W lo hi v1 v2 v3 v4 x ps m1 m2) (hl : hi ≤ hi') : SelfOwn W lo hi' v1 v2 v3 v4 x ps m1 m2 :=
  ⟨h.o1, h.o2, Nat.le_trans h.o3 hl, h.links, h.ltop, h.things, h.ttop, h.heard, h.store.wide (Nat.le_refl _) hl⟩

/-- a node whose rows are whole blocks, below hi (they may be shared) -/
structure SelfSrc (W : World) (hi : Nat) (v1 v2 v3 v4 : Value) (x : SelfD) (ps : List RP) : Prop where
  links : W.ownsRow 0 84 4 v1 x.net.ls.length (flat lkE x.net.ls)
  ltop : ∀ k, v1.ownBlock = some k → k < hi
  things : W.ownsRow 0 123 4 v2 x.net.ts.length (flat thE x.net.ts)
  ttop : ∀ k, v2.ownBlock = some k → k < hi
  heard : W.ownsRow 0 3 1 v3 x.heard.length (flat intE x.heard)
  htop : ∀ k, v3.ownBlock = some k → k < hi
  store : RecsIn W hi v4 ps

theorem SelfOwn.src {W : World} {lo hi m1 m2 : Nat} {v1 v2 v3 v4 : Value} {x : SelfD} {ps : List RP} (h : SelfOwn W lo hi v1 v2 v3 v4 x ps m1 m2) : SelfSrc W hi v1 v2 v3 v4 x ps where
  links := owns_baseS h.links (Nat.zero_le _)
  ltop := fun k e => by have := h.ltop k e; have := h.o2; have := h.o3; omega
  things := owns_baseS h.things (Nat.zero_le _)
  ttop := fun k e => by have := h.ttop k e; have := h.o2; have := h.o3; omega
  heard := owns_baseS h.heard.row (Nat.zero_le _)
  htop := fun k e => by have := h.heard.top k e; have := h.o3; omega
  store := h.store.in

theorem SelfSrc.below {W W' : World} {hi B : Nat} {v1 v2 v3 v4 : Value} {x : SelfD} {ps : List RP} (h : SelfSrc W hi v1 v2 v3 v4 x ps) (hb : Below B W W') (hB : hi ≤ B) : SelfSrc W' hi v1 v2 v3 v4 x ps where
  links := owns_keepB h.links (fun k e => hb.block k (by have := h.ltop k e; omega))
  ltop := h.ltop
  things := owns_keepB h.things (fun k e => hb.block k (by have := h.ttop k e; omega))
  ttop := h.ttop
  heard := owns_keepB h.heard (fun k e => hb.block k (by have := h.htop k e; omega))
  htop := h.htop
  store := h.store.below hb hB

theorem SelfSrc.in {W : World} {hi : Nat} {v1 v2 v3 v4 : Value} {x : SelfD} {ps : List RP} (h : SelfSrc W hi v1 v2 v3 v4 x ps) : SelfIn W v1 v2 v3 v4 x ps hi where
  links := rowAt_own h.links h.ltop
  things := rowAt_own h.things h.ttop
  heard := rowAt_own h.heard h.htop
  store := h.store.at
end Go.Proofs.YtimbeeinognjbaaGreatDoor
namespace Go.Proofs.YtimbeeinognjbaaGreatDoor
open Go.RowKit

theorem SelfIn.net {W : World} {v1 v2 v3 v4 : Value} {x : SelfD} {ps : List RP} {B : Nat} (h : SelfIn W v1 v2 v3 v4 x ps B) : NetAt W (.agg #[.int .i64 x.net.n, v1, v2]) x.net B := ⟨v1, v2, rfl, h.links, h.things⟩

theorem SelfIn.shapes {W : World} {v1 v2 v3 v4 : Value} {x : SelfD} {ps : List RP} {B : Nat} (h : SelfIn W v1 v2 v3 v4 x ps B) : (∃ a c, v1 = .slice a x.net.ls.length c) ∧ (∃ a c, v2 = .slice a x.net.ts.length c) ∧ (∃ a c, v3 = .slice a x.heard.length c) ∧ ∃ a c, v4 = .slice a ps.length c :=
  ⟨h.links.shape, h.things.shape, h.heard.shape, h.store.shape⟩

set_option maxRecDepth 100000 in
set_option maxHeartbeats 1000000 in
theorem szSelf_any (v1 v2 v3 v4 : Value) (x : SelfD) (ps : List RP) (q : Int) (w : World) (hlen : SelfLen x ps) (hq0 : 0 ≤ q) (hq : q ≤ 1048576) (hv : SelfIn w v1 v2 v3 v4 x ps w.heap.size) :
    Calls Tryz.prog 16 #[selfV x v1 v2 v3 v4, .int .i64 q] w fun e w' => ∃ r : Int, e = .returned (.int .i64 r) ∧ (r < 0 ∨ (0 ≤ r ∧ r = q - (totS x ps : Int))) ∧ Below w.heap.size w w' := by
  obtain ⟨⟨a1, c1, rfl⟩, ⟨a2, c2, rfl⟩, ⟨a3, c3, rfl⟩, ⟨a4, c4, rfl⟩⟩ := hv.shapes
  have hm : maxLen = 9223372036854775807 := rfl
  have l1 : (x.net.ls.length : Int) ≤ 9223372036854775807 := by have := hlen.1; omega
  have l2 : (x.net.ts.length : Int) ≤ 9223372036854775807 := by have := hlen.2.1; omega
  have l3 : (x.heard.length : Int) ≤ 9223372036854775807 := by have := hlen.2.2.1; omega
  have HX := hide hv
  have HL := hide hlen
  have HT := hide (show (totS x ps : Int) = (x.net.ls.length : Int) + (x.net.ts.length : Int) + (x.heard.length : Int) + (tot ps : Int) by unfold totS; omega)
  have hsz := szNet_any (.int .i64 x.net.n) a1 a2 x.net.ls.length x.net.ts.length c1 c2 q
  have HSZ := hide hsz
  clear hv hlen hm hsz
  obtain ⟨y, hy⟩ : ∃ y, y = szN q x.net.ls.length x.net.ts.length := ⟨_, rfl⟩
  rw [← hy] at HSZ
  have hy2 : y = -1 ∨ (0 ≤ y ∧ y = q - (x.net.ls.length : Int) - (x.net.ts.length : Int)) := by
    rw [hy]
    unfold szN
    split
    · exact .inl rfl
    · split
      · exact .inl rfl
      · exact .inr ⟨by omega, rfl⟩
  clear hy
  go_enter Tryz.func16, Tryz.ntmps16
  go_wp2_with fail
  refine (HSZ.out _ l1 l2 hq0 hq).mono ?_
  rintro e w1 ⟨rfl, b1⟩
  have g1 : w1.heap[w.heap.size]? = some (.cells #[.int .i64 x.id, .int .i64 x.boot, .int .i64 x.net.n, .slice a1 x.net.ls.length c1, .slice a2 x.net.ts.length c2, .slice a3 x.heard.length c3, .slice a4 ps.length c4] 29) := by rw [b1.block _ (by simp)]; exact heap_alloc_new w _
  have B1 : Below w.heap.size w w1 := ((Below.refl _ _).alloc (Nat.le_refl _) _).trans (b1.mono (by simp))
  clear b1
  rcases hy2 with hy2 | ⟨hy0, hy2⟩
  · subst hy2
    go_wp2
    go_ret
    exact ⟨-1, rfl, .inl (by omega), B1⟩
  have hy1 : ¬ y < 0 := by omega
  have hyq : y ≤ 1048576 := by omega
  have HY2 := hide hy2
  clear hy2
  have s5 := cells_at g1 5
  simp at s5
  have HSI := hide (szIntS_any a3 x.heard.length c3 y w1 l3 hy0 hyq)
  have G1 := hide g1
  clear g1
  go_wp2_with fail
  refine HSI.out.mono ?_
  rintro e w2 ⟨rfl, rfl⟩
  by_cases h3 : y - (x.heard.length : Int) < 0
  · rw [if_pos h3]
    clear s5
    go_wp2
    go_ret
    exact ⟨-1, rfl, .inl (by omega), B1⟩
  rw [if_neg h3]
  clear s5
  obtain ⟨z, hz⟩ : ∃ z, z = y - (x.heard.length : Int) := ⟨_, rfl⟩
  rw [← hz] at h3 ⊢
  have hz0 : 0 ≤ z := by omega
  have hz1 : z ≤ 1048576 := by omega
  have HZ := hide hz
  clear hz
  have g1 := G1.out
  have s6 := cells_at g1 6
  simp at s6
  have HSR := hide (szRecordS_any (.slice a4 ps.length c4) ps z w1 HL.out.2.2.2.1 HL.out.2.2.2.2 hz0 hz1 ((HX.out.store.later B1 (Nat.le_refl _)).more B1.size))
  clear g1
  go_wp2_with fail
  refine HSR.out.mono ?_
  rintro e w3 ⟨r, rfl, hr, b3⟩
  have B3 : Below w.heap.size w w3 := B1.trans (b3.mono B1.size)
  clear b3 s6
  rcases hr with hr | ⟨hr0, hr⟩
  · go_wp2
    go_ret
    exact ⟨-1, rfl, .inl (by omega), B3⟩
  · have hr1 : ¬ r < 0 := by omega
    have HR := hide hr
    clear hr
    go_wp2
    go_ret
    exact ⟨r, rfl, .inr ⟨hr0, by rw [HT.out]; have := HR.out; have := HZ.out; have := HY2.out; omega⟩, B3⟩

set_option maxRecDepth 100000 in
set_option maxHeartbeats 2000000 in
theorem toSelf_any (v1 v2 v3 v4 : Value) (x : SelfD) (ps : List RP) (w : World) (ht : totS x ps ≤ 1048576) (hv : SelfIn w v1 v2 v3 v4 x ps w.heap.size) :
    Calls Tryz.prog 23 #[selfV x v1 v2 v3 v4] w fun e w' => ∃ u1 u2 u3 u4 qs m1 m2, e = .returned (selfV x u1 u2 u3 u4) ∧ fsts qs = fsts ps ∧ SelfOwn w' w.heap.size w'.heap.size u1 u2 u3 u4 x qs m1 m2 ∧ Below w.heap.size w w' := by
  obtain ⟨⟨a1, c1, rfl⟩, ⟨a2, c2, rfl⟩, ⟨a3, c3, rfl⟩, ⟨a4, c4, rfl⟩⟩ := hv.shapes
  have hlL : x.net.ls.length ≤ 1048576 := by unfold totS at ht; omega
  have hlT : x.net.ts.length ≤ 1048576 := by unfold totS at ht; omega
  have hlH : x.heard.length ≤ 1048576 := by unfold totS at ht; omega
  have hlR : tot ps ≤ 1048576 := by unfold totS at ht; omega
  have HX := hide hv
  clear hv ht
  go_enter Tryz.func23, Tryz.ntmps23
  go_wp2_with fail
  have hw0 := heap3_0 w (.cells #[.int .i64 x.id, .int .i64 x.boot, .int .i64 x.net.n, .slice a1 x.net.ls.length c1, .slice a2 x.net.ts.length c2, .slice a3 x.heard.length c3, .slice a4 ps.length c4] 29) (.cells #[.int .i64 0, .int .i64 0, .int .i64 0, .slice none 0 0, .slice none 0 0, .slice none 0 0, .slice none 0 0] 41) (.cells #[.int .i64 x.id, .int .i64 x.boot, .int .i64 0, .slice none 0 0, .slice none 0 0, .slice none 0 0, .slice none 0 0] 41)
  have hw1 := heap3_1 w (.cells #[.int .i64 x.id, .int .i64 x.boot, .int .i64 x.net.n, .slice a1 x.net.ls.length c1, .slice a2 x.net.ts.length c2, .slice a3 x.heard.length c3, .slice a4 ps.length c4] 29) (.cells #[.int .i64 0, .int .i64 0, .int .i64 0, .slice none 0 0, .slice none 0 0, .slice none 0 0, .slice none 0 0] 41) (.cells #[.int .i64 x.id, .int .i64 x.boot, .int .i64 0, .slice none 0 0, .slice none 0 0, .slice none 0 0, .slice none 0 0] 41)
  have hw2 := heap3_2 w (.cells #[.int .i64 x.id, .int .i64 x.boot, .int .i64 x.net.n, .slice a1 x.net.ls.length c1, .slice a2 x.net.ts.length c2, .slice a3 x.heard.length c3, .slice a4 ps.length c4] 29) (.cells #[.int .i64 0, .int .i64 0, .int .i64 0, .slice none 0 0, .slice none 0 0, .slice none 0 0, .slice none 0 0] 41) (.cells #[.int .i64 x.id, .int .i64 x.boot, .int .i64 0, .slice none 0 0, .slice none 0 0, .slice none 0 0, .slice none 0 0] 41)
  have bw := below_three (w := w) (.cells #[.int .i64 x.id, .int .i64 x.boot, .int .i64 x.net.n, .slice a1 x.net.ls.length c1, .slice a2 x.net.ts.length c2, .slice a3 x.heard.length c3, .slice a4 ps.length c4] 29) (.cells #[.int .i64 0, .int .i64 0, .int .i64 0, .slice none 0 0, .slice none 0 0, .slice none 0 0, .slice none 0 0] 41) (.cells #[.int .i64 x.id, .int .i64 x.boot, .int .i64 0, .slice none 0 0, .slice none 0 0, .slice none 0 0, .slice none 0 0] 41)
  generalize (((w.alloc (.cells #[.int .i64 x.id, .int .i64 x.boot, .int .i64 x.net.n, .slice a1 x.net.ls.length c1, .slice a2 x.net.ts.length c2, .slice a3 x.heard.length c3, .slice a4 ps.length c4] 29)).alloc (.cells #[.int .i64 0, .int .i64 0, .int .i64 0, .slice none 0 0, .slice none 0 0, .slice none 0 0, .slice none 0 0] 41)).alloc (.cells #[.int .i64 x.id, .int .i64 x.boot, .int .i64 0, .slice none 0 0, .slice none 0 0, .slice none 0 0, .slice none 0 0] 41)) = w1 at *
  refine (toNet_any _ x.net w1 hlL hlT (HX.out.then bw).net).mono ?_
  rintro e w2 ⟨p1, p2, rfl, ho1, ho2, b2⟩
  obtain ⟨p1a, p1c, rfl⟩ := owns_lenS ho1
  obtain ⟨p2a, p2c, rfl⟩ := owns_lenS ho2
  have l2 := lt_of_heap hw2
  rw [← b2.block _ (lt_of_heap hw0)] at hw0
  rw [← b2.block _ (lt_of_heap hw1)] at hw1
  rw [← b2.block _ l2] at hw2
  have hb12 : w.heap.size ≤ w1.heap.size := bw.size
  have hb22 : w1.heap.size ≤ w2.heap.size := b2.size
  have bw2 : Below w.heap.size w w2 := bw.trans (b2.mono hb12)
  have s2 := cells_at hw2 2
  have s3 := cells_at hw2 3
  have s4 := cells_at hw2 4
  simp at s2 s3 s4
  have t5 := cells_at hw0 5
  simp at t5
  have f2 := frozen_at hw2 2
  have f3 := frozen_at hw2 3
  have f4 := frozen_at hw2 4
  have O1 := hide ho1
  have O2 := hide ho2
  have HW0 := hide hw0
  have HW1 := hide hw1
  have HW2 := hide hw2
  clear ho1 ho2 hw0 hw1 hw2

  go_wp2_with fail
  have o1 := owns_set (p := w.heap.size + 1 + 1) (j := 4) (u := .slice p2a x.net.ts.length p2c) (owns_set (p := w.heap.size + 1 + 1) (j := 3) (u := .slice p1a x.net.ls.length p1c) (owns_set (p := w.heap.size + 1 + 1) (j := 2) (u := .int .i64 x.net.n) O1.out (by omega)) (by omega)) (by omega)
  have o2 := owns_set (p := w.heap.size + 1 + 1) (j := 4) (u := .slice p2a x.net.ts.length p2c) (owns_set (p := w.heap.size + 1 + 1) (j := 3) (u := .slice p1a x.net.ls.length p1c) (owns_set (p := w.heap.size + 1 + 1) (j := 2) (u := .int .i64 x.net.n) O2.out (by omega)) (by omega)) (by omega)
  have q0 : (((w2.setCell ⟨w.heap.size + 1 + 1, 2, none⟩ (.int .i64 x.net.n)).setCell ⟨w.heap.size + 1 + 1, 3, none⟩ (.slice p1a x.net.ls.length p1c)).setCell ⟨w.heap.size + 1 + 1, 4, none⟩ (.slice p2a x.net.ts.length p2c)).heap[w.heap.size]? = some (.cells #[.int .i64 x.id, .int .i64 x.boot, .int .i64 x.net.n, .slice a1 x.net.ls.length c1, .slice a2 x.net.ts.length c2, .slice a3 x.heard.length c3, .slice a4 ps.length c4] 29) := by
    rw [heap_setCell_other _ ⟨w.heap.size + 1 + 1, 4, none⟩ _ _ (by show w.heap.size ≠ w.heap.size + 1 + 1; omega), heap_setCell_other _ ⟨w.heap.size + 1 + 1, 3, none⟩ _ _ (by show w.heap.size ≠ w.heap.size + 1 + 1; omega), heap_setCell_other _ ⟨w.heap.size + 1 + 1, 2, none⟩ _ _ (by show w.heap.size ≠ w.heap.size + 1 + 1; omega)]
    exact HW0.out
  have q1 : (((w2.setCell ⟨w.heap.size + 1 + 1, 2, none⟩ (.int .i64 x.net.n)).setCell ⟨w.heap.size + 1 + 1, 3, none⟩ (.slice p1a x.net.ls.length p1c)).setCell ⟨w.heap.size + 1 + 1, 4, none⟩ (.slice p2a x.net.ts.length p2c)).heap[w.heap.size + 1]? = some (.cells #[.int .i64 0, .int .i64 0, .int .i64 0, .slice none 0 0, .slice none 0 0, .slice none 0 0, .slice none 0 0] 41) := by
    rw [heap_setCell_other _ ⟨w.heap.size + 1 + 1, 4, none⟩ _ _ (by show w.heap.size + 1 ≠ w.heap.size + 1 + 1; omega), heap_setCell_other _ ⟨w.heap.size + 1 + 1, 3, none⟩ _ _ (by show w.heap.size + 1 ≠ w.heap.size + 1 + 1; omega), heap_setCell_other _ ⟨w.heap.size + 1 + 1, 2, none⟩ _ _ (by show w.heap.size + 1 ≠ w.heap.size + 1 + 1; omega)]
    exact HW1.out
  have q2 : (((w2.setCell ⟨w.heap.size + 1 + 1, 2, none⟩ (.int .i64 x.net.n)).setCell ⟨w.heap.size + 1 + 1, 3, none⟩ (.slice p1a x.net.ls.length p1c)).setCell ⟨w.heap.size + 1 + 1, 4, none⟩ (.slice p2a x.net.ts.length p2c)).heap[w.heap.size + 1 + 1]? = some (.cells #[.int .i64 x.id, .int .i64 x.boot, .int .i64 x.net.n, .slice p1a x.net.ls.length p1c, .slice p2a x.net.ts.length p2c, .slice none 0 0, .slice none 0 0] 41) := by
    have k0 := heap_setCell_same _ _ 2 _ _ (.int .i64 x.net.n) HW2.out
    have k1 := heap_setCell_same _ _ 3 _ _ (.slice p1a x.net.ls.length p1c) k0
    exact heap_setCell_same _ _ 4 _ _ (.slice p2a x.net.ts.length p2c) k1
  have bw3 : Below w.heap.size w (((w2.setCell ⟨w.heap.size + 1 + 1, 2, none⟩ (.int .i64 x.net.n)).setCell ⟨w.heap.size + 1 + 1, 3, none⟩ (.slice p1a x.net.ls.length p1c)).setCell ⟨w.heap.size + 1 + 1, 4, none⟩ (.slice p2a x.net.ts.length p2c)) := ((bw2.setCell (by show w.heap.size ≤ w.heap.size + 1 + 1; omega) _).setCell (by show w.heap.size ≤ w.heap.size + 1 + 1; omega) _).setCell (by show w.heap.size ≤ w.heap.size + 1 + 1; omega) _
  have z3 : (((w2.setCell ⟨w.heap.size + 1 + 1, 2, none⟩ (.int .i64 x.net.n)).setCell ⟨w.heap.size + 1 + 1, 3, none⟩ (.slice p1a x.net.ls.length p1c)).setCell ⟨w.heap.size + 1 + 1, 4, none⟩ (.slice p2a x.net.ts.length p2c)).heap.size = w2.heap.size := by simp
  generalize (((w2.setCell ⟨w.heap.size + 1 + 1, 2, none⟩ (.int .i64 x.net.n)).setCell ⟨w.heap.size + 1 + 1, 3, none⟩ (.slice p1a x.net.ls.length p1c)).setCell ⟨w.heap.size + 1 + 1, 4, none⟩ (.slice p2a x.net.ts.length p2c)) = w3 at *
  clear s2 s3 s4 t5 f2 f3 f4 HW0 HW1 HW2 O1 O2
  refine (toIntS_any _ x.heard w3 hlH (HX.out.heard.then bw3)).mono ?_
  rintro e w4 ⟨p3, rfl, ho3, b4⟩
  obtain ⟨p3a, p3c, rfl⟩ := owns_lenS ho3
  have hl3 := lt_of_heap q2
  rw [← b4.block _ (lt_of_heap q0)] at q0
  rw [← b4.block _ (lt_of_heap q1)] at q1
  rw [← b4.block _ hl3] at q2
  have hz4 := b4.size
  have bw4 : Below w.heap.size w w4 := bw3.trans (b4.mono bw3.size)
  have O1 := hide (owns_below o1 b4 (by omega))
  have O2 := hide (owns_below o2 b4 (by omega))
  have L1 := hide (show ∀ k, (Value.slice p1a x.net.ls.length p1c).ownBlock = some k → k < w3.heap.size from fun k hk => (o1.lt k hk).2)
  have L2 := hide (show ∀ k, (Value.slice p2a x.net.ts.length p2c).ownBlock = some k → k < w3.heap.size from fun k hk => (o2.lt k hk).2)
  have O3 := hide ho3
  have HW0 := hide q0
  have HW1 := hide q1
  have HW2 := hide q2
  have s5 := cells_at q2 5
  have f5 := frozen_at q2 5
  have t6 := cells_at q0 6
  simp at s5 t6
  clear o1 o2 ho3 q0 q1 q2
  go_wp2_with fail
  have o1 := owns_set (p := w.heap.size + 1 + 1) (j := 5) (u := .slice p3a x.heard.length p3c) O1.out (by omega)
  have o2 := owns_set (p := w.heap.size + 1 + 1) (j := 5) (u := .slice p3a x.heard.length p3c) O2.out (by omega)
  have o3 := owns_set (p := w.heap.size + 1 + 1) (j := 5) (u := .slice p3a x.heard.length p3c) O3.out (by omega)
  have q1 : (w4.setCell ⟨w.heap.size + 1 + 1, 5, none⟩ (.slice p3a x.heard.length p3c)).heap[w.heap.size + 1]? = some (.cells #[.int .i64 0, .int .i64 0, .int .i64 0, .slice none 0 0, .slice none 0 0, .slice none 0 0, .slice none 0 0] 41) := by
    rw [heap_setCell_other _ ⟨w.heap.size + 1 + 1, 5, none⟩ _ _ (by show w.heap.size + 1 ≠ w.heap.size + 1 + 1; omega)]
    exact HW1.out
  have q2 : (w4.setCell ⟨w.heap.size + 1 + 1, 5, none⟩ (.slice p3a x.heard.length p3c)).heap[w.heap.size + 1 + 1]? = some (.cells #[.int .i64 x.id, .int .i64 x.boot, .int .i64 x.net.n, .slice p1a x.net.ls.length p1c, .slice p2a x.net.ts.length p2c, .slice p3a x.heard.length p3c, .slice none 0 0] 41) := heap_setCell_same _ _ 5 _ _ (.slice p3a x.heard.length p3c) HW2.out
  have bw5 : Below w.heap.size w (w4.setCell ⟨w.heap.size + 1 + 1, 5, none⟩ (.slice p3a x.heard.length p3c)) := bw4.setCell (by show w.heap.size ≤ w.heap.size + 1 + 1; omega) _
  have z5 : (w4.setCell ⟨w.heap.size + 1 + 1, 5, none⟩ (.slice p3a x.heard.length p3c)).heap.size = w4.heap.size := by simp
  generalize (w4.setCell ⟨w.heap.size + 1 + 1, 5, none⟩ (.slice p3a x.heard.length p3c)) = w5 at *
  clear s5 t6 f5 HW0 HW1 HW2 O1 O2 O3
  refine (toRecordS_any _ ps w5 (Nat.le_trans (tot_len ps) hlR) (fun _ hp => Nat.le_trans (tot_mem hp) hlR) (HX.out.store.then bw5)).mono ?_
  rintro e w6 ⟨p4, qs, rfl, fq, ho4, b6⟩
  obtain ⟨p4a, p4c, rfl⟩ := owns_lenS ho4.row
  have hl5 := lt_of_heap q2
  rw [← b6.block _ (lt_of_heap q1)] at q1
  rw [← b6.block _ hl5] at q2
  have hz6 := b6.size
  have bw6 : Below w.heap.size w w6 := bw5.trans (b6.mono bw5.size)
  have hl6 := lt_of_heap q2
  have OW := hide (show SelfOwn w6 w1.heap.size w6.heap.size (.slice p1a x.net.ls.length p1c) (.slice p2a x.net.ts.length p2c) (.slice p3a x.heard.length p3c) (.slice p4a qs.length p4c) x qs w3.heap.size w5.heap.size from
    { o1 := by omega
      o2 := by omega
      o3 := by omega
      links := owns_below o1 b6 (by omega)
      ltop := L1.out
      things := owns_below o2 b6 (by omega)
      ttop := L2.out
      heard := ⟨owns_baseS (owns_below o3 b6 (by omega)) (by omega), fun k hk => (o3.lt k hk).2⟩
      store := ho4 })
  have FQ := hide fq
  have r0 := cells_at q1 0
  have r1 := cells_at q1 1
  have r2 := cells_at q1 2
  have r3 := cells_at q1 3
  have r4 := cells_at q1 4
  have r5 := cells_at q1 5
  have r6 := cells_at q1 6
  have t0 := cells_at q2 0
  have t1 := cells_at q2 1
  have t2 := cells_at q2 2
  have t3 := cells_at q2 3
  have t4 := cells_at q2 4
  have t5 := cells_at q2 5
  have t6 := cells_at q2 6
  have fz0 := frozen_at q1 0
  have fz1 := frozen_at q1 1
  have fz2 := frozen_at q1 2
  have fz3 := frozen_at q1 3
  have fz4 := frozen_at q1 4
  have fz5 := frozen_at q1 5
  have fz6 := frozen_at q1 6
  have e6 := frozen_at q2 6
  simp at r0 r1 r2 r3 r4 r5 r6 t0 t1 t2 t3 t4 t5 t6
  have Q1 := hide q1
  have Q2 := hide q2
  clear o1 o2 o3 ho4 q1 q2 L1 L2 fq
  go_wp2
  have hfin : ((((((((w6.setCell ⟨w.heap.size + 1 + 1, 6, none⟩ (.slice p4a qs.length p4c)).setCell ⟨w.heap.size + 1, 0, none⟩ (.int .i64 x.id)).setCell ⟨w.heap.size + 1, 1, none⟩ (.int .i64 x.boot)).setCell ⟨w.heap.size + 1, 2, none⟩ (.int .i64 x.net.n)).setCell ⟨w.heap.size + 1, 3, none⟩ (.slice p1a x.net.ls.length p1c)).setCell ⟨w.heap.size + 1, 4, none⟩ (.slice p2a x.net.ts.length p2c)).setCell ⟨w.heap.size + 1, 5, none⟩ (.slice p3a x.heard.length p3c)).setCell ⟨w.heap.size + 1, 6, none⟩ (.slice p4a qs.length p4c)).heap[w.heap.size + 1]? = some (.cells #[.int .i64 x.id, .int .i64 x.boot, .int .i64 x.net.n, .slice p1a x.net.ls.length p1c, .slice p2a x.net.ts.length p2c, .slice p3a x.heard.length p3c, .slice p4a qs.length p4c] 41) := by
    have k0 : (w6.setCell ⟨w.heap.size + 1 + 1, 6, none⟩ (.slice p4a qs.length p4c)).heap[w.heap.size + 1]? = some (.cells #[.int .i64 0, .int .i64 0, .int .i64 0, .slice none 0 0, .slice none 0 0, .slice none 0 0, .slice none 0 0] 41) := by
      rw [heap_setCell_other _ ⟨w.heap.size + 1 + 1, 6, none⟩ _ _ (by show w.heap.size + 1 ≠ w.heap.size + 1 + 1; omega)]
      exact Q1.out
    have k1 := heap_setCell_same _ _ 0 _ _ (.int .i64 x.id) k0
    have k2 := heap_setCell_same _ _ 1 _ _ (.int .i64 x.boot) k1
    have k3 := heap_setCell_same _ _ 2 _ _ (.int .i64 x.net.n) k2
    have k4 := heap_setCell_same _ _ 3 _ _ (.slice p1a x.net.ls.length p1c) k3
    have k5 := heap_setCell_same _ _ 4 _ _ (.slice p2a x.net.ts.length p2c) k4
    have k6 := heap_setCell_same _ _ 5 _ _ (.slice p3a x.heard.length p3c) k5
    have k7 := heap_setCell_same _ _ 6 _ _ (.slice p4a qs.length p4c) k6
    exact k7
  have hkeep : ∀ k, w1.heap.size ≤ k → ((((((((w6.setCell ⟨w.heap.size + 1 + 1, 6, none⟩ (.slice p4a qs.length p4c)).setCell ⟨w.heap.size + 1, 0, none⟩ (.int .i64 x.id)).setCell ⟨w.heap.size + 1, 1, none⟩ (.int .i64 x.boot)).setCell ⟨w.heap.size + 1, 2, none⟩ (.int .i64 x.net.n)).setCell ⟨w.heap.size + 1, 3, none⟩ (.slice p1a x.net.ls.length p1c)).setCell ⟨w.heap.size + 1, 4, none⟩ (.slice p2a x.net.ts.length p2c)).setCell ⟨w.heap.size + 1, 5, none⟩ (.slice p3a x.heard.length p3c)).setCell ⟨w.heap.size + 1, 6, none⟩ (.slice p4a qs.length p4c)).heap[k]? = w6.heap[k]? := fun k hk => by
    rw [heap_setCell_other _ ⟨w.heap.size + 1, 6, none⟩ _ _ (by show k ≠ w.heap.size + 1; omega), heap_setCell_other _ ⟨w.heap.size + 1, 5, none⟩ _ _ (by show k ≠ w.heap.size + 1; omega), heap_setCell_other _ ⟨w.heap.size + 1, 4, none⟩ _ _ (by show k ≠ w.heap.size + 1; omega), heap_setCell_other _ ⟨w.heap.size + 1, 3, none⟩ _ _ (by show k ≠ w.heap.size + 1; omega), heap_setCell_other _ ⟨w.heap.size + 1, 2, none⟩ _ _ (by show k ≠ w.heap.size + 1; omega), heap_setCell_other _ ⟨w.heap.size + 1, 1, none⟩ _ _ (by show k ≠ w.heap.size + 1; omega), heap_setCell_other _ ⟨w.heap.size + 1, 0, none⟩ _ _ (by show k ≠ w.heap.size + 1; omega), heap_setCell_other _ ⟨w.heap.size + 1 + 1, 6, none⟩ _ _ (by show k ≠ w.heap.size + 1 + 1; omega)]
  have hsize : ((((((((w6.setCell ⟨w.heap.size + 1 + 1, 6, none⟩ (.slice p4a qs.length p4c)).setCell ⟨w.heap.size + 1, 0, none⟩ (.int .i64 x.id)).setCell ⟨w.heap.size + 1, 1, none⟩ (.int .i64 x.boot)).setCell ⟨w.heap.size + 1, 2, none⟩ (.int .i64 x.net.n)).setCell ⟨w.heap.size + 1, 3, none⟩ (.slice p1a x.net.ls.length p1c)).setCell ⟨w.heap.size + 1, 4, none⟩ (.slice p2a x.net.ts.length p2c)).setCell ⟨w.heap.size + 1, 5, none⟩ (.slice p3a x.heard.length p3c)).setCell ⟨w.heap.size + 1, 6, none⟩ (.slice p4a qs.length p4c)).heap.size = w6.heap.size := by simp
  have hbel : Below w.heap.size w ((((((((w6.setCell ⟨w.heap.size + 1 + 1, 6, none⟩ (.slice p4a qs.length p4c)).setCell ⟨w.heap.size + 1, 0, none⟩ (.int .i64 x.id)).setCell ⟨w.heap.size + 1, 1, none⟩ (.int .i64 x.boot)).setCell ⟨w.heap.size + 1, 2, none⟩ (.int .i64 x.net.n)).setCell ⟨w.heap.size + 1, 3, none⟩ (.slice p1a x.net.ls.length p1c)).setCell ⟨w.heap.size + 1, 4, none⟩ (.slice p2a x.net.ts.length p2c)).setCell ⟨w.heap.size + 1, 5, none⟩ (.slice p3a x.heard.length p3c)).setCell ⟨w.heap.size + 1, 6, none⟩ (.slice p4a qs.length p4c)) := ((((((((bw6.setCell (by show w.heap.size ≤ w.heap.size + 1 + 1; omega) _).setCell (by show w.heap.size ≤ w.heap.size + 1; omega) _).setCell (by show w.heap.size ≤ w.heap.size + 1; omega) _).setCell (by show w.heap.size ≤ w.heap.size + 1; omega) _).setCell (by show w.heap.size ≤ w.heap.size + 1; omega) _).setCell (by show w.heap.size ≤ w.heap.size + 1; omega) _).setCell (by show w.heap.size ≤ w.heap.size + 1; omega) _).setCell (by show w.heap.size ≤ w.heap.size + 1; omega) _)
  try simp only [Exit.inBlock, Exit.then]
  refine bodyPost_ret (results_cell_row rfl _ _ (w.heap.size + 1) 41 #[.int .i64 x.id, .int .i64 x.boot, .int .i64 x.net.n, .slice p1a x.net.ls.length p1c, .slice p2a x.net.ts.length p2c, .slice p3a x.heard.length p3c, .slice p4a qs.length p4c] (0, 0) _ rfl hfin Tryz.underlying41 rfl (by kernel_rfl)) rfl ?_
  exact ⟨_, _, _, _, qs, _, _, rfl, FQ.out, ((OW.out.keep (fun k h1 _ _ => hkeep k h1)).low (by omega)).high (by rw [hsize]; omega), hbel⟩

set_option maxRecDepth 100000 in
set_option maxHeartbeats 2000000 in
theorem eqSelf_any (v1 v2 v3 v4 u1 u2 u3 u4 : Value) (x : SelfD) (ps qs : List RP) (w : World) (ht : totS x ps ≤ 1048576) (h1 : SelfIn w v1 v2 v3 v4 x ps w.heap.size) (h2 : SelfIn w u1 u2 u3 u4 x qs w.heap.size) (he : fsts ps = fsts qs) :
    Calls Tryz.prog 27 #[selfV x v1 v2 v3 v4, selfV x u1 u2 u3 u4] w fun e w' => e = .returned (.bool true) ∧ Below w.heap.size w w' := by
  obtain ⟨⟨a1, c1, rfl⟩, ⟨a2, c2, rfl⟩, ⟨a3, c3, rfl⟩, ⟨a4, c4, rfl⟩⟩ := h1.shapes
  obtain ⟨⟨b1, d1, rfl⟩, ⟨b2, d2, rfl⟩, ⟨b3, d3, rfl⟩, ⟨b4, d4, rfl⟩⟩ := h2.shapes
  have hlL : x.net.ls.length ≤ 1048576 := by unfold totS at ht; omega
  have hlT : x.net.ts.length ≤ 1048576 := by unfold totS at ht; omega
  have hlH : x.heard.length ≤ 1048576 := by unfold totS at ht; omega
  have hlR : tot ps ≤ 1048576 := by unfold totS at ht; omega
  have H1 := hide h1
  have H2 := hide h2
  have HE := hide he
  clear h1 h2 he ht
  go_enter Tryz.func27, Tryz.ntmps27
  go_wp2_with fail
  obtain ⟨w1, hw1⟩ : ∃ w1, w1 = (w.alloc (.cells #[.int .i64 x.id, .int .i64 x.boot, .int .i64 x.net.n, .slice a1 x.net.ls.length c1, .slice a2 x.net.ts.length c2, .slice a3 x.heard.length c3, .slice a4 ps.length c4] 41)).alloc (.cells #[.int .i64 x.id, .int .i64 x.boot, .int .i64 x.net.n, .slice b1 x.net.ls.length d1, .slice b2 x.net.ts.length d2, .slice b3 x.heard.length d3, .slice b4 qs.length d4] 41) := ⟨_, rfl⟩
  have B1 : Below w.heap.size w w1 := by rw [hw1]; exact below_two _ _
  have p0 : w1.heap[w.heap.size]? = some (.cells #[.int .i64 x.id, .int .i64 x.boot, .int .i64 x.net.n, .slice a1 x.net.ls.length c1, .slice a2 x.net.ts.length c2, .slice a3 x.heard.length c3, .slice a4 ps.length c4] 41) := by rw [hw1, Below.heap_alloc _ _ _ (by simp), heap_alloc_new]
  have q0 : w1.heap[w.heap.size + 1]? = some (.cells #[.int .i64 x.id, .int .i64 x.boot, .int .i64 x.net.n, .slice b1 x.net.ls.length d1, .slice b2 x.net.ts.length d2, .slice b3 x.heard.length d3, .slice b4 qs.length d4] 41) := by
    rw [hw1]
    have := heap_alloc_new (w.alloc (.cells #[.int .i64 x.id, .int .i64 x.boot, .int .i64 x.net.n, .slice a1 x.net.ls.length c1, .slice a2 x.net.ts.length c2, .slice a3 x.heard.length c3, .slice a4 ps.length c4] 41)) (.cells #[.int .i64 x.id, .int .i64 x.boot, .int .i64 x.net.n, .slice b1 x.net.ls.length d1, .slice b2 x.net.ts.length d2, .slice b3 x.heard.length d3, .slice b4 qs.length d4] 41)
    simpa using this
  rw [← hw1]
  clear hw1
  have HEN := eqNet_any _ _ x.net x.net w1 (H1.out.then B1).net (H2.out.then B1).net hlL hlT
  rw [decide_eq_true rfl] at HEN
  refine HEN.mono ?_
  rintro e w2 ⟨rfl, b2⟩
  have p1 := (b2.block _ (lt_of_heap p0)).trans p0
  have q1 := (b2.block _ (lt_of_heap q0)).trans q0
  have B2 : Below w.heap.size w w2 := B1.trans (b2.mono B1.size)
  have s5 := cells_at p1 5
  have t5 := cells_at q1 5
  simp at s5 t5
  have P1 := hide p1
  have Q1 := hide q1
  have HEI := eqI_any _ _ x.heard x.heard w2 (HopsAt.ints (H1.out.then B2).heard) (HopsAt.ints (H2.out.then B2).heard) hlH
  rw [decide_eq_true rfl] at HEI
  have HI := hide HEI
  clear p0 q0 p1 q1 HEN HEI b2
  go_wp2_with fail
  refine HI.out.mono ?_
  rintro e w3 ⟨rfl, b3⟩
  have p1 := (b3.block _ (lt_of_heap P1.out)).trans P1.out
  have q1 := (b3.block _ (lt_of_heap Q1.out)).trans Q1.out
  have B3 : Below w.heap.size w w3 := B2.trans (b3.mono B2.size)
  have HER := eqRecordS_any _ _ ps qs w3 (H1.out.then B3).store (H2.out.then B3).store (Nat.le_trans (tot_len ps) hlR) (fun _ hp => Nat.le_trans (tot_mem hp) hlR)
  rw [decide_eq_true HE.out] at HER
  have HR := hide HER
  clear s5 t5
  have s6 := cells_at p1 6
  have t6 := cells_at q1 6
  simp at s6 t6
  clear p1 q1 HER b3
  go_wp2_with fail
  refine HR.out.mono ?_
  rintro e w4 ⟨rfl, b4⟩
  have B4 : Below w.heap.size w w4 := B3.trans (b4.mono B3.size)
  go_wp2
  go_ret
  exact ⟨rfl, B4⟩
end Go.Proofs.YtimbeeinognjbaaGreatDoor
namespace Go.Proofs.YtimbeeinognjbaaGreatDoor
open Go.RowKit

set_option linter.unusedSimpArgs false

set_option maxRecDepth 100000 in
set_option maxHeartbeats 1000000 in
theorem toEar_any (l : Th) (w : World) : Calls Tryz.prog 49 #[thV l] w fun e w' => e = .returned (thV l) ∧ Below w.heap.size w w' := by
  obtain ⟨a, b, c, r⟩ := l
  unfold thV
  go_enter Tryz.func49, Tryz.ntmps49
  go_wp2
  go_returns
  exact ⟨rfl, below_three _ _ _⟩

set_option maxRecDepth 100000 in
set_option maxHeartbeats 1000000 in
theorem eqEar_any (l m : Th) (w : World) : Calls Tryz.prog 60 #[thV l, thV m] w fun e w' => e = .returned (.bool (decide (l = m))) ∧ Below w.heap.size w w' := by
  obtain ⟨a, b, c, r⟩ := l
  obtain ⟨a', b', c', r'⟩ := m
  unfold thV
  go_enter Tryz.func60, Tryz.ntmps60
  go_wp2
  all_goals go_returns
  all_goals refine ⟨?_, below_two _ _⟩
  all_goals first
    | exact ret_bool_no (fun h => by cases h; simp_all)
    | exact ret_bool_yes (by simp_all)

set_option maxRecDepth 100000 in
set_option maxHeartbeats 1000000 in
theorem szEarS_any (a : Option Addr) (n c : Nat) (q : Int) (w : World) (hn : (n : Int) ≤ 9223372036854775807) (hq0 : 0 ≤ q) (hq : q ≤ 1048576) :
    Calls Tryz.prog 17 #[.slice a n c, .int .i64 q] w fun e w' => e = .returned (.int .i64 (if q - (n : Int) < 0 then -1 else q - (n : Int))) ∧ w = w' := by
  by_cases h : q - (n : Int) < 0
  · rw [if_pos h]
    go_enter Tryz.func17, Tryz.ntmps17
    go_wp2
    go_ret
    exact ⟨rfl, rfl⟩
  · rw [if_neg h]
    go_enter Tryz.func17, Tryz.ntmps17
    go_wp2
    go_ret
    exact ⟨rfl, rfl⟩

theorem Tryz.infoEar : (Tryz.prog.info? 58).map (fun i => (i.zero, i.size, i.bytes)) = some (some (thV th0), 4, 32) := by kernel_rfl

set_option maxRecDepth 100000 in
set_option maxHeartbeats 1000000 in
theorem toEarS_any (v : Value) (ls : List Th) (w : World) (hls : ls.length ≤ 1048576) (hv : ThingsAt w v ls w.heap.size) :
    Calls Tryz.prog 24 #[v] w fun e w' => ∃ x, e = .returned x ∧ w'.ownsRow w.heap.size 58 4 x ls.length (flat thE ls) ∧ Below w.heap.size w w' := by
  obtain ⟨a, cap, rfl⟩ := hv.shape
  have HV := hide hv
  clear hv
  obtain ⟨i0, hi, hz0, hz1, hz2⟩ := info_parts Tryz.infoEar
  have HI := hide hi
  have HZ := hide hz0
  clear hi hz0
  go_enter Tryz.func24, Tryz.ntmps24
  go_wp2_with (first
    | (refine wpList_make_structs thE_len (by omega) _ rfl _ _ 42 rfl w.heap.size 58 i0 (thV th0) th0 rfl Tryz.underlying42 HI.out HZ.out hz1 ls.length rfl rfl (by rw [hz2]; omega) (by unfold maxLen; omega) (Nat.le_refl _) ?_))
  intro w1 hown hg
  have b1 : Below w.heap.size w w1 := (Below.refl _ _).grown hg (Nat.le_refl _) (fun k hk => by simp at hk)
  have hg1 : w.heap.size < w1.heap.size := by
    rcases hown.2 with ⟨h0, _⟩ | ⟨g, cp, cur, hv, _, hh, _⟩
    · cases h0
    · cases hv; exact lt_of_heap hh
  have OW := hide hown
  clear hown hg
  go_wp2
  go_loopw [4] (fun i wr => ∃ k : Nat, k ≤ ls.length ∧ i = .int .i64 k ∧ wr.ownsRow w.heap.size 58 4 (.slice (some ⟨w.heap.size, 0, none⟩) ls.length ls.length) ls.length (flat thE (part ls th0 k)) ∧ Below w.heap.size w wr) (fun i _ => ls.length - (intOf i).toNat)
  case atStart => exact ⟨0, by omega, rfl, (by simpa [part] using OW.out), b1⟩
  case round =>
    obtain ⟨k, hk, rfl, hown, hnx⟩ := hrel
    by_cases hlt : k < ls.length
    · obtain ⟨l, hl⟩ : ∃ l, ls[k]? = some l := ⟨ls[k], List.getElem?_eq_getElem hlt⟩
      obtain ⟨b, off, cap', hve, hbb, c0, c1, c2, c3⟩ := HV.out.cells k l hl
      cases hve
      rw [← hnx.cell (p := ⟨b, off + k * 4, none⟩) hbb] at c0
      rw [← hnx.cell (p := ⟨b, off + k * 4 + 1, none⟩) hbb] at c1
      rw [← hnx.cell (p := ⟨b, off + k * 4 + 2, none⟩) hbb] at c2
      rw [← hnx.cell (p := ⟨b, off + k * 4 + 3, none⟩) hbb] at c3
      have HL := hide hl
      have OW2 := hide hown
      clear hl hown
      have hki : (0 : Int) ≤ (k : Int) := by omega
      have hkj : (k : Int) < (ls.length : Int) := by omega
      have hto := toEar_any l
      unfold thV at hto
      have HTO := hide hto
      clear hto
      go_wp2_with fail
      refine (HTO.out _).mono ?_
      rintro e w2 ⟨rfl, b2⟩
      have hown2 := owns_below OW2.out b2 (Nat.le_refl _)
      have hex : ∀ r, r < 4 → ∃ u, w2.cell? ⟨w.heap.size, k * 4 + r, none⟩ = some u := fun r hr => by
        have hj : k * 4 + r < ls.length * 4 := by omega
        rw [hown2.cellAt _ hj]
        have hln : k * 4 + r < (flat thE (part ls th0 k)).length := by rw [hown2.1]; exact hj
        exact ⟨_, List.getElem?_eq_getElem hln⟩
      obtain ⟨u0, d0⟩ := hex 0 (by omega)
      obtain ⟨u1, d1⟩ := hex 1 (by omega)
      obtain ⟨u2, d2⟩ := hex 2 (by omega)
      obtain ⟨u3, d3⟩ := hex 3 (by omega)
      rw [Nat.add_zero] at d0
      have f0 := hown2.frozenAt (k * 4)
      have f1 := hown2.frozenAt (k * 4 + 1)
      have f2 := hown2.frozenAt (k * 4 + 2)
      have f3 := hown2.frozenAt (k * 4 + 3)
      have OW3 := hide hown2
      clear hown2 hex
      go_wp2
      refine ⟨⟨k + 1, by omega, by go_num, ?_, ((((hnx.trans (b2.mono hnx.size)).setCell (Nat.le_refl _) _).setCell (Nat.le_refl _) _).setCell (Nat.le_refl _) _).setCell (Nat.le_refl _) _⟩, by simp [intOf]; omega⟩
      have h4 := ((((OW3.out.stored (k * 4) (.int .i64 l.o)).1.stored (k * 4 + 1) (.int .i64 l.k)).1.stored (k * 4 + 2) (.int .i64 l.c)).1.stored (k * 4 + 3) (.bool l.f)).1
      have e4 : ((((flat thE (part ls th0 k)).set (k * 4) (.int .i64 l.o)).set (k * 4 + 1) (.int .i64 l.k)).set (k * 4 + 2) (.int .i64 l.c)).set (k * 4 + 3) (.bool l.f) = flat thE (part ls th0 (k + 1)) := by
        rw [← part_step ls th0 l k HL.out, ← flat_set thE_len _ _ _ (by rw [part_len _ _ _ hk]; exact hlt)]
        rfl
      rw [e4] at h4
      exact h4
    · have hkn : k = ls.length := by omega
      have KN := hide hkn
      have OW2 := hide hown
      clear hkn hown
      go_wp2
      go_ret
      refine ⟨_, rfl, ?_, hnx⟩
      have h := OW2.out
      rw [KN.out, part_all] at h
      exact h

set_option maxRecDepth 100000 in
set_option maxHeartbeats 1000000 in
theorem eqEarS_any (v1 v2 : Value) (xs ys : List Th) (w : World) (h1 : ThingsAt w v1 xs w.heap.size) (h2 : ThingsAt w v2 ys w.heap.size) (hn : xs.length ≤ 1048576) :
    Calls Tryz.prog 28 #[v1, v2] w fun e w' => e = .returned (.bool (decide (xs = ys))) ∧ Below w.heap.size w w' := by
  obtain ⟨a1, c1, rfl⟩ := h1.shape
  obtain ⟨a2, c2, rfl⟩ := h2.shape
  by_cases hl : xs.length = ys.length
  · have K1 := hide h1
    have K2 := hide h2
    have HLN := hide hl
    rw [← hl]
    clear h1 h2 hl
    go_enter Tryz.func28, Tryz.ntmps28
    go_wp2
    go_loopw [5] (fun i wr => ∃ k : Nat, k ≤ xs.length ∧ i = .int .i64 k ∧ (∀ j, j < k → xs[j]? = ys[j]?) ∧ Below w.heap.size w wr) (fun i _ => xs.length - (intOf i).toNat)
    case atStart => exact ⟨0, by omega, rfl, by omega, Below.refl _ _⟩
    case round =>
      obtain ⟨k, hk, rfl, hall, hnx⟩ := hrel
      have HALL := hide hall
      clear hall
      by_cases hlt : k < xs.length
      · obtain ⟨x, hx⟩ : ∃ l, xs[k]? = some l := ⟨xs[k], List.getElem?_eq_getElem hlt⟩
        obtain ⟨y, hy⟩ : ∃ l, ys[k]? = some l := ⟨ys[k], List.getElem?_eq_getElem (by have := HLN.out; omega)⟩
        obtain ⟨b1, o1, cp1, hv1, hb1, c0, c1', c2', c3⟩ := K1.out.cells k x hx
        obtain ⟨b2, o2, cp2, hv2, hb2, d0, d1, d2, d3⟩ := K2.out.cells k y hy
        cases hv1
        cases hv2
        rw [← hnx.cell (p := ⟨b1, o1 + k * 4, none⟩) hb1] at c0
        rw [← hnx.cell (p := ⟨b1, o1 + k * 4 + 1, none⟩) hb1] at c1'
        rw [← hnx.cell (p := ⟨b1, o1 + k * 4 + 2, none⟩) hb1] at c2'
        rw [← hnx.cell (p := ⟨b1, o1 + k * 4 + 3, none⟩) hb1] at c3
        rw [← hnx.cell (p := ⟨b2, o2 + k * 4, none⟩) hb2] at d0
        rw [← hnx.cell (p := ⟨b2, o2 + k * 4 + 1, none⟩) hb2] at d1
        rw [← hnx.cell (p := ⟨b2, o2 + k * 4 + 2, none⟩) hb2] at d2
        rw [← hnx.cell (p := ⟨b2, o2 + k * 4 + 3, none⟩) hb2] at d3
        have hzr := hnx.size
        have hb1' : b1 < wr.heap.size := by omega
        have hb2' : b2 < wr.heap.size := by omega
        have hki : (0 : Int) ≤ (k : Int) := by omega
        have hkj : (k : Int) < (xs.length : Int) := by omega
        have hq := eqEar_any x y
        unfold thV at hq
        obtain ⟨q, hqq⟩ : ∃ q, q = decide (x = y) := ⟨_, rfl⟩
        rw [← hqq] at hq
        have HQ := hide hq
        have HQQ := hide hqq
        have HX := hide hx
        have HY := hide hy
        clear hq hqq hx hy
        cases q
        · go_wp2
          go_region_held3 (fun W => W.cell? ⟨b1, o1 + k * 4, none⟩ = some (.int .i64 x.o) ∧ W.cell? ⟨b1, o1 + k * 4 + 1, none⟩ = some (.int .i64 x.k) ∧ W.cell? ⟨b1, o1 + k * 4 + 2, none⟩ = some (.int .i64 x.c) ∧ W.cell? ⟨b1, o1 + k * 4 + 3, none⟩ = some (.bool x.f) ∧ W.cell? ⟨b2, o2 + k * 4, none⟩ = some (.int .i64 y.o) ∧ W.cell? ⟨b2, o2 + k * 4 + 1, none⟩ = some (.int .i64 y.k) ∧ W.cell? ⟨b2, o2 + k * 4 + 2, none⟩ = some (.int .i64 y.c) ∧ W.cell? ⟨b2, o2 + k * 4 + 3, none⟩ = some (.bool y.f)) (first | go_keep | (refine ⟨?_, ?_, ?_, ?_, ?_, ?_, ?_, ?_⟩ <;> (rw [hbc.cell (by assumption)]; assumption))) (first | (go_at_call 60; refine (HQ.out _).mono ?_; rintro e w1 ⟨rfl, hbc⟩))
          go_wp2
          go_ret
          exact ⟨ret_bool_no (ne_at HX.out HY.out (of_decide_eq_false HQQ.out.symm)), hnx.trans ((Below.refl _ _).drew.trans (hbc.mono hzr))⟩
        · go_wp2
          go_region_held3 (fun W => W.cell? ⟨b1, o1 + k * 4, none⟩ = some (.int .i64 x.o) ∧ W.cell? ⟨b1, o1 + k * 4 + 1, none⟩ = some (.int .i64 x.k) ∧ W.cell? ⟨b1, o1 + k * 4 + 2, none⟩ = some (.int .i64 x.c) ∧ W.cell? ⟨b1, o1 + k * 4 + 3, none⟩ = some (.bool x.f) ∧ W.cell? ⟨b2, o2 + k * 4, none⟩ = some (.int .i64 y.o) ∧ W.cell? ⟨b2, o2 + k * 4 + 1, none⟩ = some (.int .i64 y.k) ∧ W.cell? ⟨b2, o2 + k * 4 + 2, none⟩ = some (.int .i64 y.c) ∧ W.cell? ⟨b2, o2 + k * 4 + 3, none⟩ = some (.bool y.f)) (first | go_keep | (refine ⟨?_, ?_, ?_, ?_, ?_, ?_, ?_, ?_⟩ <;> (rw [hbc.cell (by assumption)]; assumption))) (first | (go_at_call 60; refine (HQ.out _).mono ?_; rintro e w1 ⟨rfl, hbc⟩))
          go_wp2
          go_roundw
          case rel => exact ⟨k + 1, by omega, by go_num, (fun j hj => by
            by_cases e : j = k
            · subst e; rw [HX.out, HY.out, of_decide_eq_true HQQ.out.symm]
            · exact HALL.out j (by omega)), hnx.trans ((Below.refl _ _).drew.trans (hbc.mono hzr))⟩
          case measure => simp [intOf]; omega
      · have hkn : k = xs.length := by omega
        have KN := hide hkn
        clear hkn
        go_wp2
        go_ret
        exact ⟨ret_bool_yes (eq_all HLN.out (by rw [← KN.out]; exact HALL.out)), hnx⟩
  · clear h1 h2
    have hd : ((xs.length : Int) != (ys.length : Int)) = true := by simp; omega
    go_enter Tryz.func28, Tryz.ntmps28
    go_wp2
    go_ret
    exact ⟨ret_bool_no (fun h => hl (by rw [h])), Below.refl _ _⟩

end Go.Proofs.YtimbeeinognjbaaGreatDoor
