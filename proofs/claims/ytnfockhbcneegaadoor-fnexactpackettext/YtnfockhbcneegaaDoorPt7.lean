/-
  impl.PacketOk: its contract.
  spec.l01Var: its contract.
  The text of a record: the plain mathematics; spec.l04Byte.
  spec.RecordText: its contract.
  impl.VarText: its contract.
  impl.appendVar, farByte, RecordText: their contracts.
  impl.RecordText: its contract.
  The plain mathematics of sums: eight halvings for a byte, the short table, one byte turned makes another sum.
  spec.SumMore, spec.SumOf: their contracts.
-/
import Derived.Test.YtnfockhbcneegaaDoorPt6
import Derived.Test.YtnfockhbcneegaaDoorPt1
import Derived.Test.YtnfockhbcneegaaDoorPt5
import Derived.Deep.RegionHeld3
import Derived.Lib.AppendStr
namespace Go.Proofs.YtnfockhbcneegaaDoor
open Go.RowKit

set_option linter.unusedSimpArgs false

theorem said_one {x : PkD} {xs : List RecD} (h : x.kind = 1) : saidB x xs = (nodesB x.heard && (xs.length == 0)) := by unfold saidB; rw [if_pos h]

theorem said_two {x : PkD} {xs : List RecD} (h : x.kind = 2) : saidB x xs = ((x.heard.length == 0) && (toldB x.area xs && headsB xs)) := by unfold saidB; rw [if_neg (by omega), if_pos h]

theorem said_three {x : PkD} {xs : List RecD} (h : x.kind = 3) : saidB x xs = ((x.heard.length == 0) && toldB x.area xs) := by unfold saidB; rw [if_neg (by omega), if_neg (by omega), if_pos h]

theorem said_none {x : PkD} {xs : List RecD} (h1 : ¬ x.kind = 1) (h2 : ¬ x.kind = 2) (h3 : ¬ x.kind = 3) : saidB x xs = false := by unfold saidB; rw [if_neg h1, if_neg h2, if_neg h3]

theorem len_zero (n : Nat) : ((n : Int) == 0) = (n == 0) := by cases n <;> simp <;> omega

set_option maxRecDepth 100000 in
set_option maxHeartbeats 4000000 in
theorem saidOk_any (v1 v2 : Value) (x : PkD) (ps : List RP) (w : World) (ht : totP x ps ≤ 1048576) (hv : PkIn w v1 v2 x ps w.heap.size) :
    Calls Tryd.prog 54 #[pkV x v1 v2] w fun e w' => e = .returned (.bool (saidB x (fsts ps))) ∧ Below w.heap.size w w' := by
  obtain ⟨⟨a1, c1, rfl⟩, ⟨a2, c2, rfl⟩⟩ := hv.shapes
  have hlH : x.heard.length ≤ 1048576 := by unfold totP at ht; omega
  have hlR : tot ps ≤ 1048576 := by unfold totP at ht; omega
  have hfl : (fsts ps).length = ps.length := by simp [fsts]
  have HX := hide hv
  clear hv ht
  have BA : Below w.heap.size w (w.alloc (.cells #[.int .i64 x.kind, .int .i64 x.src, .int .i64 x.dst, .int .i64 x.area, .slice a1 x.heard.length c1, .slice a2 ps.length c2] 31)) := (Below.refl _ _).alloc (Nat.le_refl _) _
  have g0 := heap_alloc_new w (.cells #[.int .i64 x.kind, .int .i64 x.src, .int .i64 x.dst, .int .i64 x.area, .slice a1 x.heard.length c1, .slice a2 ps.length c2] 31)
  have HNO := hide (nodesOk_any _ x.heard (w.alloc (.cells #[.int .i64 x.kind, .int .i64 x.src, .int .i64 x.dst, .int .i64 x.area, .slice a1 x.heard.length c1, .slice a2 ps.length c2] 31)) hlH (HX.out.then BA).heard)
  have HTO := hide (toldIn_any x.area _ ps (w.alloc (.cells #[.int .i64 x.kind, .int .i64 x.src, .int .i64 x.dst, .int .i64 x.area, .slice a1 x.heard.length c1, .slice a2 ps.length c2] 31)) hlR (HX.out.then BA).list)
  have HAH := hide (fun W (hb : Below w.heap.size w W) => allHeaders_any _ ps W hlR (HX.out.then hb).list)
  obtain ⟨r1, h1⟩ : ∃ r, r = nodesB x.heard := ⟨_, rfl⟩
  obtain ⟨r2, h2⟩ : ∃ r, r = toldB x.area (fsts ps) := ⟨_, rfl⟩
  obtain ⟨r3, h3⟩ : ∃ r, r = headsB (fsts ps) := ⟨_, rfl⟩
  have S1 := hide (fun h => (said_one (x := x) (xs := fsts ps) h))
  have S2 := hide (fun h => (said_two (x := x) (xs := fsts ps) h))
  have S3 := hide (fun h => (said_three (x := x) (xs := fsts ps) h))
  rw [← h1] at HNO S1
  rw [← h2] at HTO S2 S3
  rw [← h3] at HAH S2
  rw [hfl] at S1
  clear h1 h2 h3 hfl
  have G0 := hide g0
  clear g0
  obtain ⟨w0, hw0⟩ : ∃ W, W = w.alloc (.cells #[.int .i64 x.kind, .int .i64 x.src, .int .i64 x.dst, .int .i64 x.area, .slice a1 x.heard.length c1, .slice a2 ps.length c2] 31) := ⟨_, rfl⟩
  rw [← hw0] at BA G0 HNO HTO
  have s3 := cells_at G0.out 3
  have s4 := cells_at G0.out 4
  have s5 := cells_at G0.out 5
  simp at s3 s4 s5
  have L1 := len_zero ps.length
  have L2 := len_zero x.heard.length
  by_cases k1 : x.kind = 1
  · rw [S1.out k1]
    have kb : (x.kind == 1) = true := by simpa using k1
    clear k1 S1 S2 S3
    go_enter Tryd.func54, Tryd.ntmps54
    go_wp2_with fail
    rw [← hw0]
    refine HNO.out.mono ?_
    rintro e w1 ⟨rfl, b1⟩
    have B1 : Below w.heap.size w w1 := BA.trans (b1.mono BA.size)
    have g1 := (b1.block _ (lt_of_heap G0.out)).trans G0.out
    have t5 := cells_at g1 5
    simp at t5
    clear g1
    cases r1
    · go_wp2
      go_ret
      exact ⟨rfl, B1⟩
    · go_wp2
      go_ret
      exact ⟨by simp [L1], B1⟩
  have kb1 : (x.kind == 1) = false := by simpa using k1
  by_cases k2 : x.kind = 2
  · rw [S2.out k2]
    have kb : (x.kind == 2) = true := by simpa using k2
    clear k1 k2 S1 S2 S3
    by_cases hl : x.heard.length = 0
    · have hlb : (x.heard.length == 0) = true := by simpa using hl
      rw [hlb] at L2 ⊢
      clear hl
      go_enter Tryd.func54, Tryd.ntmps54
      go_wp2_with fail
      rw [← hw0]
      refine HTO.out.mono ?_
      rintro e w1 ⟨rfl, b1⟩
      have B1 : Below w.heap.size w w1 := BA.trans (b1.mono BA.size)
      have g1 := (b1.block _ (lt_of_heap G0.out)).trans G0.out
      have t5 := cells_at g1 5
      simp at t5
      clear g1
      cases r2
      · go_wp2
        go_ret
        exact ⟨rfl, B1⟩
      · go_wp2_with fail
        refine (HAH.out _ B1).mono ?_
        rintro e w2 ⟨rfl, b2⟩
        have B2 : Below w.heap.size w w2 := B1.trans (b2.mono B1.size)
        clear t5 s3 s4 s5
        go_wp2
        go_ret
        exact ⟨by simp, B2⟩
    · have hlb : (x.heard.length == 0) = false := by simpa using hl
      rw [hlb] at L2 ⊢
      clear hl
      go_enter Tryd.func54, Tryd.ntmps54
      go_wp2_with fail
      go_ret
      rw [← hw0]
      exact ⟨rfl, BA⟩
  have kb2 : (x.kind == 2) = false := by simpa using k2
  by_cases k3 : x.kind = 3
  · rw [S3.out k3]
    have kb : (x.kind == 3) = true := by simpa using k3
    clear k1 k2 k3 S1 S2 S3
    by_cases hl : x.heard.length = 0
    · have hlb : (x.heard.length == 0) = true := by simpa using hl
      rw [hlb] at L2 ⊢
      clear hl
      go_enter Tryd.func54, Tryd.ntmps54
      go_wp2_with fail
      rw [← hw0]
      refine HTO.out.mono ?_
      rintro e w1 ⟨rfl, b1⟩
      have B1 : Below w.heap.size w w1 := BA.trans (b1.mono BA.size)
      clear s3 s4 s5
      go_wp2
      go_ret
      exact ⟨by simp, B1⟩
    · have hlb : (x.heard.length == 0) = false := by simpa using hl
      rw [hlb] at L2 ⊢
      clear hl
      go_enter Tryd.func54, Tryd.ntmps54
      go_wp2_with fail
      go_ret
      rw [← hw0]
      exact ⟨rfl, BA⟩
  · rw [said_none k1 k2 k3]
    have kb3 : (x.kind == 3) = false := by simpa using k3
    clear k1 k2 k3 S1 S2 S3
    go_enter Tryd.func54, Tryd.ntmps54
    go_wp2_with fail
    go_ret
    rw [← hw0]
    exact ⟨rfl, BA⟩

set_option maxRecDepth 100000 in
set_option maxHeartbeats 4000000 in
theorem ipacketOk_any (v1 v2 : Value) (x : PkD) (ps : List RP) (w : World) (ht : totP x ps ≤ 1048576) (hv : PkIn w v1 v2 x ps w.heap.size) :
    Calls Tryd.prog 24 #[pkV x v1 v2] w fun e w' => e = .returned (.bool (pkB x (fsts ps))) ∧ Below w.heap.size w w' := by
  obtain ⟨⟨a1, c1, rfl⟩, ⟨a2, c2, rfl⟩⟩ := hv.shapes
  have HX := hide hv
  clear hv
  have BA : Below w.heap.size w (w.alloc (.cells #[.int .i64 x.kind, .int .i64 x.src, .int .i64 x.dst, .int .i64 x.area, .slice a1 x.heard.length c1, .slice a2 ps.length c2] 31)) := (Below.refl _ _).alloc (Nat.le_refl _) _
  have g0 := heap_alloc_new w (.cells #[.int .i64 x.kind, .int .i64 x.src, .int .i64 x.dst, .int .i64 x.area, .slice a1 x.heard.length c1, .slice a2 ps.length c2] 31)
  have HSA := hide (saidOk_any _ _ x ps (w.alloc (.cells #[.int .i64 x.kind, .int .i64 x.src, .int .i64 x.dst, .int .i64 x.area, .slice a1 x.heard.length c1, .slice a2 ps.length c2] 31)) ht (HX.out.then BA))
  have I1 := hide (isIn_any x.src 1 6)
  have I2 := hide (isIn_any x.dst 1 6)
  have I3 := hide (isIn_any x.area 0 2)
  unfold pkB
  obtain ⟨r1, h1⟩ : ∃ r, r = inB x.src 1 6 := ⟨_, rfl⟩
  obtain ⟨r2, h2⟩ : ∃ r, r = inB x.dst 1 6 := ⟨_, rfl⟩
  obtain ⟨r3, h3⟩ : ∃ r, r = inB x.area 0 2 := ⟨_, rfl⟩
  obtain ⟨r4, h4⟩ : ∃ r, r = saidB x (fsts ps) := ⟨_, rfl⟩
  rw [← h1] at I1 ⊢
  rw [← h2] at I2 ⊢
  rw [← h3] at I3 ⊢
  rw [← h4] at HSA ⊢
  clear h1 h2 h3 h4
  have G0 := hide g0
  clear g0
  obtain ⟨w0, hw0⟩ : ∃ W, W = w.alloc (.cells #[.int .i64 x.kind, .int .i64 x.src, .int .i64 x.dst, .int .i64 x.area, .slice a1 x.heard.length c1, .slice a2 ps.length c2] 31) := ⟨_, rfl⟩
  rw [← hw0] at BA G0 HSA
  have s0 := cells_at G0.out 0
  have s1 := cells_at G0.out 1
  have s2 := cells_at G0.out 2
  have s3 := cells_at G0.out 3
  have s4 := cells_at G0.out 4
  have s5 := cells_at G0.out 5
  simp at s0 s1 s2 s3 s4 s5
  obtain ⟨r5, h5⟩ : ∃ r, r = (x.src == x.dst) := ⟨_, rfl⟩
  rw [← h5]
  have hb0 : (x.src != x.dst) = !r5 := by rw [h5]; rfl
  clear h5
  go_enter Tryd.func24, Tryd.ntmps24
  go_wp2_with fail
  rw [← hw0]
  clear hw0
  refine (I1.out _).mono ?_
  rintro e w1 ⟨rfl, rfl⟩
  cases r1
  · go_wp2
    go_ret
    exact ⟨rfl, BA⟩
  go_wp2_with fail
  refine (I2.out _).mono ?_
  rintro e w1 ⟨rfl, rfl⟩
  cases r2
  · go_wp2
    go_ret
    exact ⟨rfl, BA⟩
  cases r5
  case true =>
    have hb2 : (x.src != x.dst) = false := hb0
    clear hb0
    go_wp2_with fail
    go_ret
    exact ⟨rfl, BA⟩
  have hb2 : (x.src != x.dst) = true := hb0
  clear hb0
  go_wp2_with fail
  refine (I3.out _).mono ?_
  rintro e w1 ⟨rfl, rfl⟩
  cases r3
  · go_wp2
    go_ret
    exact ⟨rfl, BA⟩
  go_wp2_with fail
  refine HSA.out.mono ?_
  rintro e w2 ⟨rfl, b2⟩
  have B2 : Below w.heap.size w w2 := BA.trans (b2.mono BA.size)
  go_wp2
  go_ret
  exact ⟨by simp, B2⟩
end Go.Proofs.YtnfockhbcneegaaDoor
namespace Go.Proofs.YtnfockhbcneegaaDoor
open Go.RowKit

set_option maxHeartbeats 400000 in
theorem var_any (n : Int) (w : World) (h0 : 0 ≤ n) (h1 : n ≤ 1000000000) :
    Calls Tryd.prog 18 #[.int .i64 n] w fun e w' => e = .returned (.string (bs (varL n.toNat))) ∧ Below w.heap.size w w' := by
  go_enter Tryd.func18, Tryd.ntmps18
  go_wp2
  go_loopw [3, 0] (fun v i wr => ∃ (m : Nat) (pre : List UInt8), pre.length + m ≤ 1000000000 ∧ i = .int .i64 m ∧ Hid (varL n.toNat = pre ++ varL m) ∧ wr.ownsRow w.heap.size 5 1 v pre.length (cellsOf pre) ∧ Below w.heap.size w wr)
    (fun _ i _ => (intOf i).toNat)
  case atStart =>
    refine ⟨n.toNat, [], by simp; omega, by simp; omega, rfl, ?_, (Below.refl _ _).alloc (Nat.le_refl _) _⟩
    exact World.ownsRow_lit _ _ 0 (by simp) (by decide) rfl
  case round =>
    obtain ⟨m, pre, hm, rfl, hv, hown, hnx⟩ := hrel
    have hsz := hnx.size
    by_cases hlt : 127 < m
    · go_wp2_with (first
        | (at_builtin; refine wpList_append_bytes _ rfl _ _ 42 rfl w.heap.size 5 Tryd.underlying42 Tryd.info5 _ pre [hiB m] rfl (hown.alloc _) ⟨wr.heap.size, 0, none⟩ 1 rfl (news_one _ _ _ (byte_hi m)) (by simp; omega) (by simp; omega) ?_))
      intro v' w1 l' hl' hown' hgrow
      have hb := below_append _ hnx hown (Nat.le_refl _) hsz hgrow
      clear hgrow hnx hown
      go_wp2
      go_roundw
      case rel => exact ⟨m / 128, l', by rw [hl'.out]; simp; omega, by go_num, by rw [hv.out, varL_big hlt, hl'.out]; simp [Hid], hown', hb⟩
      case measure => simp [intOf]; omega
    · go_wp2_with (first
        | (at_builtin; refine wpList_append_bytes _ rfl _ _ 42 rfl w.heap.size 5 Tryd.underlying42 Tryd.info5 _ pre [loB m] rfl (hown.alloc _) ⟨wr.heap.size, 0, none⟩ 1 rfl (news_one _ _ _ (byte_lo m (by omega))) (by simp; omega) (by simp; omega) ?_))
      intro v' w1 l' hl' hown' hgrow
      have hb := below_append _ hnx hown (Nat.le_refl _) hsz hgrow
      clear hgrow hnx hown
      have hstr := run_str_own (P := Tryd.prog) 42 9 5 Tryd.underlying42 Tryd.underlying5 Tryd.underlying9 hown'
      go_wp2
      go_ret
      exact ⟨by rw [hv.out, varL_small (by omega), ← hl'.out]; rfl, hb⟩
end Go.Proofs.YtnfockhbcneegaaDoor
namespace Go.Proofs.YtnfockhbcneegaaDoor
open Go.RowKit

def byB (n : Int) : UInt8 := UInt8.ofNat n.toNat

def nearL (n : Nr) : List UInt8 := byB n.to :: varL n.c.toNat

def nearsL (ns : List Nr) : List UInt8 := ns.flatMap nearL

def headL (x : RecD) : List UInt8 := [byB x.area, byB x.kind, byB x.owner, byB x.key] ++ varL x.seq.toNat ++ varL x.near.length

def farL (f : Bool) : List UInt8 := if f then [1] else [0]

def recL (x : RecD) : List UInt8 := headL x ++ nearsL x.near ++ varL x.cost.toNat ++ farL x.far

def textV (x : RecD) : Value := if recOkB x = true then .tuple #[.string (bs (recL x)), .bool true] else .tuple #[.string (bs []), .bool false]

theorem byB_val (n : Int) (h0 : 0 ≤ n) (h1 : n ≤ 255) : n = ((byB n).toNat : Int) := by simp [byB]; omega

theorem bs_add (a b : List UInt8) : bs a ++ bs b = bs (a ++ b) := by
  apply ByteArray.ext
  simp [bs]

theorem bs_size (l : List UInt8) : (bs l).size = l.length := by simp [bs, ByteArray.size]

theorem varL_len (n : Nat) : (varL n).length ≤ n + 1 := by
  induction n using Nat.strongRecOn with
  | _ n ih =>
    by_cases h : 127 < n
    · rw [varL_big h]
      have := ih (n / 128) (by omega)
      simp only [List.length_cons]
      omega
    · rw [varL_small (by omega)]; simp

theorem inB_iff {x a b : Int} : inB x a b = true ↔ a ≤ x ∧ x ≤ b := by simp [inB]

structure RecBounds (x : RecD) : Prop where
  area : 0 ≤ x.area ∧ x.area ≤ 9
  kind : 1 ≤ x.kind ∧ x.kind ≤ 3
  owner : 1 ≤ x.owner ∧ x.owner ≤ 6
  key : 0 ≤ x.key ∧ x.key ≤ 9
  seq : 1 ≤ x.seq ∧ x.seq ≤ 100000
  cost : 0 ≤ x.cost ∧ x.cost ≤ 60000
  near : ∀ n ∈ x.near, (1 ≤ n.to ∧ n.to ≤ 6) ∧ (1 ≤ n.c ∧ n.c ≤ 1000)

theorem near_bounds {o : Int} {ns : List Nr} (h : nearsB o ns = true) : ∀ n ∈ ns, (1 ≤ n.to ∧ n.to ≤ 6) ∧ (1 ≤ n.c ∧ n.c ≤ 1000) := by
  intro n hn
  unfold nearsB at h
  rw [Bool.and_eq_true] at h
  obtain ⟨k, hk, e⟩ := List.getElem_of_mem hn
  have h1 := List.all_eq_true.1 h.1 k (List.mem_range.2 hk)
  rw [okAt_eq (List.getElem?_eq_getElem hk), e] at h1
  unfold nearOkB at h1
  simp only [Bool.and_eq_true] at h1
  exact ⟨inB_iff.1 h1.1.1, inB_iff.1 h1.2⟩

theorem recOk_bounds {x : RecD} (h : recOkB x = true) : RecBounds x := by
  unfold recOkB at h
  simp only [Bool.and_eq_true] at h
  obtain ⟨⟨h1, h2⟩, h3⟩ := h
  have ho := inB_iff.1 h1
  have hs := inB_iff.1 h2
  split at h3
  · rename_i hk
    simp only [Bool.and_eq_true, beq_iff_eq] at h3
    obtain ⟨⟨⟨⟨ha, hy⟩, hn⟩, hc⟩, _⟩ := h3
    have ha := inB_iff.1 ha
    exact ⟨by omega, by omega, ho, by omega, hs, by omega, near_bounds hn⟩
  · split at h3
    · rename_i hk
      simp only [Bool.and_eq_true, beq_iff_eq] at h3
      obtain ⟨⟨⟨⟨ha, hy⟩, hn⟩, hc⟩, _⟩ := h3
      have ha := inB_iff.1 ha
      have hy := inB_iff.1 hy
      have hc := inB_iff.1 hc
      have : x.near = [] := List.length_eq_zero_iff.1 hn
      exact ⟨by omega, by omega, ho, by omega, hs, by omega, by rw [this]; simp⟩
    · split at h3
      · rename_i hk
        simp only [Bool.and_eq_true, Bool.or_eq_true, beq_iff_eq] at h3
        obtain ⟨⟨⟨ha, hy⟩, hn⟩, hc⟩ := h3
        have hy := inB_iff.1 hy
        have : x.near = [] := List.length_eq_zero_iff.1 hn
        have hc2 : 0 ≤ x.cost ∧ x.cost ≤ 60000 := by
          rcases hc with hc | hc
          · have := inB_iff.1 hc; omega
          · omega
        exact ⟨by omega, by omega, ho, by omega, hs, hc2, by rw [this]; simp⟩
      · cases h3

theorem nearsL_succ {ns : List Nr} {k : Nat} {l : Nr} (h : ns[k]? = some l) : nearsL (ns.take (k + 1)) = nearsL (ns.take k) ++ nearL l := by
  obtain ⟨hk, e⟩ := List.getElem?_eq_some_iff.1 h
  unfold nearsL
  rw [List.take_succ_eq_append_getElem hk, List.flatMap_append, e]
  simp

theorem nearL_len {n : Nr} (h : 1 ≤ n.c ∧ n.c ≤ 1000) : (nearL n).length ≤ 1002 := by
  have := varL_len n.c.toNat
  simp only [nearL, List.length_cons]
  omega

theorem nearsL_len {ns : List Nr} (h : ∀ n ∈ ns, (1 ≤ n.to ∧ n.to ≤ 6) ∧ (1 ≤ n.c ∧ n.c ≤ 1000)) : ∀ k, (nearsL (ns.take k)).length ≤ 1002 * k := by
  intro k
  induction k with
  | zero => simp [nearsL]
  | succ k ih =>
    by_cases hk : k < ns.length
    · rw [nearsL_succ (List.getElem?_eq_getElem hk), List.length_append]
      have := nearL_len (h _ (List.getElem_mem hk)).2
      omega
    · have e : ns.take (k + 1) = ns.take k := by rw [List.take_of_length_le (by omega), List.take_of_length_le (by omega)]
      rw [e]; omega

set_option maxRecDepth 100000 in
set_option maxHeartbeats 400000 in
theorem sbyte_any (n : Int) (w : World) (h0 : 0 ≤ n) (h1 : n ≤ 255) : Calls Tryd.prog 17 #[.int .i64 n] w fun e w' => e = .returned (.string (bs [byB n])) ∧ Below w.heap.size w w' := by
  have hw : IntKind.u8.wrap n = n := by rw [IntKind.wrap_u8]; omega
  have hown : (w.alloc (.cells #[.int .u8 n] 5)).ownsRow w.heap.size 5 1 (.slice (some ⟨w.heap.size, 0, none⟩) 1 1) [byB n].length (cellsOf [byB n]) := by
    have h := World.ownsRow_lit (base := w.heap.size) (e := 5) (size := 1) w #[.int .u8 n] 1 (by simp) (by decide) rfl
    rw [← one_byte n (byB n) (byB_val n h0 h1)]
    exact h
  have hstr := run_str_own (P := Tryd.prog) 42 9 5 Tryd.underlying42 Tryd.underlying5 Tryd.underlying9 hown
  clear hown
  go_enter Tryd.func17, Tryd.ntmps17
  go_wp2
  go_ret
  exact ⟨rfl, (Below.refl _ _).alloc (Nat.le_refl _) _⟩
end Go.Proofs.YtnfockhbcneegaaDoor
namespace Go.Proofs.YtnfockhbcneegaaDoor
open Go.RowKit

theorem str_add {P : Program} (a b : List UInt8) (W : World) (h : a.length + b.length ≤ 100000000000) : (Op.stringOp .add (bs a) (bs b)).run P W = .ok (.string (bs (a ++ b))) W := by
  rw [run_string_add_sum _ _ _ (by rw [bs_size, bs_size]; omega), bs_add]

theorem var_nat (m : Nat) (w : World) (h : m ≤ 1000000000) : Calls Tryd.prog 18 #[.int .i64 (m : Int)] w fun e w' => e = .returned (.string (bs (varL m))) ∧ Below w.heap.size w w' := by
  have := var_any (m : Int) w (by omega) (by omega)
  simpa using this

theorem ret_str2 {a b : ByteArray} {q : Bool} (h : b = a) : Ending.returned (.tuple #[.string a, .bool q]) = .returned (.tuple #[.string b, .bool q]) := by rw [h]

set_option maxRecDepth 100000 in
set_option maxHeartbeats 4000000 in
theorem stext_any (v1 : Value) (x : RecD) (w : World) (hl : x.near.length ≤ 1048576) (hv : NearsAt w v1 x.near w.heap.size) :
    Calls Tryd.prog 19 #[.agg (recC x v1)] w fun e w' => e = .returned (textV x) ∧ Below w.heap.size w w' := by
  obtain ⟨p1, c1, rfl⟩ := hv.shape
  have HOK := hide (fun W (h : Below w.heap.size w W) => srecOk_any (.slice p1 x.near.length c1) x W hl (hv.then h))
  have HV0 := hide hv
  have HTV := hide (show textV x = textV x from rfl)
  have HB := hide sbyte_any
  have HV := hide var_nat
  by_cases hok : recOkB x = true
  case neg =>
    have hf : recOkB x = false := by simpa using hok
    rw [hf] at HOK
    have htv : textV x = .tuple #[.string (bs []), .bool false] := by unfold textV; rw [if_neg hok]
    rw [htv]
    clear htv hok hf hv HV0 HTV
    unfold recC at *
    go_enter Tryd.func19, Tryd.ntmps19
    go_wp2_with fail
    refine (HOK.out _ ((Below.refl _ _).alloc (Nat.le_refl _) _)).mono ?_
    rintro e w1 ⟨rfl, b1⟩
    go_wp2
    go_ret2
    exact ⟨rfl, ((Below.refl _ _).alloc (Nat.le_refl _) _).trans (b1.mono (by simp))⟩
  rw [hok] at HOK
  have hbd := recOk_bounds hok
  have htv : textV x = .tuple #[.string (bs (recL x)), .bool true] := by unfold textV; rw [if_pos hok]
  rw [htv]
  clear htv hok hv HTV
  obtain ⟨area, kind, owner, key, seq, ns, cost, far⟩ := x
  obtain ⟨ha, hk, ho, hy, hs, hc, hn⟩ := hbd
  simp only [] at ha hk ho hy hs hc hn hl HV0
  have HN := hide hn
  obtain ⟨sq, rfl⟩ : ∃ m : Nat, seq = (m : Int) := ⟨seq.toNat, by omega⟩
  obtain ⟨co, rfl⟩ : ∃ m : Nat, cost = (m : Int) := ⟨cost.toNat, by omega⟩
  have hsq : sq ≤ 100000 := by omega
  have hco : co ≤ 60000 := by omega
  have hvs := varL_len sq
  have hvn := varL_len ns.length
  have hvc := varL_len co
  obtain ⟨L1, h1⟩ : ∃ l, l = [byB area] ++ [byB kind] := ⟨_, rfl⟩
  obtain ⟨L2, h2⟩ : ∃ l, l = L1 ++ [byB owner] := ⟨_, rfl⟩
  obtain ⟨L3, h3⟩ : ∃ l, l = L2 ++ [byB key] := ⟨_, rfl⟩
  obtain ⟨L4, h4⟩ : ∃ l, l = L3 ++ varL sq := ⟨_, rfl⟩
  obtain ⟨HL, h5⟩ : ∃ l, l = L4 ++ varL ns.length := ⟨_, rfl⟩
  have n1 : L1.length = 2 := by rw [h1]; rfl
  have n2 : L2.length = 3 := by rw [h2, List.length_append, n1]; rfl
  have n3 : L3.length = 4 := by rw [h3, List.length_append, n2]; rfl
  have n4 : L4.length ≤ 200000 := by rw [h4, List.length_append, n3]; omega
  have n5 : HL.length ≤ 2000000 := by rw [h5, List.length_append]; omega
  have e1 := fun W => str_add (P := Tryd.prog) [byB area] [byB kind] W (by simp)
  have e2 := fun W => str_add (P := Tryd.prog) L1 [byB owner] W (by simp; omega)
  have e3 := fun W => str_add (P := Tryd.prog) L2 [byB key] W (by simp; omega)
  have e4 := fun W => str_add (P := Tryd.prog) L3 (varL sq) W (by omega)
  have e5 := fun W => str_add (P := Tryd.prog) L4 (varL ns.length) W (by omega)
  rw [← h1] at e1
  rw [← h2] at e2
  rw [← h3] at e3
  rw [← h4] at e4
  rw [← h5] at e5
  have hR : recL ⟨area, kind, owner, key, (sq : Int), ns, (co : Int), far⟩ = HL ++ nearsL ns ++ varL co ++ farL far := by rw [h5, h4, h3, h2, h1]; simp [recL, headL]
  rw [hR]
  have N5 := hide n5
  clear hn hR h1 h2 h3 h4 h5 n1 n2 n3 n4 n5 hs hc
  unfold recC at *
  simp only [] at *
  have B0 : Below w.heap.size w (w.alloc (.cells #[.int .i64 area, .int .i64 kind, .int .i64 owner, .int .i64 key, .int .i64 (sq : Int), .slice p1 ns.length c1, .int .i64 (co : Int), .bool far] 47)) := (Below.refl _ _).alloc (Nat.le_refl _) _
  have NEW := hide (heap_alloc_new w (.cells #[.int .i64 area, .int .i64 kind, .int .i64 owner, .int .i64 key, .int .i64 (sq : Int), .slice p1 ns.length c1, .int .i64 (co : Int), .bool far] 47))
  go_enter Tryd.func19, Tryd.ntmps19
  go_wp2_with fail
  refine (HOK.out _ B0).mono ?_
  rintro e w2 ⟨rfl, b2⟩
  have B2 := B0.trans (b2.mono B0.size)
  have g2 : w2.heap[w.heap.size]? = some (.cells #[.int .i64 area, .int .i64 kind, .int .i64 owner, .int .i64 key, .int .i64 (sq : Int), .slice p1 ns.length c1, .int .i64 (co : Int), .bool far] 47) := (b2.block _ (by simp)).trans NEW.out
  have s0 := cells_at g2 0
  have s1 := cells_at g2 1
  have s2 := cells_at g2 2
  have s3 := cells_at g2 3
  have s4 := cells_at g2 4
  have s5 := cells_at g2 5
  simp at s0 s1 s2 s3 s4 s5
  have G2 := hide g2
  have hz2 := lt_of_heap g2
  clear b2 g2 B0 NEW HOK
  go_wp2
  go_region_held3 (fun W => W.cell? ⟨w.heap.size, 0, none⟩ = some (.int .i64 area) ∧ W.cell? ⟨w.heap.size, 1, none⟩ = some (.int .i64 kind) ∧ W.cell? ⟨w.heap.size, 2, none⟩ = some (.int .i64 owner) ∧ W.cell? ⟨w.heap.size, 3, none⟩ = some (.int .i64 key) ∧ W.cell? ⟨w.heap.size, 4, none⟩ = some (.int .i64 (sq : Int)) ∧ W.cell? ⟨w.heap.size, 5, none⟩ = some (.slice p1 ns.length c1)) (first | go_keep | (refine ⟨?_, ?_, ?_, ?_, ?_, ?_⟩ <;> (refine Eq.trans (Below.cell (B := w2.heap.size) (w := w2.drew) ?_ ?_) ?_ <;> first | assumption | (go_grown; done)))) (first | (go_at_call 18; have hD5 := D4; refine (HV.out _ _ ?_).mono ?_; omega; rintro e v5 ⟨rfl, b5⟩; have D5 : Below w2.heap.size w2.drew v5 := D4.trans (b5.mono D4.size)) | (go_at_call 18; have hD4 := D3; refine (HV.out _ _ ?_).mono ?_; omega; rintro e v4 ⟨rfl, b4⟩; have D4 : Below w2.heap.size w2.drew v4 := D3.trans (b4.mono D3.size)) | (go_at_call 17; have hD3 := D2; refine (HB.out _ _ ?_ ?_).mono ?_; omega; omega; rintro e v3 ⟨rfl, b3⟩; have D3 : Below w2.heap.size w2.drew v3 := D2.trans (b3.mono D2.size)) | (go_at_call 17; have hD2 := D1; refine (HB.out _ _ ?_ ?_).mono ?_; omega; omega; rintro e v2 ⟨rfl, b2⟩; have D2 : Below w2.heap.size w2.drew v2 := D1.trans (b2.mono D1.size)) | (go_at_call 17; have hD1 := D0; refine (HB.out _ _ ?_ ?_).mono ?_; omega; omega; rintro e v1 ⟨rfl, b1⟩; have D1 : Below w2.heap.size w2.drew v1 := D0.trans (b1.mono D0.size)) | (go_at_call 17; refine (HB.out _ _ ?_ ?_).mono ?_; omega; omega; rintro e v0 ⟨rfl, b0⟩; have D0 : Below w2.heap.size w2.drew v0 := b0))
  have B3 : Below w.heap.size w v5 := B2.drew.trans (D5.mono B2.size)
  have g3 : v5.heap[w.heap.size]? = some (.cells #[.int .i64 area, .int .i64 kind, .int .i64 owner, .int .i64 key, .int .i64 (sq : Int), .slice p1 ns.length c1, .int .i64 (co : Int), .bool far] 47) := (D5.block _ hz2).trans G2.out
  clear e1 e2 e3 e4 e5 b0 b1 b2 b3 b4 b5 D0 D1 D2 D3 D4 D5 hD1 hD2 hD3 hD4 hD5 G2 B2 hz2 s0 s1 s2 s3 s4 s5
  go_wp2
  go_loopw [4, 5] (fun t i wr => ∃ (k : Nat) (l : List UInt8), k ≤ ns.length ∧ i = .int .i64 k ∧ t = .string (bs l) ∧ l = HL ++ nearsL (ns.take k) ∧ Below w.heap.size w wr ∧ wr.heap[w.heap.size]? = some (.cells #[.int .i64 area, .int .i64 kind, .int .i64 owner, .int .i64 key, .int .i64 (sq : Int), .slice p1 ns.length c1, .int .i64 (co : Int), .bool far] 47)) (fun _ i _ => ns.length - (intOf i).toNat)
  case atStart => exact ⟨0, HL, by omega, rfl, rfl, by simp [nearsL], B3, g3⟩
  case round =>
    obtain ⟨wz, rfl⟩ : ∃ wz : World, wz = wr := ⟨_, rfl⟩
    clear B3 g3
    obtain ⟨k, l, hk, rfl, rfl, hll, hb, hx⟩ := hrel
    have hzr := hb.size
    have hzx := lt_of_heap hx
    have g5 := cells_at hx 5
    simp at g5
    have HX := hide hx
    have hl0 : l.length ≤ 2000000 + 1002 * k := by
      have h1 := nearsL_len HN.out k
      have h2 := N5.out
      rw [hll, List.length_append]
      omega
    have HLL := hide hll
    clear hx hll
    by_cases hlt : k < ns.length
    · obtain ⟨y, hyk⟩ : ∃ y, ns[k]? = some y := ⟨ns[k], List.getElem?_eq_getElem hlt⟩
      have hyb := HN.out y (List.mem_of_getElem? hyk)
      obtain ⟨b, off, cap', hve, hbb, s0, s1⟩ := HV0.out.cells k y hyk
      cases hve
      have HSU := hide (nearsL_succ hyk)
      obtain ⟨lt, lc⟩ := y
      simp only [] at hyb s0 s1
      obtain ⟨⟨ht0, ht1⟩, hc0, hc1⟩ := hyb
      obtain ⟨lm, rfl⟩ : ∃ m : Nat, lc = (m : Int) := ⟨lc.toNat, by omega⟩
      rw [← hb.cell (p := ⟨b, off + k * 2, none⟩) hbb] at s0
      rw [← hb.cell (p := ⟨b, off + k * 2 + 1, none⟩) hbb] at s1
      have hki : (0 : Int) ≤ (k : Int) := by omega
      have hkj : (k : Int) < (ns.length : Int) := by omega
      have hbr : b < wz.heap.size := by omega
      have hvm := varL_len lm
      obtain ⟨l1, h1⟩ : ∃ q, q = l ++ [byB lt] := ⟨_, rfl⟩
      obtain ⟨l2, h2⟩ : ∃ q, q = l1 ++ varL lm := ⟨_, rfl⟩
      have n1 : l1.length = l.length + 1 := by rw [h1, List.length_append]; rfl
      have e1 := fun W => str_add (P := Tryd.prog) l [byB lt] W (by simp; omega)
      have e2 := fun W => str_add (P := Tryd.prog) l1 (varL lm) W (by omega)
      rw [← h1] at e1
      rw [← h2] at e2
      have H12 := hide (show l2 = HL ++ nearsL (ns.take (k + 1)) by rw [h2, h1, HLL.out, HSU.out]; simp [nearL])
      clear h1 h2 n1 hyk
      go_wp2
      go_region_held3 (fun W => W.cell? ⟨w.heap.size, 5, none⟩ = some (.slice (some ⟨b, off, none⟩) ns.length c1) ∧ W.cell? ⟨b, off + k * 2, none⟩ = some (.int .i64 lt) ∧ W.cell? ⟨b, off + k * 2 + 1, none⟩ = some (.int .i64 (lm : Int))) (first | go_keep | (refine ⟨?_, ?_, ?_⟩ <;> (refine Eq.trans (Below.cell (B := wz.heap.size) (w := wz.drew) ?_ ?_) ?_ <;> first | assumption | (go_grown; done)))) (first | (go_at_call 17; refine (HB.out _ _ ?_ ?_).mono ?_; omega; omega; rintro e v6 ⟨rfl, b6⟩; have D6 : Below wz.heap.size wz.drew v6 := b6) | (go_at_call 18; refine (HV.out _ _ ?_).mono ?_; omega; rintro e v7 ⟨rfl, b7⟩; have D7 : Below wz.heap.size wz.drew v7 := D6.trans (b7.mono D6.size)))
      have B7 : Below w.heap.size w v7 := hb.drew.trans (D7.mono hb.size)
      have g7 : v7.heap[w.heap.size]? = _ := (D7.block _ hzx).trans HX.out
      clear e1 e2 D6 D7 b6 b7
      go_wp2
      exact ⟨⟨k + 1, l2, by omega, by go_num, rfl, H12.out, B7, g7⟩, by simp [intOf]; omega⟩
    · have hk' : k = ns.length := by omega
      have hlf : l = HL ++ nearsL ns := by rw [HLL.out, hk', List.take_length]
      have HLF := hide hlf
      have g6 := cells_at HX.out 6
      simp at g6
      obtain ⟨l1, h1⟩ : ∃ q, q = l ++ varL co := ⟨_, rfl⟩
      have n1 : l1.length ≤ 2000000000 := by rw [h1, List.length_append]; omega
      have e1 := fun W => str_add (P := Tryd.prog) l (varL co) W (by omega)
      have e2 : ∀ W, (Op.stringOp .add (bs l1) { data := #[1] }).run Tryd.prog W = .ok (.string (bs (l1 ++ [1]))) W := fun W => str_add l1 [1] W (by simp; omega)
      have e3 : ∀ W, (Op.stringOp .add (bs l1) { data := #[0] }).run Tryd.prog W = .ok (.string (bs (l1 ++ [0]))) W := fun W => str_add l1 [0] W (by simp; omega)
      rw [← h1] at e1
      have H1 := hide h1
      clear hlf hk' h1
      go_wp2_with fail
      refine (HV.out _ _ (by omega)).mono ?_
      rintro e v6 ⟨rfl, b6⟩
      have B6 : Below w.heap.size w v6 := hb.trans (b6.mono hb.size)
      have g7 := cells_at ((b6.block _ hzx).trans HX.out) 7
      simp at g7
      clear b6
      cases far
      · go_wp2
        go_ret2
        exact ⟨ret_str2 (by rw [H1.out, HLF.out]; rfl), B6⟩
      · go_wp2
        go_ret2
        exact ⟨ret_str2 (by rw [H1.out, HLF.out]; rfl), B6⟩
end Go.Proofs.YtnfockhbcneegaaDoor
namespace Go.Proofs.YtnfockhbcneegaaDoor
open Go.RowKit

def varV (n : Int) : Value := if 0 ≤ n ∧ n ≤ 1000000000 then .tuple #[.string (bs (varL n.toNat)), .bool true] else .tuple #[.string (bs []), .bool false]

set_option maxHeartbeats 400000 in
theorem ivt_any (n : Int) (w : World) : Calls Tryd.prog 56 #[.int .i64 n] w fun e w' => e = .returned (varV n) ∧ Below w.heap.size w w' := by
  by_cases hn : n < 0
  · have hv : varV n = .tuple #[.string (bs []), .bool false] := by simp [varV]; omega
    rw [hv]; clear hv
    go_enter Tryd.func56, Tryd.ntmps56
    go_wp2
    go_ret2
    exact ⟨rfl, Below.refl _ _⟩
  by_cases hx : 1000000000 < n
  · have hv : varV n = .tuple #[.string (bs []), .bool false] := by simp [varV]; omega
    rw [hv]; clear hv
    go_enter Tryd.func56, Tryd.ntmps56
    go_wp2
    go_ret2
    exact ⟨rfl, Below.refl _ _⟩
  have hv : varV n = .tuple #[.string (bs (varL n.toNat)), .bool true] := by simp [varV]; omega
  rw [hv]; clear hv
  go_enter Tryd.func56, Tryd.ntmps56
  go_wp2
  go_loopw [4, 0] (fun v i wr => ∃ (m : Nat) (pre : List UInt8), pre.length + m ≤ 1000000000 ∧ i = .int .i64 m ∧ Hid (varL n.toNat = pre ++ varL m) ∧ wr.ownsRow w.heap.size 5 1 v pre.length (cellsOf pre) ∧ Below w.heap.size w wr)
    (fun _ i _ => (intOf i).toNat)
  case atStart =>
    exact ⟨n.toNat, [], by simp; omega, by simp; omega, rfl, World.ownsRow_nil _ _ _ _, Below.refl _ _⟩
  case round =>
    obtain ⟨m, pre, hm, rfl, hv, hown, hnx⟩ := hrel
    have hsz := hnx.size
    by_cases hlt : 127 < m
    · go_wp2_with (first
        | (at_builtin; refine wpList_append_bytes _ rfl _ _ 42 rfl w.heap.size 5 Tryd.underlying42 Tryd.info5 _ pre [hiB m] rfl (hown.alloc _) ⟨wr.heap.size, 0, none⟩ 1 rfl (news_one _ _ _ (byte_hi m)) (by simp; omega) (by simp; omega) ?_))
      intro v' w1 l' hl' hown' hgrow
      have hb := below_append _ hnx hown (Nat.le_refl _) hsz hgrow
      clear hgrow hnx hown
      go_wp2
      go_roundw
      case rel => exact ⟨m / 128, l', by rw [hl'.out]; simp; omega, by go_num, by rw [hv.out, varL_big hlt, hl'.out]; simp [Hid], hown', hb⟩
      case measure => simp [intOf]; omega
    · go_wp2_with (first
        | (at_builtin; refine wpList_append_bytes _ rfl _ _ 42 rfl w.heap.size 5 Tryd.underlying42 Tryd.info5 _ pre [loB m] rfl (hown.alloc _) ⟨wr.heap.size, 0, none⟩ 1 rfl (news_one _ _ _ (byte_lo m (by omega))) (by simp; omega) (by simp; omega) ?_))
      intro v' w1 l' hl' hown' hgrow
      have hb := below_append _ hnx hown (Nat.le_refl _) hsz hgrow
      clear hgrow hnx hown
      have hstr := run_str_own (P := Tryd.prog) 42 9 5 Tryd.underlying42 Tryd.underlying5 Tryd.underlying9 hown'
      go_wp2
      go_ret2
      exact ⟨by rw [hv.out, varL_small (by omega), ← hl'.out]; rfl, hb⟩

end Go.Proofs.YtnfockhbcneegaaDoor
namespace Go.Proofs.YtnfockhbcneegaaDoor
open Go.RowKit

theorem strCells_bs (l : List UInt8) : Go.Lib.strCells (bs l) = cellsOf l := by
  simp [Go.Lib.strCells, cellsOf, bs]

set_option maxRecDepth 100000 in
set_option maxHeartbeats 1000000 in
theorem appendVar_any (base : Nat) (v : Value) (l : List UInt8) (n : Nat) (w : World) (hown : w.ownsRow base 5 1 v l.length (cellsOf l)) (hn : n ≤ 1000000000) (hl : l.length ≤ 10000000000) (hbase : base ≤ w.heap.size) :
    Calls Tryd.prog 84 #[v, .int .i64 (n : Int)] w fun e w' => ∃ v' l', e = .returned v' ∧ l' = l ++ varL n ∧ w'.ownsRow base 5 1 v' l'.length (cellsOf l') ∧ w.grownBy w' v.ownBlock := by
  obtain ⟨i0, hi, hz0, hz1, hz2⟩ := info_parts Tryd.info5
  have HI := hide hi
  have HZ := hide hz0
  have hvt : varV (n : Int) = .tuple #[.string (bs (varL n)), .bool true] := by unfold varV; rw [if_pos (by omega)]; simp
  have HVT := ivt_any (n : Int)
  rw [hvt] at HVT
  have HV := hide HVT
  have OW := hide hown
  have hlen := varL_len n
  have hvs := bs_size (varL n)
  clear HVT hvt hown hi hz0
  go_enter Tryd.func84, Tryd.ntmps84
  go_wp2_with fail
  refine (HV.out _).mono ?_
  rintro e w1 ⟨rfl, b1⟩
  have ow1 := owns_below OW.out b1 (Nat.le_refl _)
  have hb1 : base ≤ w1.heap.size := Nat.le_trans hbase b1.size
  go_wp2_with (first | (at_builtin; refine Go.Lib.wpList_append_own_string _ rfl _ _ 42 9 rfl base 5 i0 Tryd.underlying42 Tryd.underlying9 HI.out HZ.out hz1 hz2 v l.length (cellsOf l) rfl ow1 (bs (varL n)) rfl (by rw [hvs]; unfold maxLen; omega) (by rw [hvs]; omega) hb1 ?_))
  intro v' w2 ow2 hg _
  have B2 : w.grownBy w2 v.ownBlock := ⟨hg.os.trans b1.os, hg.tape.trans b1.tape, hg.output.trans b1.output, Nat.le_trans b1.size hg.size, fun k hk hr => (hg.block k (Nat.lt_of_lt_of_le hk b1.size) hr).trans (b1.block k hk)⟩
  rw [strCells_bs, ← cellsOf_append, ← List.length_append] at ow2
  have OW2 := hide ow2
  clear ow2 hg ow1
  go_wp2
  go_ret
  exact ⟨_, _, rfl, rfl, OW2.out, B2⟩

theorem below_own {w w' : World} {base n : Nat} {e : TypeId} {v : Value} {xs : List Value} (ho : w.ownsRow base e 1 v n xs) (hg : w.grownBy w' v.ownBlock) (hb : base ≤ w.heap.size) : Below base w w' := (Below.refl _ _).grown hg hb (fun k hk => (ho.lt k hk).1)

theorem keep_app {W W6 : World} {o : Obj} {z j : Nat} {u : Value} {row : Option Nat} (h : W.cell? ⟨z, j, none⟩ = some u) (hg : (W.drew.alloc o).grownBy W6 row) (hne : some z ≠ row) : W6.cell? ⟨z, j, none⟩ = some u :=
  hg.cell ((World.cell?_alloc_lt W.drew o ⟨z, j, none⟩ (World.block_lt_of_cell? W _ h)).trans h) hne

theorem own_ne {W : World} {base z : Nat} {v : Value} {l : List UInt8} {u : Int} (ho : W.ownsRow base 5 1 v l.length (cellsOf l)) (hl : 0 < l.length) (hc : W.cell? ⟨z, 0, none⟩ = some (.int .i64 u)) : some z ≠ v.ownBlock := by
  obtain ⟨g, cap, rfl, _, _⟩ := owns_shape ho hl
  intro e
  simp [Value.ownBlock] at e
  subst e
  rw [ho.cellAt 0 (by omega)] at hc
  have : (cellsOf l)[0]? = some (.int .u8 (l[0].toNat : Int)) := by simp [cellsOf, List.getElem?_eq_getElem hl]
  rw [this] at hc
  cases hc

set_option maxHeartbeats 400000 in
theorem farByte_any (f : Bool) (w : World) : Calls Tryd.prog 85 #[.bool f] w fun e w' => e = .returned (.int .u8 (if f then 1 else 0)) ∧ w = w' := by
  cases f
  all_goals
    go_enter Tryd.func85, Tryd.ntmps85
    go_wp2
    go_ret
    exact ⟨rfl, rfl⟩
end Go.Proofs.YtnfockhbcneegaaDoor
namespace Go.Proofs.YtnfockhbcneegaaDoor
open Go.RowKit

set_option maxRecDepth 100000 in
set_option maxHeartbeats 1000000 in
theorem itext_any (v1 : Value) (x : RecD) (w : World) (hl : x.near.length ≤ 1048576) (hv : NearsAt w v1 x.near w.heap.size) :
    Calls Tryd.prog 58 #[.agg (recC x v1)] w fun e w' => e = .returned (textV x) ∧ Below w.heap.size w w' := by
  obtain ⟨p1, c1, rfl⟩ := hv.shape
  have HOK := hide (fun W (h : Below w.heap.size w W) => irecOk_any (.slice p1 x.near.length c1) x W hl (hv.then h))
  have HV0 := hide hv
  have HAV := hide appendVar_any
  by_cases hok : recOkB x = true
  case neg =>
    have hf : recOkB x = false := by simpa using hok
    rw [hf] at HOK
    have htv : textV x = .tuple #[.string (bs []), .bool false] := by unfold textV; rw [if_neg hok]
    rw [htv]
    clear htv hok hf hv HV0
    unfold recC at *
    go_enter Tryd.func58, Tryd.ntmps58
    go_wp2_with fail
    refine (HOK.out _ ((Below.refl _ _).alloc (Nat.le_refl _) _)).mono ?_
    rintro e w1 ⟨rfl, b1⟩
    go_wp2
    go_ret2
    exact ⟨rfl, ((Below.refl _ _).alloc (Nat.le_refl _) _).trans (b1.mono (by simp))⟩
  rw [hok] at HOK
  have hbd := recOk_bounds hok
  have htv : textV x = .tuple #[.string (bs (recL x)), .bool true] := by unfold textV; rw [if_pos hok]
  rw [htv]
  clear htv hok hv
  obtain ⟨area, kind, owner, key, seq, ns, cost, far⟩ := x
  obtain ⟨ha, hk, ho, hy, hs, hc, hn⟩ := hbd
  simp only [] at ha hk ho hy hs hc hn hl HV0
  have HN := hide hn
  obtain ⟨sq, rfl⟩ : ∃ m : Nat, seq = (m : Int) := ⟨seq.toNat, by omega⟩
  obtain ⟨co, rfl⟩ : ∃ m : Nat, cost = (m : Int) := ⟨cost.toNat, by omega⟩
  have hsq : sq ≤ 100000 := by omega
  have hco : co ≤ 60000 := by omega
  have hvs := varL_len sq
  have hvn := varL_len ns.length
  have hvc := varL_len co
  have u0 : IntKind.u8.wrap area = area := by rw [IntKind.wrap_u8]; omega
  have u1 : IntKind.u8.wrap kind = kind := by rw [IntKind.wrap_u8]; omega
  have u2 : IntKind.u8.wrap owner = owner := by rw [IntKind.wrap_u8]; omega
  have u3 : IntKind.u8.wrap key = key := by rw [IntKind.wrap_u8]; omega
  obtain ⟨L3, h3⟩ : ∃ l, l = [byB area, byB kind, byB owner, byB key] := ⟨_, rfl⟩
  have hcs : [Value.int .u8 area, .int .u8 kind, .int .u8 owner, .int .u8 key] = cellsOf L3 := by
    rw [h3]
    simp only [cellsOf, List.map_cons, List.map_nil]
    rw [← byB_val area (by omega) (by omega), ← byB_val kind (by omega) (by omega), ← byB_val owner (by omega) (by omega), ← byB_val key (by omega) (by omega)]
  have n3 : L3.length = 4 := by rw [h3]; rfl
  have LIT := hide (fun (W : World) => World.ownsRow_lit (base := W.heap.size) (e := 5) (size := 1) W #[.int .u8 area, .int .u8 kind, .int .u8 owner, .int .u8 key] 4 (Nat.le_refl _) (by decide) rfl)
  have HCS := hide hcs
  obtain ⟨HL, h5⟩ : ∃ l, l = L3 ++ varL sq ++ varL ns.length := ⟨_, rfl⟩
  have n5 : HL.length ≤ 2000000 := by rw [h5]; simp only [List.length_append]; omega
  have hR : recL ⟨area, kind, owner, key, (sq : Int), ns, (co : Int), far⟩ = HL ++ nearsL ns ++ varL co ++ farL far := by rw [h5, h3]; simp [recL, headL]
  rw [hR]
  have H5 := hide h5
  have N5 := hide n5
  have N3 := hide n3
  clear hn hR h3 h5 n3 n5 hs hc hcs
  unfold recC at *
  simp only [] at *
  have B0 : Below w.heap.size w (w.alloc (.cells #[.int .i64 area, .int .i64 kind, .int .i64 owner, .int .i64 key, .int .i64 (sq : Int), .slice p1 ns.length c1, .int .i64 (co : Int), .bool far] 47)) := (Below.refl _ _).alloc (Nat.le_refl _) _
  have NEW := hide (heap_alloc_new w (.cells #[.int .i64 area, .int .i64 kind, .int .i64 owner, .int .i64 key, .int .i64 (sq : Int), .slice p1 ns.length c1, .int .i64 (co : Int), .bool far] 47))
  go_enter Tryd.func58, Tryd.ntmps58
  go_wp2_with fail
  refine (HOK.out _ B0).mono ?_
  rintro e w2 ⟨rfl, b2⟩
  have B2 := B0.trans (b2.mono B0.size)
  have g2 : w2.heap[w.heap.size]? = some (.cells #[.int .i64 area, .int .i64 kind, .int .i64 owner, .int .i64 key, .int .i64 (sq : Int), .slice p1 ns.length c1, .int .i64 (co : Int), .bool far] 47) := (b2.block _ (by simp)).trans NEW.out
  have s0 := cells_at g2 0
  have s1 := cells_at g2 1
  have s2 := cells_at g2 2
  have s3 := cells_at g2 3
  simp at s0 s1 s2 s3
  have ow : (w2.alloc (.cells #[.int .u8 area, .int .u8 kind, .int .u8 owner, .int .u8 key] 5)).ownsRow w2.heap.size 5 1 (.slice (some ⟨w2.heap.size, 0, none⟩) 4 4) L3.length (cellsOf L3) := by rw [N3.out, ← HCS.out]; exact LIT.out w2
  have hz2 := lt_of_heap g2
  have g3 : (w2.alloc (.cells #[.int .u8 area, .int .u8 kind, .int .u8 owner, .int .u8 key] 5)).heap[w.heap.size]? = _ := (Below.heap_alloc _ _ _ hz2).trans g2
  have s4 := cells_at g3 4
  simp at s4
  have OW := hide ow
  have G3 := hide g3
  have B3 : Below w.heap.size w (w2.alloc (.cells #[.int .u8 area, .int .u8 kind, .int .u8 owner, .int .u8 key] 5)) := B2.alloc B2.size _
  have hz3 := B2.size
  clear b2 g2 g3 B0 NEW HOK LIT ow
  go_wp2_with fail
  refine (HAV.out w2.heap.size _ L3 sq _ OW.out (by omega) (by have := N3.out; omega) (by simp)).mono ?_
  rintro e w4 ⟨v4, l4, rfl, hl4, ow4, k4⟩
  have b4 := below_own OW.out k4 (by simp)
  have B4 : Below w.heap.size w w4 := B3.trans (b4.mono hz3)
  have g4 : w4.heap[w.heap.size]? = _ := (b4.block _ hz2).trans G3.out
  have s5 := cells_at g4 5
  simp at s5
  have n4 : l4.length ≤ 200000 := by rw [hl4, List.length_append, N3.out]; omega
  have hz4 : w2.heap.size ≤ w4.heap.size := by have := b4.size; simp at this; omega
  have HL4 := hide hl4
  have OW4 := hide ow4
  have G4 := hide g4
  clear b4 k4 ow4 g4 OW G3 B3 s4 hl4 s0 s1 s2 s3
  go_wp2_with fail
  refine (HAV.out w2.heap.size _ l4 ns.length _ OW4.out (by omega) (by omega) hz4).mono ?_
  rintro e w5 ⟨v5, l5, rfl, hl5, ow5, k5⟩
  have b5 := below_own OW4.out k5 hz4
  have B5 : Below w.heap.size w w5 := B4.trans (b5.mono hz3)
  have g5 : w5.heap[w.heap.size]? = _ := (b5.block _ hz2).trans G4.out
  have hz5 : w2.heap.size ≤ w5.heap.size := Nat.le_trans hz4 b5.size
  have t5 := cells_at g5 5
  simp at t5
  have hl5' : l5 = HL := by rw [hl5, HL4.out, H5.out]
  subst hl5'
  have OW5 := hide ow5
  have G5 := hide g5
  clear b5 k5 ow5 g5 OW4 G4 B4 s5 hl5 n4 hz4 HL4
  go_wp2
  go_loopw [4, 35] (fun t i wr => ∃ (k : Nat) (l : List UInt8), k ≤ ns.length ∧ i = .int .i64 k ∧ l = l5 ++ nearsL (ns.take k) ∧ wr.ownsRow w2.heap.size 5 1 t l.length (cellsOf l) ∧ Below w.heap.size w wr ∧ w2.heap.size ≤ wr.heap.size ∧ wr.heap[w.heap.size]? = some (.cells #[.int .i64 area, .int .i64 kind, .int .i64 owner, .int .i64 key, .int .i64 (sq : Int), .slice p1 ns.length c1, .int .i64 (co : Int), .bool far] 47)) (fun _ i _ => ns.length - (intOf i).toNat)
  case atStart => exact ⟨0, l5, by omega, rfl, by simp [nearsL], OW5.out, B5, hz5, G5.out⟩
  case round =>
    obtain ⟨wz, rfl⟩ : ∃ wz : World, wz = wr := ⟨_, rfl⟩
    clear B5 OW5 G5 t5 hz5
    obtain ⟨k, l, hk, rfl, hll, hown, hb, hzw, hx⟩ := hrel
    have hzr := hb.size
    have hzx := lt_of_heap hx
    have HX := hide hx
    have hl0 : l.length ≤ 2000000 + 1002 * k := by
      have h1 := nearsL_len HN.out k
      have h2 := N5.out
      rw [hll, List.length_append]
      omega
    have HLL := hide hll
    have OW := hide hown
    clear hx hll hown
    by_cases hlt : k < ns.length
    · obtain ⟨y, hyk⟩ : ∃ y, ns[k]? = some y := ⟨ns[k], List.getElem?_eq_getElem hlt⟩
      have hyb := HN.out y (List.mem_of_getElem? hyk)
      obtain ⟨b, off, cap', hve, hbb, s0, s1⟩ := HV0.out.cells k y hyk
      cases hve
      have HSU := hide (nearsL_succ hyk)
      obtain ⟨lt, lc⟩ := y
      simp only [] at hyb s0 s1
      obtain ⟨⟨ht0, ht1⟩, hc0, hc1⟩ := hyb
      obtain ⟨lm, rfl⟩ : ∃ m : Nat, lc = (m : Int) := ⟨lc.toNat, by omega⟩
      rw [← hb.cell (p := ⟨b, off + k * 2, none⟩) hbb] at s0
      rw [← hb.cell (p := ⟨b, off + k * 2 + 1, none⟩) hbb] at s1
      have hki : (0 : Int) ≤ (k : Int) := by omega
      have hkj : (k : Int) < (ns.length : Int) := by omega
      have ut : IntKind.u8.wrap lt = lt := by rw [IntKind.wrap_u8]; omega
      have hbt := byB_val lt (by omega) (by omega)
      have HBT := hide hbt
      have H12 := hide (show l ++ [byB lt] ++ varL lm = l5 ++ nearsL (ns.take (k + 1)) by rw [HLL.out, HSU.out]; simp [nearL])
      clear hbt hyk
      obtain ⟨wq, hwq⟩ : ∃ wq : World, wq = wz.alloc (.cells #[.int .i64 lt, .int .i64 (lm : Int)] 82) := ⟨_, rfl⟩
      have BQ : Below w.heap.size w wq := by rw [hwq]; exact hb.alloc hb.size _
      have OQ := hide (show wq.ownsRow w2.heap.size 5 1 u4 l.length (cellsOf l) by rw [hwq]; exact OW.out.alloc _)
      have hq0 : wq.heap[wz.heap.size]? = some (.cells #[.int .i64 lt, .int .i64 (lm : Int)] 82) := by rw [hwq]; exact heap_alloc_new wz _
      have hqx : wq.heap[w.heap.size]? = _ := (show wq.heap[w.heap.size]? = wz.heap[w.heap.size]? by rw [hwq, Below.heap_alloc _ _ _ hzx]).trans HX.out
      have hw2q : w2.heap.size ≤ wq.heap.size := by rw [hwq]; simp; omega
      have hxq : w.heap.size < wq.heap.size := by omega
      go_wp2
      rw [← hwq]
      have e0 := cells_at hq0 0
      have e1 := cells_at hq0 1
      simp at e0 e1
      have hzq := lt_of_heap hq0
      obtain ⟨z, hz⟩ : ∃ z, z = wz.heap.size := ⟨_, rfl⟩
      rw [← hz] at e0 e1 hzq ⊢
      have HQX := hide hqx
      have ONE := hide (show some z ≠ u4.ownBlock from fun e => by have := (OW.out.lt z e.symm).2; omega)
      clear hq0 hqx hwq s0 s1 OW HX hz
      go_region_held3 (fun W => W.cell? ⟨z, 0, none⟩ = some (.int .i64 lt) ∧ W.cell? ⟨z, 1, none⟩ = some (.int .i64 (lm : Int))) (first | go_keep | (refine ⟨?_, ?_⟩ <;> (refine Eq.trans (Below.cell (B := wq.heap.size) (w := wq.drew) ?_ ?_) ?_ <;> first | assumption | (go_grown; done)))) (first | (refine step_append_bytes rfl _ _ 42 rfl w2.heap.size 5 Tryd.underlying42 Tryd.info5 u4 l [byB lt] rfl ?_ ⟨wq.heap.size, 0, none⟩ 1 rfl ?_ ?_ ?_ ?_; exact (OQ.out.drew.alloc _); exact news_one (w := wq.drew) _ _ _ HBT.out; (simp; omega); (simp; omega); intro v' w6 l' hl' hown' hgrow; have c60 := keep_app e0 hgrow ONE.out; have c61 := keep_app e1 hgrow ONE.out; have hlp : 0 < l'.length := (by rw [hl'.out]; simp)) | (go_at_call 84; refine (HAV.out w2.heap.size _ l' lm _ hown' ?_ ?_ ?_).mono ?_; omega; (rw [hl'.out]; simp; omega); (have := hgrow.size; simp at this; omega); rintro e w7 ⟨v7, l7, rfl, hl7, ow7, k7⟩; have c70 := k7.cell c60 (own_ne hown' hlp c60); have c71 := k7.cell c61 (own_ne hown' hlp c60)))
      have B6 : Below w2.heap.size wq w6 := (((Below.refl _ _).drew).alloc hw2q _).grown hgrow (by simp; omega) (fun k hk => (OQ.out.lt k hk).1)
      have b7 := below_own hown' k7 (by have := hgrow.size; simp at this; omega)
      have D7 : Below w2.heap.size wq w7 := B6.trans b7
      have B7 : Below w.heap.size w w7 := BQ.trans (D7.mono hz3)
      have g7 : w7.heap[w.heap.size]? = _ := (D7.block _ hz2).trans HQX.out
      have hz7 : w2.heap.size ≤ w7.heap.size := Nat.le_trans hw2q D7.size
      have HL7 := hide (show l7 = l5 ++ nearsL (ns.take (k + 1)) by rw [hl7, hl'.out]; exact H12.out)
      have OW7 := hide ow7
      clear hown' hgrow ow7 b7 k7 B6 D7 hl7 hl' c60 c61 c70 c71 hlp
      go_wp2
      exact ⟨⟨k + 1, l7, by omega, by go_num, HL7.out, OW7.out, B7, hz7, g7⟩, by simp [intOf]; omega⟩
    · have hk' : k = ns.length := by omega
      have hlf : l = l5 ++ nearsL ns := by rw [HLL.out, hk', List.take_length]
      have HLF := hide hlf
      have g6 := cells_at HX.out 6
      simp at g6
      clear hlf hk'
      go_wp2_with fail
      refine (HAV.out w2.heap.size _ l co _ OW.out (by omega) (by omega) hzw).mono ?_
      rintro e w6 ⟨v6, l6, rfl, hl6, ow6, k6⟩
      have b6 := below_own OW.out k6 hzw
      have B6 : Below w.heap.size w w6 := hb.trans (b6.mono hz3)
      have g7 := cells_at ((b6.block _ hz2).trans HX.out) 7
      simp at g7
      have hz6 : w2.heap.size ≤ w6.heap.size := Nat.le_trans hzw b6.size
      have n6 : l6.length ≤ 2000000000 := by rw [hl6, List.length_append]; omega
      have HL6 := hide hl6
      have OW6 := hide ow6
      clear b6 k6 ow6 hl6 OW
      have HFB := hide (farByte_any far)
      obtain ⟨fi, hfi⟩ : ∃ q : Int, q = (if far then 1 else 0) := ⟨_, rfl⟩
      obtain ⟨fb, hfb⟩ : ∃ q : UInt8, q = (if far then 1 else 0) := ⟨_, rfl⟩
      rw [← hfi] at HFB
      have HFI := hide (show fi = (fb.toNat : Int) by rw [hfi, hfb]; cases far <;> rfl)
      have HFL := hide (show farL far = [fb] by rw [hfb]; cases far <;> rfl)
      clear hfi hfb
      go_wp2_with fail
      refine (HFB.out _).mono ?_
      rintro e w7 ⟨rfl, rfl⟩
      go_wp2_with (first
        | (at_builtin; refine wpList_append_bytes _ rfl _ _ 42 rfl w2.heap.size 5 Tryd.underlying42 Tryd.info5 v6 l6 [fb] rfl (OW6.out.alloc _) ⟨w6.heap.size, 0, none⟩ 1 rfl (news_one _ _ _ HFI.out) (by simp; omega) (by simp; omega) ?_))
      intro v' w8 l8 hl8 hown' hgrow
      have B8 : Below w.heap.size w w8 := (B6.alloc B6.size _).grown hgrow (by simp; omega) (fun k hk => Nat.le_trans hz3 (OW6.out.lt k hk).1)
      have hstr := run_str_own (P := Tryd.prog) 42 9 5 Tryd.underlying42 Tryd.underlying5 Tryd.underlying9 hown'
      clear hown' hgrow
      go_wp2
      go_ret2
      exact ⟨ret_str2 (by rw [hl8.out, HL6.out, HLF.out, HFL.out]), B8⟩
end Go.Proofs.YtnfockhbcneegaaDoor
namespace Go.Proofs.YtnfockhbcneegaaDoor
open Go.RowKit

def st (x : Nat) : Nat := if x % 2 = 1 then x / 2 ^^^ 3558460437 else x / 2

theorem st_xor (a b : Nat) : st (a ^^^ b) = st a ^^^ st b := by
  have h1 : (a ^^^ b) / 2 = a / 2 ^^^ b / 2 := Nat.xor_div_two
  have h2 : ((a ^^^ b) % 2 = 1) ↔ ¬ ((a % 2 = 1) ↔ (b % 2 = 1)) := Nat.xor_mod_two_eq_one
  unfold st
  rw [h1]
  have ha : a % 2 = 0 ∨ a % 2 = 1 := by omega
  have hb : b % 2 = 0 ∨ b % 2 = 1 := by omega
  rcases ha with ha | ha <;> rcases hb with hb | hb
  · rw [if_neg (by omega), if_neg (by omega), if_neg (by omega)]
  · rw [if_pos (by omega), if_neg (by omega), if_pos (by omega)]; ac_rfl
  · rw [if_pos (by omega), if_pos (by omega), if_neg (by omega)]; ac_rfl
  · rw [if_neg (by omega), if_pos (by omega), if_pos (by omega)]
    rw [show a / 2 ^^^ 3558460437 ^^^ (b / 2 ^^^ 3558460437) = (a / 2 ^^^ b / 2) ^^^ (3558460437 ^^^ 3558460437) by ac_rfl, Nat.xor_self, Nat.xor_zero]

theorem st_lt (x : Nat) (h : x < 4294967296) : st x < 4294967296 := by
  unfold st
  split
  · exact Nat.xor_lt_two_pow (n := 32) (by omega) (by omega)
  · omega

def tab16 : List Nat := [0x00000000, 0x4589ac8d, 0x8b13591a, 0xce9af597, 0xbe152a1f, 0xfb9c8692, 0x35067305, 0x708fdf88, 0xd419cc15, 0x91906098, 0x5f0a950f, 0x1a833982, 0x6a0ce60a, 0x2f854a87, 0xe11fbf10, 0xa496139d]

theorem st_even (y : Nat) : st (2 * y) = y := by unfold st; rw [if_neg (by omega)]; omega
theorem four_st (x : Nat) : st (st (st (st x))) = x / 16 ^^^ tab16.getD (x % 16) 0 := by
  have hx : x = 16 * (x / 16) ^^^ (x % 16) := by
    have := Nat.two_pow_add_eq_or_of_lt (i := 4) (b := x % 16) (by omega) (x / 16)
    have h2 : (2 ^ 4 * (x / 16)) ||| (x % 16) = 16 * (x / 16) ^^^ (x % 16) := by
      rw [show (16 : Nat) * (x / 16) = 2 ^ 4 * (x / 16) from rfl]
      apply Nat.eq_of_testBit_eq
      intro i
      rw [Nat.testBit_or, Nat.testBit_xor, Nat.testBit_two_pow_mul]
      by_cases hi : 4 ≤ i
      · have : (x % 16).testBit i = false := Nat.testBit_lt_two_pow (Nat.lt_of_lt_of_le (by omega) (Nat.pow_le_pow_right (by omega : 0 < 2) hi))
        simp [this]
      · simp [hi]
    omega
  generalize x / 16 = y at *
  have hr : x % 16 < 16 := by omega
  generalize x % 16 = r at *
  subst hx
  simp only [st_xor]
  have e : st (st (st (st (16 * y)))) = y := by
    rw [show 16 * y = 2 * (2 * (2 * (2 * y))) by omega, st_even, st_even, st_even, st_even]
  rw [e]
  congr 1
  have key : ∀ r : Fin 16, st (st (st (st r.val))) = tab16.getD r.val 0 := by decide
  exact key ⟨r, hr⟩

def upB (x : Nat) (b : UInt8) : Nat := st (st (st (st (st (st (st (st (x ^^^ b.toNat))))))))

def upL (x : Nat) (l : List UInt8) : Nat := l.foldl upB x

theorem upB_lt (x : Nat) (b : UInt8) (h : x < 4294967296) : upB x b < 4294967296 := by
  have hb : b.toNat < 4294967296 := by have := b.toNat_lt; omega
  have := Nat.xor_lt_two_pow (n := 32) h hb
  unfold upB
  exact st_lt _ (st_lt _ (st_lt _ (st_lt _ (st_lt _ (st_lt _ (st_lt _ (st_lt _ this)))))))

theorem upL_lt (l : List UInt8) : ∀ (x : Nat), x < 4294967296 → upL x l < 4294967296 := by
  induction l with
  | nil => intro x h; exact h
  | cons b l ih => intro x h; exact ih _ (upB_lt x b h)

theorem xor_u32 (x y : Nat) (hx : x < 4294967296) (hy : y < 4294967296) : bits .xor .u32 (x : Int) (y : Int) = ((x ^^^ y : Nat) : Int) := by
  have e : bits .xor .u32 (x : Int) (y : Int) = IntKind.u32.wrap ((BitVec.ofInt 32 (x : Int) ^^^ BitVec.ofInt 32 (y : Int)).toNat : Nat) := rfl
  have h : x ^^^ y < 4294967296 := Nat.xor_lt_two_pow (n := 32) hx hy
  rw [e, BitVec.toNat_xor]
  simp only [BitVec.ofInt_natCast, BitVec.toNat_ofNat]
  rw [Nat.mod_eq_of_lt hx, Nat.mod_eq_of_lt hy]
  simp only [IntKind.wrap, IntKind.signed, IntKind.bits]
  simp
  omega
end Go.Proofs.YtnfockhbcneegaaDoor
namespace Go.Proofs.YtnfockhbcneegaaDoor
open Go.RowKit

def stN : Nat → Nat → Nat
  | 0, x => x
  | k + 1, x => st (stN k x)

theorem stN_lt : ∀ (k x : Nat), x < 4294967296 → stN k x < 4294967296
  | 0, _, h => h
  | k + 1, x, h => st_lt _ (stN_lt k x h)

theorem upL_snoc (x : Nat) (l : List UInt8) (b : UInt8) : upL x (l ++ [b]) = upB (upL x l) b := by simp [upL]

theorem take_snoc (l : List UInt8) (k : Nat) (h : k < l.length) : l.take (k + 1) = l.take k ++ [l[k]] := by simp

set_option maxRecDepth 100000 in
set_option maxHeartbeats 1000000 in
theorem ssm_any (x : Nat) (s : ByteArray) (w : World) (hx : x < 4294967296) (hs : s.size ≤ 100000000) :
    Calls Tryd.prog 76 #[.int .u32 (x : Int), .string s] w fun e w' => e = .returned (.int .u32 ((upL x s.data.toList : Nat) : Int)) ∧ w = w' := by
  go_enter Tryd.func76, Tryd.ntmps76
  go_wp2
  go_loop [0, 5] (fun v i => ∃ k y : Nat, k ≤ s.size ∧ i = .int .i64 k ∧ v = .int .u32 (y : Int) ∧ Hid (y = upL x (s.data.toList.take k))) (fun _ i => s.size - (intOf i).toNat)
  case atStart => exact ⟨0, x, by omega, rfl, rfl, rfl⟩
  case round =>
    obtain ⟨k, y, hk, rfl, rfl, hy⟩ := hrel
    have hy2 : y < 4294967296 := by rw [hy.out]; exact upL_lt _ _ hx
    by_cases hlt : k < s.size
    · have hb := (s[k]).toNat_lt
      have hxor := xor_u32 y (s[k]).toNat hy2 (by omega)
      obtain ⟨z, hz⟩ : ∃ z : Nat, z = y ^^^ (s[k]).toNat := ⟨_, rfl⟩
      have hz2 : z < 4294967296 := by rw [hz]; exact Nat.xor_lt_two_pow (n := 32) hy2 (by omega)
      have hup : stN 8 z = upL x (s.data.toList.take (k + 1)) := by
        have hk' : k < s.data.toList.length := by simpa using hlt
        rw [take_snoc _ _ hk', upL_snoc, ← hy.out, hz]
        rfl
      rw [← hz] at hxor
      have HUP := hide hup
      clear hup hz
      go_wp2
      go_loop [0, 6] (fun v i => ∃ j c : Nat, j ≤ 8 ∧ i = .int .i64 j ∧ v = .int .u32 (c : Int) ∧ Hid (c = stN j z)) (fun _ i => 8 - (intOf i).toNat)
      case atStart => exact ⟨0, z, by omega, rfl, rfl, rfl⟩
      case round =>
        obtain ⟨j, c, hj, rfl, rfl, hc⟩ := hrel
        by_cases hj8 : j < 8
        · have hc2 : c < 4294967296 := by rw [hc.out]; exact stN_lt _ _ hz2
          have hst : st c = stN (j + 1) z := by rw [hc.out]; rfl
          have HST := hide hst
          clear hst hxor
          by_cases hodd : c % 2 = 1
          · have h1 : (c : Int) % 2 = 1 := by omega
            have h2 := xor_u32 (c / 2) 3558460437 (by omega) (by omega)
            have h3 : st c = c / 2 ^^^ 3558460437 := by unfold st; rw [if_pos hodd]
            simp at h2
            go_wp2
            go_round
            case rel => exact ⟨j + 1, c / 2 ^^^ 3558460437, by omega, by go_num, by simp, (by rw [← h3]; exact HST.out)⟩
            case measure => simp [intOf]; omega
          · have h1 : (c : Int) % 2 = 0 := by omega
            have h3 : st c = c / 2 := by unfold st; rw [if_neg hodd]
            go_wp2
            go_round
            case rel => exact ⟨j + 1, c / 2, by omega, by go_num, by simp, (by rw [← h3]; exact HST.out)⟩
            case measure => simp [intOf]; omega
        · obtain rfl : j = 8 := by omega
          clear hxor
          go_wp2
          go_round
          case rel => exact ⟨k + 1, c, by omega, by go_num, rfl, by rw [← HUP.out]; exact hc.out⟩
          case measure => simp [intOf]; omega
    · have hfin : y = upL x s.data.toList := by rw [hy.out, List.take_of_length_le (by simp; omega)]
      have HF := hide hfin
      clear hfin
      go_wp2
      go_ret
      exact ⟨by rw [HF.out]; rfl, rfl⟩

set_option maxHeartbeats 400000 in
theorem sso_any (s : ByteArray) (w : World) (hs : s.size ≤ 100000000) :
    Calls Tryd.prog 51 #[.string s] w fun e w' => e = .returned (.int .u32 ((upL 4294967295 s.data.toList : Nat) : Int)) ∧ w = w' := by
  obtain ⟨t, ht⟩ : ∃ t : Nat, t = upL 4294967295 s.data.toList := ⟨_, rfl⟩
  have hc := ssm_any 4294967295 s w (by omega) hs
  rw [← ht] at hc ⊢
  go_enter Tryd.func51, Tryd.ntmps51
  go_wp2_with fail
  refine hc.mono ?_
  rintro e w' ⟨rfl, rfl⟩
  have HT := hide ht
  clear ht hc
  go_wp2
  go_ret
  exact ⟨rfl, rfl⟩
end Go.Proofs.YtnfockhbcneegaaDoor
