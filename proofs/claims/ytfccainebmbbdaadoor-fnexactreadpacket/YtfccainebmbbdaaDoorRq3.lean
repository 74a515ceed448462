/-
  spec.RecordOk: its contract.
  spec.l01Var: its contract.
  The text of a record: the plain mathematics; spec.l04Byte.
  The plain mathematics of reading a number out of bytes.
  Reading a record out of bytes: the plain mathematics.
  Reading a record: both ways of asking whether the bytes are a right record's come to the same.
  impl.ReadVar: its contract.
  impl.ReadVar at every text up to 1048576 bytes and every place.
  The developers' reader of fields: oneByte, number: their contracts.
-/
import Derived.Test.YtfccainebmbbdaaDoorRq2
import Derived.Test.YtfccainebmbbdaaDoorRq1
import Derived.Lib.Strings
import Derived.Deep.RegionHeld3
import Derived.Deep.QuietTactic
import Derived.BigQuiet
namespace Go.Proofs.YtfccainebmbbdaaDoor
open Go.RowKit

def recOkB (x : RecD) : Bool := inB x.owner 1 6 && inB x.seq 1 100000 &&
  (if x.kind = 1 then inB x.area 0 2 && x.key == 0 && nearsB x.owner x.near && x.cost == 0 && !x.far
   else if x.kind = 2 then inB x.area 0 2 && inB x.key 1 6 && x.near.length == 0 && inB x.cost 0 60000 && !x.far
   else if x.kind = 3 then x.area == 9 && inB x.key 1 9 && x.near.length == 0 && (inB x.cost 1 1000 || x.cost == 60000)
   else false)

set_option maxRecDepth 100000 in
set_option maxHeartbeats 8000000 in
theorem srecOk_any (v1 : Value) (x : RecD) (w : World) (hl : x.near.length ≤ 1048576) (hv : NearsAt w v1 x.near w.heap.size) :
    Calls Tryd.prog 48 #[.agg (recC x v1)] w fun e w' => e = .returned (.bool (recOkB x)) ∧ Below w.heap.size w w' := by
  obtain ⟨p1, c1, rfl⟩ := hv.shape
  have HN := hide (fun W (h : Below w.heap.size w W) => snear_any (.slice p1 x.near.length c1) x W hl (hv.then h))
  obtain ⟨R, hR⟩ : ∃ R, R = recOkB x := ⟨_, rfl⟩
  rw [← hR]
  obtain ⟨qn, hqn⟩ : ∃ q, q = nearsB x.owner x.near := ⟨_, rfl⟩
  rw [← hqn] at HN
  unfold recOkB at hR
  rw [← hqn] at hR
  obtain ⟨area, kind, owner, key, seq, ns, cost, far⟩ := x
  unfold recC at HN ⊢
  simp only [] at HN hR hl hv ⊢
  have hnew := heap_alloc_new w (.cells #[.int .i64 area, .int .i64 kind, .int .i64 owner, .int .i64 key, .int .i64 seq, .slice p1 ns.length c1, .int .i64 cost, .bool far] 39)
  have B0 : Below w.heap.size w (w.alloc (.cells #[.int .i64 area, .int .i64 kind, .int .i64 owner, .int .i64 key, .int .i64 seq, .slice p1 ns.length c1, .int .i64 cost, .bool far] 39)) := (Below.refl _ _).alloc (Nat.le_refl _) _
  have H1 := hide (in_any owner 1 6)
  have H2 := hide (in_any seq 1 100000)
  obtain ⟨q1, hq1⟩ : ∃ q, q = inB owner 1 6 := ⟨_, rfl⟩
  obtain ⟨q2, hq2⟩ : ∃ q, q = inB seq 1 100000 := ⟨_, rfl⟩
  rw [← hq1] at H1 hR
  rw [← hq2] at H2 hR
  have NEW := hide hnew
  have HR := hide hR
  have HL := hide hl
  clear hnew hR hq1 hq2 hqn hv hl
  go_enter Tryd.func48, Tryd.ntmps48
  go_wp2_with fail
  refine (H1.out _).mono ?_
  rintro e w1 ⟨rfl, rfl⟩
  cases q1
  · go_wp2
    go_ret
    exact ⟨ret_bool (by rw [HR.out]; rfl), B0⟩
  go_wp2_with fail
  refine (H2.out _).mono ?_
  rintro e w1 ⟨rfl, rfl⟩
  cases q2
  · go_wp2
    go_ret
    exact ⟨ret_bool (by rw [HR.out]; rfl), B0⟩
  clear H1 H2
  by_cases hk1 : kind = 1
  · subst hk1
    have HR2 := hide (show R = (inB area 0 2 && key == 0 && qn && cost == 0 && !far) by have := HR.out; simpa using this)
    have H3 := hide (in_any area 0 2)
    obtain ⟨q3, hq3⟩ : ∃ q, q = inB area 0 2 := ⟨_, rfl⟩
    rw [← hq3] at H3 HR2
    clear hq3 HR
    go_wp2_with fail
    refine (H3.out _).mono ?_
    rintro e w1 ⟨rfl, rfl⟩
    cases q3
    · go_wp2
      go_ret
      exact ⟨ret_bool (by rw [HR2.out]; rfl), B0⟩
    by_cases hkey : key = 0
    case neg =>
      have hd : (key == 0) = false := by simpa using hkey
      rw [hd] at HR2
      go_wp2
      go_ret
      exact ⟨ret_bool (by rw [HR2.out]; rfl), B0⟩
    subst hkey
    go_wp2_with fail
    refine (HN.out _ B0).mono ?_
    rintro e w2 ⟨rfl, b2⟩
    have hx2 : w2.heap[w.heap.size]? = some (.cells #[.int .i64 area, .int .i64 1, .int .i64 owner, .int .i64 0, .int .i64 seq, .slice p1 ns.length c1, .int .i64 cost, .bool far] 39) := by rw [b2.block _ (by simp)]; exact NEW.out
    have f6 := cells_at hx2 6
    have f7 := cells_at hx2 7
    simp at f6 f7
    have B2 := B0.trans (b2.mono B0.size)
    clear hx2 b2 NEW B0
    cases qn
    · go_wp2
      go_ret
      exact ⟨ret_bool (by rw [HR2.out]; rfl), B2⟩
    by_cases hco : cost = 0
    case neg =>
      have hd : (cost == 0) = false := by simpa using hco
      rw [hd] at HR2
      go_wp2
      go_ret
      exact ⟨ret_bool (by rw [HR2.out]; rfl), B2⟩
    subst hco
    cases far
    · go_wp2
      go_ret
      exact ⟨ret_bool (by rw [HR2.out]; rfl), B2⟩
    · go_wp2
      go_ret
      exact ⟨ret_bool (by rw [HR2.out]; rfl), B2⟩
  have k1 : (kind == 1) = false := by simpa using hk1
  by_cases hk2 : kind = 2
  · subst hk2
    have HR2 := hide (show R = (inB area 0 2 && inB key 1 6 && ns.length == 0 && inB cost 0 60000 && !far) by have := HR.out; simpa using this)
    have H3 := hide (in_any area 0 2)
    obtain ⟨q3, hq3⟩ : ∃ q, q = inB area 0 2 := ⟨_, rfl⟩
    rw [← hq3] at H3 HR2
    have H4 := hide (in_any key 1 6)
    obtain ⟨q4, hq4⟩ : ∃ q, q = inB key 1 6 := ⟨_, rfl⟩
    rw [← hq4] at H4 HR2
    have H5 := hide (in_any cost 0 60000)
    obtain ⟨q5, hq5⟩ : ∃ q, q = inB cost 0 60000 := ⟨_, rfl⟩
    rw [← hq5] at H5 HR2
    clear hq3 hq4 hq5 HR hk1 k1
    go_wp2_with fail
    refine (H3.out _).mono ?_
    rintro e w1 ⟨rfl, rfl⟩
    cases q3
    · go_wp2
      go_ret
      exact ⟨ret_bool (by rw [HR2.out]; rfl), B0⟩
    go_wp2_with fail
    refine (H4.out _).mono ?_
    rintro e w1 ⟨rfl, rfl⟩
    cases q4
    · go_wp2
      go_ret
      exact ⟨ret_bool (by rw [HR2.out]; rfl), B0⟩
    by_cases hn0 : ns.length = 0
    case neg =>
      have hd : ((ns.length : Int) == 0) = false := by simp; intro h; rw [h] at hn0; exact hn0 rfl
      have hR2 : R = false := by rw [HR2.out, show (ns.length == 0) = false by simpa using hn0]; rfl
      have HR3 := hide hR2
      clear hR2 hn0 HR2
      go_wp2
      go_ret
      exact ⟨ret_bool HR3.out, B0⟩
    have hd : ((ns.length : Int) == 0) = true := by simp; exact List.length_eq_zero_iff.1 hn0
    have HR3 := hide (show R = (q5 && !far) by have := HR2.out; rw [show (ns.length == 0) = true by simpa using hn0] at this; simpa using this)
    clear hn0 HR2
    go_wp2_with fail
    refine (H5.out _).mono ?_
    rintro e w1 ⟨rfl, rfl⟩
    cases q5
    · go_wp2
      go_ret
      exact ⟨ret_bool (by rw [HR3.out]; rfl), B0⟩
    cases far
    · go_wp2
      go_ret
      exact ⟨ret_bool (by rw [HR3.out]; rfl), B0⟩
    · go_wp2
      go_ret
      exact ⟨ret_bool (by rw [HR3.out]; rfl), B0⟩
  have k2 : (kind == 2) = false := by simpa using hk2
  by_cases hk3 : kind = 3
  · subst hk3
    have HR2 := hide (show R = (area == 9 && inB key 1 9 && ns.length == 0 && (inB cost 1 1000 || cost == 60000)) by have := HR.out; simpa using this)
    have H4 := hide (in_any key 1 9)
    obtain ⟨q4, hq4⟩ : ∃ q, q = inB key 1 9 := ⟨_, rfl⟩
    rw [← hq4] at H4 HR2
    have H5 := hide (in_any cost 1 1000)
    obtain ⟨q5, hq5⟩ : ∃ q, q = inB cost 1 1000 := ⟨_, rfl⟩
    rw [← hq5] at H5 HR2
    clear hq4 hq5 HR hk1 k1 hk2 k2
    by_cases ha : area = 9
    case neg =>
      have hd : (area == 9) = false := by simpa using ha
      rw [hd] at HR2
      go_wp2
      go_ret
      exact ⟨ret_bool (by rw [HR2.out]; rfl), B0⟩
    subst ha
    go_wp2_with fail
    refine (H4.out _).mono ?_
    rintro e w1 ⟨rfl, rfl⟩
    cases q4
    · go_wp2
      go_ret
      exact ⟨ret_bool (by rw [HR2.out]; rfl), B0⟩
    by_cases hn0 : ns.length = 0
    case neg =>
      have hd : ((ns.length : Int) == 0) = false := by simp; intro h; rw [h] at hn0; exact hn0 rfl
      have hR2 : R = false := by rw [HR2.out, show (ns.length == 0) = false by simpa using hn0]; rfl
      have HR3 := hide hR2
      clear hR2 hn0 HR2
      go_wp2
      go_ret
      exact ⟨ret_bool HR3.out, B0⟩
    have hd : ((ns.length : Int) == 0) = true := by simp; exact List.length_eq_zero_iff.1 hn0
    have HR3 := hide (show R = (q5 || cost == 60000) by have := HR2.out; rw [show (ns.length == 0) = true by simpa using hn0] at this; simpa using this)
    clear hn0 HR2
    go_wp2_with fail
    refine (H5.out _).mono ?_
    rintro e w1 ⟨rfl, rfl⟩
    cases q5
    · go_wp2
      go_ret
      exact ⟨ret_bool (by rw [HR3.out]; rfl), B0⟩
    · go_wp2
      go_ret
      exact ⟨ret_bool (by rw [HR3.out]; rfl), B0⟩
  have k3 : (kind == 3) = false := by simpa using hk3
  have hR2 : R = false := by rw [HR.out, if_neg hk1, if_neg hk2, if_neg hk3]; rfl
  have HR2 := hide hR2
  clear hR2 HR hk1 hk2 hk3
  go_wp2
  go_ret
  exact ⟨ret_bool HR2.out, B0⟩
end Go.Proofs.YtfccainebmbbdaaDoor
namespace Go.Proofs.YtfccainebmbbdaaDoor
open Go.RowKit

set_option maxHeartbeats 400000 in
theorem var_any (n : Int) (w : World) (h0 : 0 ≤ n) (h1 : n ≤ 1000000000) :
    Calls Tryd.prog 30 #[.int .i64 n] w fun e w' => e = .returned (.string (bs (varL n.toNat))) ∧ Below w.heap.size w w' := by
  go_enter Tryd.func30, Tryd.ntmps30
  go_wp2
  go_loopw [3, 0] (fun v i wr => ∃ (m : Nat) (pre : List UInt8), pre.length + m ≤ 1000000000 ∧ i = .int .i64 m ∧ Hid (varL n.toNat = pre ++ varL m) ∧ wr.ownsRow w.heap.size 5 1 v pre.length (cellsOf pre) ∧ Below w.heap.size w wr)
    (fun _ i _ => (intOf i).toNat)
  case atStart =>
    refine ⟨n.toNat, [], by simp; omega, by simp; omega, rfl, ?_, (Below.refl _ _).alloc (Nat.le_refl _) _⟩
    exact World.ownsRow_lit _ _ 0 (by simp) (by decide) rfl
  case round =>
    obtain ⟨m, pre, hm, rfl, hv, hown, hnx⟩ := hrel
    have hsz := hnx.size
    by_cases hlt : 127 < m
    · go_wp2_with (first
        | (at_builtin; refine wpList_append_bytes _ rfl _ _ 57 rfl w.heap.size 5 Tryd.underlying57 Tryd.info5 _ pre [hiB m] rfl (hown.alloc _) ⟨wr.heap.size, 0, none⟩ 1 rfl (news_one _ _ _ (byte_hi m)) (by simp; omega) (by simp; omega) ?_))
      intro v' w1 l' hl' hown' hgrow
      have hb := below_append _ hnx hown (Nat.le_refl _) hsz hgrow
      clear hgrow hnx hown
      go_wp2
      go_roundw
      case rel => exact ⟨m / 128, l', by rw [hl'.out]; simp; omega, by go_num, by rw [hv.out, varL_big hlt, hl'.out]; simp [Hid], hown', hb⟩
      case measure => simp [intOf]; omega
    · go_wp2_with (first
        | (at_builtin; refine wpList_append_bytes _ rfl _ _ 57 rfl w.heap.size 5 Tryd.underlying57 Tryd.info5 _ pre [loB m] rfl (hown.alloc _) ⟨wr.heap.size, 0, none⟩ 1 rfl (news_one _ _ _ (byte_lo m (by omega))) (by simp; omega) (by simp; omega) ?_))
      intro v' w1 l' hl' hown' hgrow
      have hb := below_append _ hnx hown (Nat.le_refl _) hsz hgrow
      clear hgrow hnx hown
      have hstr := run_str_own (P := Tryd.prog) 57 9 5 Tryd.underlying57 Tryd.underlying5 Tryd.underlying9 hown'
      go_wp2
      go_ret
      exact ⟨by rw [hv.out, varL_small (by omega), ← hl'.out]; rfl, hb⟩
end Go.Proofs.YtfccainebmbbdaaDoor
namespace Go.Proofs.YtfccainebmbbdaaDoor
open Go.RowKit

def byB (n : Int) : UInt8 := UInt8.ofNat n.toNat

def nearL (n : Nr) : List UInt8 := byB n.to :: varL n.c.toNat

def nearsL (ns : List Nr) : List UInt8 := ns.flatMap nearL

def headL (x : RecD) : List UInt8 := [byB x.area, byB x.kind, byB x.owner, byB x.key] ++ varL x.seq.toNat ++ varL x.near.length

def farL (f : Bool) : List UInt8 := if f then [1] else [0]

def recL (x : RecD) : List UInt8 := headL x ++ nearsL x.near ++ varL x.cost.toNat ++ farL x.far

def textV (x : RecD) : Value := if recOkB x = true then .tuple #[.string (bs (recL x)), .bool true] else .tuple #[.string (bs []), .bool false]

theorem textV_two (x : RecD) : ∃ (s : ByteArray) (b : Bool), textV x = .tuple #[.string s, .bool b] := by
  unfold textV; split <;> exact ⟨_, _, rfl⟩

theorem byB_val (n : Int) (h0 : 0 ≤ n) (h1 : n ≤ 255) : n = ((byB n).toNat : Int) := by simp [byB]; omega

theorem bs_add (a b : List UInt8) : bs a ++ bs b = bs (a ++ b) := by
  apply ByteArray.ext
  simp [bs]

theorem bs_size (l : List UInt8) : (bs l).size = l.length := by simp [bs, ByteArray.size]

theorem varL_len (n : Nat) : (varL n).length ≤ n + 1 := by
  induction n using Nat.strongRecOn with
  | _ n ih =>
    by_cases h : 127 < n
    · rw [varL_big h]
      have := ih (n / 128) (by omega)
      simp only [List.length_cons]
      omega
    · rw [varL_small (by omega)]; simp

theorem inB_iff {x a b : Int} : inB x a b = true ↔ a ≤ x ∧ x ≤ b := by simp [inB]

structure RecBounds (x : RecD) : Prop where
  area : 0 ≤ x.area ∧ x.area ≤ 9
  kind : 1 ≤ x.kind ∧ x.kind ≤ 3
  owner : 1 ≤ x.owner ∧ x.owner ≤ 6
  key : 0 ≤ x.key ∧ x.key ≤ 9
  seq : 1 ≤ x.seq ∧ x.seq ≤ 100000
  cost : 0 ≤ x.cost ∧ x.cost ≤ 60000
  near : ∀ n ∈ x.near, (1 ≤ n.to ∧ n.to ≤ 6) ∧ (1 ≤ n.c ∧ n.c ≤ 1000)

theorem near_bounds {o : Int} {ns : List Nr} (h : nearsB o ns = true) : ∀ n ∈ ns, (1 ≤ n.to ∧ n.to ≤ 6) ∧ (1 ≤ n.c ∧ n.c ≤ 1000) := by
  intro n hn
  unfold nearsB at h
  rw [Bool.and_eq_true] at h
  obtain ⟨k, hk, e⟩ := List.getElem_of_mem hn
  have h1 := List.all_eq_true.1 h.1 k (List.mem_range.2 hk)
  rw [okAt_eq (List.getElem?_eq_getElem hk), e] at h1
  unfold nearOkB at h1
  simp only [Bool.and_eq_true] at h1
  exact ⟨inB_iff.1 h1.1.1, inB_iff.1 h1.2⟩

theorem recOk_bounds {x : RecD} (h : recOkB x = true) : RecBounds x := by
  unfold recOkB at h
  simp only [Bool.and_eq_true] at h
  obtain ⟨⟨h1, h2⟩, h3⟩ := h
  have ho := inB_iff.1 h1
  have hs := inB_iff.1 h2
  split at h3
  · rename_i hk
    simp only [Bool.and_eq_true, beq_iff_eq] at h3
    obtain ⟨⟨⟨⟨ha, hy⟩, hn⟩, hc⟩, _⟩ := h3
    have ha := inB_iff.1 ha
    exact ⟨by omega, by omega, ho, by omega, hs, by omega, near_bounds hn⟩
  · split at h3
    · rename_i hk
      simp only [Bool.and_eq_true, beq_iff_eq] at h3
      obtain ⟨⟨⟨⟨ha, hy⟩, hn⟩, hc⟩, _⟩ := h3
      have ha := inB_iff.1 ha
      have hy := inB_iff.1 hy
      have hc := inB_iff.1 hc
      have : x.near = [] := List.length_eq_zero_iff.1 hn
      exact ⟨by omega, by omega, ho, by omega, hs, by omega, by rw [this]; simp⟩
    · split at h3
      · rename_i hk
        simp only [Bool.and_eq_true, Bool.or_eq_true, beq_iff_eq] at h3
        obtain ⟨⟨⟨ha, hy⟩, hn⟩, hc⟩ := h3
        have hy := inB_iff.1 hy
        have : x.near = [] := List.length_eq_zero_iff.1 hn
        have hc2 : 0 ≤ x.cost ∧ x.cost ≤ 60000 := by
          rcases hc with hc | hc
          · have := inB_iff.1 hc; omega
          · omega
        exact ⟨by omega, by omega, ho, by omega, hs, hc2, by rw [this]; simp⟩
      · cases h3

theorem nearsL_succ {ns : List Nr} {k : Nat} {l : Nr} (h : ns[k]? = some l) : nearsL (ns.take (k + 1)) = nearsL (ns.take k) ++ nearL l := by
  obtain ⟨hk, e⟩ := List.getElem?_eq_some_iff.1 h
  unfold nearsL
  rw [List.take_succ_eq_append_getElem hk, List.flatMap_append, e]
  simp

theorem nearL_len {n : Nr} (h : 1 ≤ n.c ∧ n.c ≤ 1000) : (nearL n).length ≤ 1002 := by
  have := varL_len n.c.toNat
  simp only [nearL, List.length_cons]
  omega

theorem nearsL_len {ns : List Nr} (h : ∀ n ∈ ns, (1 ≤ n.to ∧ n.to ≤ 6) ∧ (1 ≤ n.c ∧ n.c ≤ 1000)) : ∀ k, (nearsL (ns.take k)).length ≤ 1002 * k := by
  intro k
  induction k with
  | zero => simp [nearsL]
  | succ k ih =>
    by_cases hk : k < ns.length
    · rw [nearsL_succ (List.getElem?_eq_getElem hk), List.length_append]
      have := nearL_len (h _ (List.getElem_mem hk)).2
      omega
    · have e : ns.take (k + 1) = ns.take k := by rw [List.take_of_length_le (by omega), List.take_of_length_le (by omega)]
      rw [e]; omega

set_option maxRecDepth 100000 in
set_option maxHeartbeats 400000 in
theorem sbyte_any (n : Int) (w : World) (h0 : 0 ≤ n) (h1 : n ≤ 255) : Calls Tryd.prog 29 #[.int .i64 n] w fun e w' => e = .returned (.string (bs [byB n])) ∧ Below w.heap.size w w' := by
  have hw : IntKind.u8.wrap n = n := by rw [IntKind.wrap_u8]; omega
  have hown : (w.alloc (.cells #[.int .u8 n] 5)).ownsRow w.heap.size 5 1 (.slice (some ⟨w.heap.size, 0, none⟩) 1 1) [byB n].length (cellsOf [byB n]) := by
    have h := World.ownsRow_lit (base := w.heap.size) (e := 5) (size := 1) w #[.int .u8 n] 1 (by simp) (by decide) rfl
    rw [← one_byte n (byB n) (byB_val n h0 h1)]
    exact h
  have hstr := run_str_own (P := Tryd.prog) 57 9 5 Tryd.underlying57 Tryd.underlying5 Tryd.underlying9 hown
  clear hown
  go_enter Tryd.func29, Tryd.ntmps29
  go_wp2
  go_ret
  exact ⟨rfl, (Below.refl _ _).alloc (Nat.le_refl _) _⟩
end Go.Proofs.YtfccainebmbbdaaDoor
namespace Go.Proofs.YtfccainebmbbdaaDoor
open Go.RowKit

def valL : List UInt8 → Nat
  | [] => 0
  | b :: r => b.toNat % 128 + 128 * valL r

def pw (k : Nat) : Nat := 128 ^ k

theorem valL_snoc : ∀ (l : List UInt8) (c : UInt8), valL (l ++ [c]) = valL l + c.toNat % 128 * pw l.length
  | [], c => by simp [valL, pw]
  | b :: r, c => by
    have ih := valL_snoc r c
    simp only [List.cons_append, valL, ih, List.length_cons, pw, Nat.pow_succ, Nat.mul_add]
    rw [← Nat.mul_assoc, Nat.mul_comm 128 (c.toNat % 128), Nat.mul_assoc, Nat.mul_comm 128 (128 ^ r.length)]
    omega

theorem valL_lt : ∀ l : List UInt8, valL l < pw l.length
  | [] => by simp [valL, pw]
  | b :: r => by
    have ih := valL_lt r
    simp only [valL, List.length_cons, pw, Nat.pow_succ] at *
    omega

/-- the bytes are those of their number, unless the last of several is nought -/
theorem var_val : ∀ (pre : List UInt8) (c : UInt8), (∀ b ∈ pre, 127 < b.toNat) → c.toNat ≤ 127 → (varL (valL (pre ++ [c])) = pre ++ [c] ↔ ¬ (c.toNat = 0 ∧ pre ≠ []))
  | [], c, _, hc => by
    have e : valL ([] ++ [c]) = c.toNat := by simp [valL]; omega
    rw [e, varL_small hc]
    simp [loB]
  | b :: r, c, hp, hc => by
    have hb : 127 < b.toNat := hp b (by simp)
    have hb2 := b.toNat_lt
    have ih := var_val r c (fun x hx => hp x (by simp [hx])) hc
    have e : valL (b :: r ++ [c]) = b.toNat % 128 + 128 * valL (r ++ [c]) := by simp [valL]
    rw [e]
    by_cases hz : valL (r ++ [c]) = 0
    · rw [hz, varL_small (by omega)]
      have hc0 : c.toNat = 0 := by
        rw [valL_snoc] at hz
        have hpw : 0 < pw r.length := by simp [pw, Nat.pow_pos]
        have : c.toNat % 128 * pw r.length = 0 := by omega
        rcases Nat.mul_eq_zero.1 this with h | h <;> omega
      constructor
      · intro h
        have := congrArg List.length h
        simp at this
      · intro h
        exact absurd ⟨hc0, by simp⟩ h
    · rw [varL_big (by omega)]
      have e1 : hiB (b.toNat % 128 + 128 * valL (r ++ [c])) = b := by
        apply UInt8.toNat_inj.1
        simp [hiB]
        omega
      have e2 : (b.toNat % 128 + 128 * valL (r ++ [c])) / 128 = valL (r ++ [c]) := by omega
      rw [e1, e2, List.cons_append, List.cons_inj_right, ih]
      constructor
      · intro h ⟨h1, _⟩
        apply h
        refine ⟨h1, fun hr => ?_⟩
        subst hr
        simp [valL] at hz
        omega
      · intro h ⟨h1, _⟩
        exact h ⟨h1, by simp⟩

def rdA : Nat → List UInt8 → List UInt8 → Option (Nat × Nat)
  | 0, _, _ => none
  | _ + 1, _, [] => none
  | f + 1, pre, c :: r => if 127 < c.toNat then rdA f (pre ++ [c]) r else if (c.toNat = 0 ∧ pre ≠ []) ∨ 1000000000 < valL (pre ++ [c]) then none else some (valL (pre ++ [c]), pre.length + 1)

theorem rdA_end (f : Nat) (pre : List UInt8) : rdA f pre [] = none := by cases f <;> rfl
theorem rdA_more (f : Nat) (pre : List UInt8) (c : UInt8) (r : List UInt8) (h : 127 < c.toNat) : rdA (f + 1) pre (c :: r) = rdA f (pre ++ [c]) r := by simp [rdA, h]
theorem rdA_no (f : Nat) (pre : List UInt8) (c : UInt8) (r : List UInt8) (h : c.toNat ≤ 127) (h2 : (c.toNat = 0 ∧ pre ≠ []) ∨ 1000000000 < valL (pre ++ [c])) : rdA (f + 1) pre (c :: r) = none := by
  have : ¬ 127 < c.toNat := by omega
  simp only [rdA, if_neg this, if_pos h2]
theorem rdA_yes (f : Nat) (pre : List UInt8) (c : UInt8) (r : List UInt8) (h : c.toNat ≤ 127) (h2 : ¬ (c.toNat = 0 ∧ pre ≠ [])) (h3 : valL (pre ++ [c]) ≤ 1000000000) : rdA (f + 1) pre (c :: r) = some (valL (pre ++ [c]), pre.length + 1) := by
  have h4 : ¬ 127 < c.toNat := by omega
  have h5 : ¬ ((c.toNat = 0 ∧ pre ≠ []) ∨ 1000000000 < valL (pre ++ [c])) := by rintro (h | h); exact h2 h; omega
  simp only [rdA, if_neg h4, if_neg h5]

def rdO (s : ByteArray) (p : Nat) : Option (Nat × Nat) := rdA 5 [] (s.data.toList.drop p)
def rdT (p : Nat) : Option (Nat × Nat) → Value
  | some (v, k) => .tuple #[.int .i64 v, .int .i64 ((p + k : Nat) : Int), .bool true]
  | none => .tuple #[.int .i64 0, .int .i64 0, .bool false]
def rdV (s : ByteArray) (x : Int) : Value := if 0 ≤ x ∧ x ≤ (s.size : Int) then rdT x.toNat (rdO s x.toNat) else rdT 0 none

/-- what holds at the head of a round: q: the place; pre: the bytes since p -/
structure Rd (s : ByteArray) (p q : Nat) (pre : List UInt8) (m sc : Nat) : Prop where
  len : pre.length = q - p
  le : p ≤ q
  five : q ≤ p + 5
  size : q ≤ s.size
  val : m = valL pre
  scale : sc = pw (q - p)
  bytes : pre = (s.data.toList.drop p).take (q - p)
  high : ∀ b ∈ pre, 127 < b.toNat
  ans : rdO s p = rdA (p + 5 - q) pre (s.data.toList.drop q)

theorem Rd.first (s : ByteArray) (p : Nat) (h : p ≤ s.size) : Rd s p p [] 0 1 :=
  ⟨by simp, Nat.le_refl _, by omega, h, rfl, by simp [pw], by simp, by simp, by simp [rdO]⟩

theorem drop_byte (s : ByteArray) (q : Nat) (h : q < s.size) : s.data.toList.drop q = s[q] :: s.data.toList.drop (q + 1) := by
  rw [List.drop_eq_getElem_cons (by simpa using h)]
  rfl

theorem take_byte (s : ByteArray) (p q : Nat) (hpq : p ≤ q) (h : q < s.size) : (s.data.toList.drop p).take (q + 1 - p) = (s.data.toList.drop p).take (q - p) ++ [s[q]] := by
  have e : q + 1 - p = (q - p) + 1 := by omega
  rw [e, List.take_succ_eq_append_getElem (by simp; omega)]
  have e2 : (s.data.toList.drop p)[q - p]'(by simp; omega) = s[q] := by
    have e3 : p + (q - p) = q := by omega
    simp only [List.getElem_drop, e3]
    rfl
  rw [e2]

theorem Rd.lt {s : ByteArray} {p q : Nat} {pre : List UInt8} {m sc : Nat} (h : Rd s p q pre m sc) : m < sc := by
  rw [h.val, h.scale, ← h.len]; exact valL_lt pre

theorem Rd.cases {s : ByteArray} {p q : Nat} {pre : List UInt8} {m sc : Nat} (h : Rd s p q pre m sc) :
    (q = p ∧ sc = 1) ∨ (q = p + 1 ∧ sc = 128) ∨ (q = p + 2 ∧ sc = 16384) ∨ (q = p + 3 ∧ sc = 2097152) ∨ (q = p + 4 ∧ sc = 268435456) ∨ (q = p + 5 ∧ sc = 34359738368) := by
  have h1 := h.le
  have h2 := h.five
  have h3 := h.scale
  have : q = p ∨ q = p + 1 ∨ q = p + 2 ∨ q = p + 3 ∨ q = p + 4 ∨ q = p + 5 := by omega
  rcases this with e | e | e | e | e | e <;> subst e <;> simp [pw] at h3 <;> simp [h3]

theorem Rd.value {s : ByteArray} {p q : Nat} {pre : List UInt8} {m sc : Nat} (h : Rd s p q pre m sc) (hq : q < s.size) : m + s[q].toNat % 128 * sc = valL (pre ++ [s[q]]) := by
  rw [valL_snoc, h.val, h.scale, h.len]

theorem Rd.next {s : ByteArray} {p q : Nat} {pre : List UInt8} {m sc : Nat} (h : Rd s p q pre m sc) (hq : q < s.size) (h5 : q < p + 5) (hc : 127 < s[q].toNat) :
    Rd s p (q + 1) (pre ++ [s[q]]) (m + s[q].toNat % 128 * sc) (sc * 128) := by
  have hle := h.le
  refine ⟨by simp [h.len]; omega, by omega, by omega, by omega, h.value hq, ?_, ?_, ?_, ?_⟩
  · rw [h.scale, show q + 1 - p = (q - p) + 1 by omega]; simp [pw, Nat.pow_succ]
  · rw [take_byte s p q hle hq, ← h.bytes]
  · intro b hb
    rcases List.mem_append.1 hb with hb | hb
    · exact h.high b hb
    · simp at hb; rw [hb]; exact hc
  · rw [h.ans, drop_byte s q hq, show p + 5 - q = (p + 5 - (q + 1)) + 1 by omega, rdA_more _ _ _ _ hc]

theorem Rd.no_byte {s : ByteArray} {p q : Nat} {pre : List UInt8} {m sc : Nat} (h : Rd s p q pre m sc) (hq : s.size ≤ q ∨ p + 5 ≤ q) : rdO s p = none := by
  rw [h.ans]
  rcases hq with hq | hq
  · rw [List.drop_eq_nil_of_le (by simpa using hq), rdA_end]
  · rw [show p + 5 - q = 0 by omega]; rfl

theorem Rd.no {s : ByteArray} {p q : Nat} {pre : List UInt8} {m sc : Nat} (h : Rd s p q pre m sc) (hq : q < s.size) (h5 : q < p + 5) (hc : s[q].toNat ≤ 127)
    (hn : (s[q].toNat = 0 ∧ p < q) ∨ 1000000000 < m + s[q].toNat % 128 * sc) : rdO s p = none := by
  have hlen := h.len
  rw [h.ans, drop_byte s q hq, show p + 5 - q = (p + 5 - (q + 1)) + 1 by omega, rdA_no _ _ _ _ hc]
  rcases hn with ⟨h1, h2⟩ | h1
  · exact .inl ⟨h1, fun e => by subst e; simp at hlen; omega⟩
  · exact .inr (by rw [← h.value hq]; exact h1)

theorem Rd.yes {s : ByteArray} {p q : Nat} {pre : List UInt8} {m sc : Nat} (h : Rd s p q pre m sc) (hq : q < s.size) (h5 : q < p + 5) (hc : s[q].toNat ≤ 127)
    (hn : ¬ (s[q].toNat = 0 ∧ p < q)) (hm : m + s[q].toNat % 128 * sc ≤ 1000000000) : rdO s p = some (m + s[q].toNat % 128 * sc, q - p + 1) := by
  have hlen := h.len
  have hle := h.le
  rw [h.ans, drop_byte s q hq, show p + 5 - q = (p + 5 - (q + 1)) + 1 by omega, rdA_yes _ _ _ _ hc, ← h.value hq, hlen]
  · rintro ⟨h1, h2⟩
    apply hn
    refine ⟨h1, ?_⟩
    have := List.length_pos_iff.2 h2
    omega
  · rw [← h.value hq]; exact hm

theorem Rd.next' {s : ByteArray} {p q : Nat} {pre : List UInt8} {m sc c : Nat} (h : Rd s p q pre m sc) (hq : q < s.size) (hc : c = s[q].toNat) (h5 : q < p + 5) (hb : 127 < c) : Rd s p (q + 1) (pre ++ [s[q]]) (m + c % 128 * sc) (sc * 128) := by
  subst hc; exact h.next hq h5 hb
theorem Rd.no' {s : ByteArray} {p q : Nat} {pre : List UInt8} {m sc c : Nat} (h : Rd s p q pre m sc) (hq : q < s.size) (hc : c = s[q].toNat) (h5 : q < p + 5) (hb : c ≤ 127)
    (hn : (c = 0 ∧ p < q) ∨ 1000000000 < m + c % 128 * sc) : rdO s p = none := by
  subst hc; exact h.no hq h5 hb hn
theorem Rd.yes' {s : ByteArray} {p q : Nat} {pre : List UInt8} {m sc c : Nat} (h : Rd s p q pre m sc) (hq : q < s.size) (hc : c = s[q].toNat) (h5 : q < p + 5) (hb : c ≤ 127)
    (hn : ¬ (c = 0 ∧ p < q)) (hm : m + c % 128 * sc ≤ 1000000000) : rdO s p = some (m + c % 128 * sc, q - p + 1) := by
  subst hc; exact h.yes hq h5 hb hn hm

theorem bs_toList (l : List UInt8) : (bs l).toList = l := by simp [bs]

theorem Rd.cmp {s t : ByteArray} {p q : Nat} {pre : List UInt8} {m sc c N : Nat} (h : Rd s p q pre m sc) (hq : q < s.size) (hc : c = s[q].toNat) (hb : c ≤ 127) (ht : t = s.extract p (q + 1)) (hN : N = m + c % 128 * sc) :
    ((bs (varL N)).toList == t.toList) = !(decide (c = 0 ∧ p < q)) := by
  have e1 : t.toList = pre ++ [s[q]] := by
    rw [ht, ByteArray.toList_eq, Go.Lib.extract_data, take_byte s p q h.le hq, ← h.bytes]
  have e2 := var_val pre s[q] h.high (by omega)
  have e3 : N = valL (pre ++ [s[q]]) := by rw [hN, hc, h.value hq]
  have hlen := h.len
  have hle := h.le
  rw [bs_toList, e1, e3]
  have e4 : (pre ≠ []) ↔ p < q := by
    rw [← List.length_pos_iff, hlen]; omega
  rw [e4, ← hc] at e2
  by_cases hx : c = 0 ∧ p < q
  · have : ¬ varL (valL (pre ++ [s[q]])) = pre ++ [s[q]] := fun h => (e2.1 h) hx
    simp [this, hx]
  · have : varL (valL (pre ++ [s[q]])) = pre ++ [s[q]] := e2.2 hx
    rw [this]
    simp [hx]

theorem Rd.cmp_no {s t : ByteArray} {p q : Nat} {pre : List UInt8} {m sc c N : Nat} (h : Rd s p q pre m sc) (hq : q < s.size) (hc : c = s[q].toNat) (h5 : q < p + 5) (hb : c ≤ 127) (ht : t = s.extract p (q + 1)) (hN : N = m + c % 128 * sc)
    (hx : (!((bs (varL N)).toList == t.toList)) = true) : rdO s p = none := by
  rw [h.cmp hq hc hb ht hN] at hx
  exact h.no' hq hc h5 hb (.inl (by simpa using hx))
theorem Rd.cmp_yes {s t : ByteArray} {p q : Nat} {pre : List UInt8} {m sc c N : Nat} (h : Rd s p q pre m sc) (hq : q < s.size) (hc : c = s[q].toNat) (h5 : q < p + 5) (hb : c ≤ 127) (ht : t = s.extract p (q + 1)) (hN : N = m + c % 128 * sc)
    (hm : m + c % 128 * sc ≤ 1000000000) (hx : (!((bs (varL N)).toList == t.toList)) = false) : rdO s p = some (m + c % 128 * sc, q - p + 1) := by
  rw [h.cmp hq hc hb ht hN] at hx
  exact h.yes' hq hc h5 hb (by simpa using hx) hm

theorem rdV_out (s : ByteArray) (x : Int) (h : x < 0 ∨ (s.size : Int) < x) : rdV s x = .tuple #[.int .i64 0, .int .i64 0, .bool false] := by
  unfold rdV; rw [if_neg (by omega)]; rfl
theorem rdV_in (s : ByteArray) (p : Nat) (h : p ≤ s.size) : rdV s (p : Int) = rdT p (rdO s p) := by
  unfold rdV; rw [if_pos (by omega)]; rfl
theorem ret_no {s : ByteArray} {p : Nat} (h : rdO s p = none) : Ending.returned (.tuple #[.int .i64 0, .int .i64 0, .bool false]) = .returned (rdT p (rdO s p)) := by rw [h]; rfl
theorem ret_yes {s : ByteArray} {p v k : Nat} {a b : Int} (h : rdO s p = some (v, k)) (ha : a = (v : Int)) (hb : b = ((p + k : Nat) : Int)) : Ending.returned (.tuple #[.int .i64 a, .int .i64 b, .bool true]) = .returned (rdT p (rdO s p)) := by
  rw [h, ha, hb]; rfl
end Go.Proofs.YtfccainebmbbdaaDoor
namespace Go.Proofs.YtfccainebmbbdaaDoor
open Go.RowKit

structure Rd3 where
  v : Int
  p : Nat
  b : Bool

structure RdL where
  l : List Nr
  p : Nat
  b : Bool

def oneR (s : ByteArray) (p : Nat) (b : Bool) : Rd3 := if b then ⟨0, p, true⟩ else if h : p < s.size then ⟨(s[p].toNat : Int), p + 1, false⟩ else ⟨0, p, true⟩

def varR (s : ByteArray) (p : Nat) (b : Bool) : Rd3 := if b then ⟨0, p, true⟩ else match rdO s p with
  | some (v, k) => ⟨(v : Int), p + k, false⟩
  | none => ⟨0, p, true⟩

def nearStep (s : ByteArray) (x : RdL) : RdL := if x.b then x else ⟨x.l ++ [⟨(oneR s x.p false).v, (varR s (oneR s x.p false).p (oneR s x.p false).b).v⟩], (varR s (oneR s x.p false).p (oneR s x.p false).b).p, (varR s (oneR s x.p false).p (oneR s x.p false).b).b⟩

def nearA (s : ByteArray) (p : Nat) (b : Bool) : Nat → RdL
  | 0 => ⟨[], p, b⟩
  | k + 1 => nearStep s (nearA s p b k)

/-- p bytes have been read: they are l -/
def Got (s : ByteArray) (p : Nat) (l : List UInt8) : Prop := p ≤ s.size ∧ s.data.toList.take p = l

theorem rdA_bytes : ∀ (f : Nat) (pre rest : List UInt8) (v k : Nat), (∀ b ∈ pre, 127 < b.toNat) → rdA f pre rest = some (v, k) → v ≤ 1000000000 ∧ pre.length < k ∧ k ≤ pre.length + rest.length ∧ varL v = (pre ++ rest).take k
  | 0, _, _, _, _, _, h => by simp [rdA] at h
  | f + 1, pre, [], v, k, _, h => by simp [rdA] at h
  | f + 1, pre, c :: r, v, k, hp, h => by
    by_cases hc : 127 < c.toNat
    · rw [rdA_more _ _ _ _ hc] at h
      have ih := rdA_bytes f (pre ++ [c]) r v k (fun b hb => by
        rcases List.mem_append.1 hb with hb | hb
        · exact hp b hb
        · simp at hb; rw [hb]; exact hc) h
      simp only [List.length_append, List.length_cons, List.length_nil, List.append_assoc, List.cons_append, List.nil_append] at ih ⊢
      exact ⟨ih.1, by omega, by omega, ih.2.2.2⟩
    · by_cases h2 : (c.toNat = 0 ∧ pre ≠ []) ∨ 1000000000 < valL (pre ++ [c])
      · rw [rdA_no _ _ _ _ (by omega) h2] at h; cases h
      · have h3 : ¬ (c.toNat = 0 ∧ pre ≠ []) := fun e => h2 (.inl e)
        have h4 : valL (pre ++ [c]) ≤ 1000000000 := by
          rcases Nat.lt_or_ge 1000000000 (valL (pre ++ [c])) with e | e
          · exact absurd (.inr e) h2
          · exact e
        rw [rdA_yes _ _ _ _ (by omega) h3 h4] at h
        simp only [Option.some.injEq, Prod.mk.injEq] at h
        obtain ⟨rfl, rfl⟩ := h
        refine ⟨h4, by omega, by simp, ?_⟩
        rw [(var_val pre c hp (by omega)).2 h3]
        rw [List.take_append, List.take_of_length_le (by omega)]
        simp

theorem rdO_bytes {s : ByteArray} {p v k : Nat} (hp : p ≤ s.size) (h : rdO s p = some (v, k)) : v ≤ 1000000000 ∧ 0 < k ∧ p + k ≤ s.size ∧ varL v = (s.data.toList.drop p).take k := by
  have h1 := rdA_bytes 5 [] (s.data.toList.drop p) v k (by simp) h
  simp only [List.length_nil, List.nil_append, List.length_drop, Nat.zero_add] at h1
  have hsz : s.data.toList.length = s.size := by simp
  exact ⟨h1.1, h1.2.1, by omega, h1.2.2.2⟩

theorem oneR_le {s : ByteArray} {p : Nat} {b : Bool} (hp : p ≤ s.size) : (oneR s p b).p ≤ s.size := by
  unfold oneR
  split
  · exact hp
  · split
    · show p + 1 ≤ s.size; omega
    · exact hp

theorem oneR_range (s : ByteArray) (p : Nat) (b : Bool) : 0 ≤ (oneR s p b).v ∧ (oneR s p b).v ≤ 255 := by
  unfold oneR
  split
  · simp
  · split
    · rename_i h
      have := s[p].toNat_lt
      simp only []
      omega
    · simp

theorem varR_le {s : ByteArray} {p : Nat} {b : Bool} (hp : p ≤ s.size) : (varR s p b).p ≤ s.size := by
  unfold varR
  split
  · exact hp
  · cases h : rdO s p with
    | none => exact hp
    | some x => exact (rdO_bytes hp h).2.2.1

theorem varR_range {s : ByteArray} {p : Nat} {b : Bool} (hp : p ≤ s.size) : 0 ≤ (varR s p b).v ∧ (varR s p b).v ≤ 1000000000 := by
  unfold varR
  split
  · simp
  · cases h : rdO s p with
    | none => simp
    | some x =>
      have := (rdO_bytes hp h).1
      simp only []
      omega

theorem oneR_bad (s : ByteArray) (p : Nat) : (oneR s p true) = ⟨0, p, true⟩ := by simp [oneR]

theorem varR_bad (s : ByteArray) (p : Nat) : (varR s p true) = ⟨0, p, true⟩ := by simp [varR]

theorem oneR_got {s : ByteArray} {p : Nat} {b : Bool} {l : List UInt8} (h : (oneR s p b).b = false) (g : b = false → Got s p l) : b = false ∧ Got s (oneR s p b).p (l ++ [byB (oneR s p b).v]) := by
  cases b with
  | true => rw [oneR_bad] at h; cases h
  | false =>
    refine ⟨rfl, ?_⟩
    obtain ⟨g1, g2⟩ := g rfl
    unfold oneR at h ⊢
    simp only [Bool.false_eq_true, if_false] at h ⊢
    split at h
    · rename_i hp
      simp only [dif_pos hp]
      refine ⟨by omega, ?_⟩
      have := take_byte s 0 p (by omega) hp
      simp only [List.drop_zero, Nat.sub_zero] at this
      rw [this, g2]
      congr 2
      simp [byB]
    · cases h

theorem varR_got {s : ByteArray} {p : Nat} {b : Bool} {l : List UInt8} (h : (varR s p b).b = false) (g : b = false → Got s p l) : b = false ∧ Got s (varR s p b).p (l ++ varL (varR s p b).v.toNat) := by
  cases b with
  | true => rw [varR_bad] at h; cases h
  | false =>
    refine ⟨rfl, ?_⟩
    obtain ⟨g1, g2⟩ := g rfl
    unfold varR at h ⊢
    simp only [Bool.false_eq_true, if_false] at h ⊢
    cases hr : rdO s p with
    | none => rw [hr] at h; cases h
    | some x =>
      obtain ⟨v, k⟩ := x
      obtain ⟨h1, h2, h3, h4⟩ := rdO_bytes g1 hr
      refine ⟨h3, ?_⟩
      simp only [Int.toNat_natCast]
      rw [List.take_add, g2, h4]

theorem nearA_le {s : ByteArray} {p : Nat} {b : Bool} (hp : p ≤ s.size) : ∀ k, (nearA s p b k).p ≤ s.size
  | 0 => hp
  | k + 1 => by
    have ih := nearA_le (b := b) hp k
    simp only [nearA, nearStep]
    split
    · exact ih
    · exact varR_le (oneR_le ih)

theorem nearA_bad {s : ByteArray} {p : Nat} {b : Bool} {k : Nat} (h : (nearA s p b k).b = true) : ∀ m, nearA s p b (k + m) = nearA s p b k
  | 0 => rfl
  | m + 1 => by
    have ih := nearA_bad h m
    show nearStep s (nearA s p b (k + m)) = _
    rw [ih]
    unfold nearStep
    rw [if_pos h]

theorem nearA_good {s : ByteArray} {p : Nat} {b : Bool} {k : Nat} (h : (nearA s p b k).b = false) : nearA s p b (k + 1) = ⟨(nearA s p b k).l ++ [⟨(oneR s (nearA s p b k).p false).v, (varR s (oneR s (nearA s p b k).p false).p (oneR s (nearA s p b k).p false).b).v⟩], (varR s (oneR s (nearA s p b k).p false).p (oneR s (nearA s p b k).p false).b).p, (varR s (oneR s (nearA s p b k).p false).p (oneR s (nearA s p b k).p false).b).b⟩ := by
  show nearStep s (nearA s p b k) = _
  unfold nearStep
  rw [if_neg (by rw [h]; simp)]

theorem nearA_len (s : ByteArray) (p : Nat) (b : Bool) : ∀ k, (nearA s p b k).l.length ≤ k
  | 0 => by simp [nearA]
  | k + 1 => by
    have ih := nearA_len s p b k
    simp only [nearA, nearStep]
    split
    · omega
    · simp; omega

/-- each of them took two bytes at least, the last one perhaps none -/
theorem nearA_size {s : ByteArray} {p : Nat} {b : Bool} (hp : p ≤ s.size) : ∀ k, (nearA s p b k).l.length ≤ s.size + 1 ∧ ((nearA s p b k).b = false → (nearA s p b k).l.length ≤ (nearA s p b k).p)
  | 0 => by simp [nearA]
  | k + 1 => by
    have ih := nearA_size (b := b) hp k
    have hle := nearA_le (b := b) hp k
    cases hb : (nearA s p b k).b with
    | true =>
      rw [nearA_bad hb 1]
      exact ⟨ih.1, fun h => by rw [hb] at h; cases h⟩
    | false =>
      rw [nearA_good hb]
      have ih2 := ih.2 hb
      simp only [List.length_append, List.length_cons, List.length_nil]
      refine ⟨by omega, fun h => ?_⟩
      have h1 := varR_got (l := s.data.toList.take (oneR s (nearA s p b k).p false).p) h (fun _ => ⟨oneR_le hle, rfl⟩)
      have h2 := oneR_got (l := s.data.toList.take (nearA s p b k).p) h1.1 (fun _ => ⟨hle, rfl⟩)
      have e1 := congrArg List.length h2.2.2
      have e2 := congrArg List.length h1.2.2
      have hsz : s.data.toList.length = s.size := by simp
      have h3 := h2.2.1
      have h4 := h1.2.1
      simp only [List.length_append, List.length_take, List.length_cons, List.length_nil, hsz] at e1 e2
      omega

theorem nearA_got {s : ByteArray} {p : Nat} {b : Bool} {l : List UInt8} (g : b = false → Got s p l) (hp : p ≤ s.size) : ∀ k, (nearA s p b k).b = false → b = false ∧ (nearA s p b k).l.length = k ∧ Got s (nearA s p b k).p (l ++ nearsL (nearA s p b k).l)
  | 0, h => by
    have hb : b = false := h
    exact ⟨hb, rfl, by simpa [nearA, nearsL] using g hb⟩
  | k + 1, h => by
    have hle := nearA_le (b := b) hp k
    cases hb : (nearA s p b k).b with
    | true => rw [nearA_bad hb 1, hb] at h; cases h
    | false =>
      obtain ⟨i1, i2, i3⟩ := nearA_got g hp k hb
      rw [nearA_good hb] at h ⊢
      simp only [] at h ⊢
      have hc : (varR s (oneR s (nearA s p b k).p false).p (oneR s (nearA s p b k).p false).b).b = false := h
      have hb1 : (oneR s (nearA s p b k).p false).b = false := (varR_got (l := s.data.toList.take (oneR s (nearA s p b k).p false).p) hc (fun _ => ⟨oneR_le hle, rfl⟩)).1
      have h2 := (oneR_got hb1 (fun _ => i3)).2
      have h1 := (varR_got hc (fun _ => h2)).2
      refine ⟨i1, by simp [i2], ?_⟩
      have e : l ++ nearsL ((nearA s p b k).l ++ [⟨(oneR s (nearA s p b k).p false).v, (varR s (oneR s (nearA s p b k).p false).p (oneR s (nearA s p b k).p false).b).v⟩]) = l ++ nearsL (nearA s p b k).l ++ [byB (oneR s (nearA s p b k).p false).v] ++ varL (varR s (oneR s (nearA s p b k).p false).p (oneR s (nearA s p b k).p false).b).v.toNat := by
        simp [nearsL, nearL]
      rw [e]
      exact h1
end Go.Proofs.YtfccainebmbbdaaDoor
namespace Go.Proofs.YtfccainebmbbdaaDoor
open Go.RowKit

/-- where the reading of the fields stands, field by field -/
def r0 (s : ByteArray) : Rd3 := oneR s 0 false
def r1 (s : ByteArray) : Rd3 := oneR s (r0 s).p (r0 s).b
def r2 (s : ByteArray) : Rd3 := oneR s (r1 s).p (r1 s).b
def r3 (s : ByteArray) : Rd3 := oneR s (r2 s).p (r2 s).b
def r4 (s : ByteArray) : Rd3 := varR s (r3 s).p (r3 s).b
def r5 (s : ByteArray) : Rd3 := varR s (r4 s).p (r4 s).b
def r6 (s : ByteArray) (n : Nat) : RdL := nearA s (r5 s).p (r5 s).b n
def r7 (s : ByteArray) (n : Nat) : Rd3 := varR s (r6 s n).p (r6 s n).b
def r8 (s : ByteArray) (n : Nat) : Rd3 := oneR s (r7 s n).p (r7 s n).b

def recP (s : ByteArray) (n : Nat) : RecD := ⟨(r0 s).v, (r1 s).v, (r2 s).v, (r3 s).v, (r4 s).v, (r6 s n).l, (r7 s n).v, (r8 s n).v == 1⟩

def cntI (s : ByteArray) : Nat := (r5 s).v.toNat

def cntS (s : ByteArray) : Nat := min (r5 s).v.toNat 50

def okI (s : ByteArray) : Bool := !((r8 s (cntI s)).b || decide (1 < (r8 s (cntI s)).v)) && !decide ((r8 s (cntI s)).p < s.size) && recOkB (recP s (cntI s))

def okS (s : ByteArray) : Bool := !(r8 s (cntS s)).b && recOkB (recP s (cntS s)) && decide (recL (recP s (cntS s)) = s.data.toList)

theorem r5_le (s : ByteArray) : (r0 s).p ≤ s.size ∧ (r1 s).p ≤ s.size ∧ (r2 s).p ≤ s.size ∧ (r3 s).p ≤ s.size ∧ (r4 s).p ≤ s.size ∧ (r5 s).p ≤ s.size := by
  have h0 : (r0 s).p ≤ s.size := oneR_le (Nat.zero_le _)
  have h1 : (r1 s).p ≤ s.size := oneR_le h0
  have h2 : (r2 s).p ≤ s.size := oneR_le h1
  have h3 : (r3 s).p ≤ s.size := oneR_le h2
  have h4 : (r4 s).p ≤ s.size := varR_le h3
  have h5 : (r5 s).p ≤ s.size := varR_le h4
  exact ⟨h0, h1, h2, h3, h4, h5⟩

theorem r6_le (s : ByteArray) (n : Nat) : (r6 s n).p ≤ s.size ∧ (r7 s n).p ≤ s.size ∧ (r8 s n).p ≤ s.size := by
  have h6 : (r6 s n).p ≤ s.size := nearA_le (r5_le s).2.2.2.2.2 n
  have h7 : (r7 s n).p ≤ s.size := varR_le h6
  exact ⟨h6, h7, oneR_le h7⟩

/-- what was read, in bytes -/
theorem read_got {s : ByteArray} {n : Nat} (h : (r8 s n).b = false) : (r6 s n).b = false ∧ (r6 s n).l.length = n ∧ (r7 s n).b = false ∧
    Got s (r8 s n).p ([byB (r0 s).v, byB (r1 s).v, byB (r2 s).v, byB (r3 s).v] ++ varL (r4 s).v.toNat ++ varL (r5 s).v.toNat ++ nearsL (r6 s n).l ++ varL (r7 s n).v.toNat ++ [byB (r8 s n).v]) := by
  obtain ⟨l0, l1, l2, l3, l4, l5⟩ := r5_le s
  obtain ⟨l6, l7, l8⟩ := r6_le s n
  have t : ∀ p, p ≤ s.size → Got s p (s.data.toList.take p) := fun p hp => ⟨hp, rfl⟩
  have b7 : (r7 s n).b = false := (oneR_got h (fun _ => t _ l7)).1
  have b6 : (r6 s n).b = false := (varR_got b7 (fun _ => t _ l6)).1
  have n6 := nearA_got (fun _ => t _ l5) l5 n b6
  have b5 : (r5 s).b = false := n6.1
  have b4 : (r4 s).b = false := (varR_got b5 (fun _ => t _ l4)).1
  have b3 : (r3 s).b = false := (varR_got b4 (fun _ => t _ l3)).1
  have b2 : (r2 s).b = false := (oneR_got b3 (fun _ => t _ l2)).1
  have b1 : (r1 s).b = false := (oneR_got b2 (fun _ => t _ l1)).1
  have b0 : (r0 s).b = false := (oneR_got b1 (fun _ => t _ l0)).1
  have g0 : Got s (r0 s).p ([] ++ [byB (r0 s).v]) := (oneR_got b0 (fun _ => ⟨Nat.zero_le _, by simp⟩)).2
  have g1 := (oneR_got (s := s) (p := (r0 s).p) (b := (r0 s).b) b1 (fun _ => g0)).2
  have g2 := (oneR_got (s := s) (p := (r1 s).p) (b := (r1 s).b) b2 (fun _ => g1)).2
  have g3 := (oneR_got (s := s) (p := (r2 s).p) (b := (r2 s).b) b3 (fun _ => g2)).2
  have g4 := (varR_got (s := s) (p := (r3 s).p) (b := (r3 s).b) b4 (fun _ => g3)).2
  have g5 := (varR_got (s := s) (p := (r4 s).p) (b := (r4 s).b) b5 (fun _ => g4)).2
  have g6 := (nearA_got (s := s) (p := (r5 s).p) (b := (r5 s).b) (fun _ => g5) l5 n b6).2.2
  have g7 := (varR_got (s := s) (p := (r6 s n).p) (b := (r6 s n).b) b7 (fun _ => g6)).2
  have g8 := (oneR_got (s := s) (p := (r7 s n).p) (b := (r7 s n).b) h (fun _ => g7)).2
  refine ⟨b6, n6.2.1, b7, ?_⟩
  have e : ∀ (a b c d f : UInt8) (x y z u : List UInt8), [] ++ [a] ++ [b] ++ [c] ++ [d] ++ x ++ y ++ z ++ u ++ [f] = [a, b, c, d] ++ x ++ y ++ z ++ u ++ [f] := by intros; simp
  rw [← e]
  exact g8

/-- a right record has at most six nears -/
theorem nears_six {o : Int} {ns : List Nr} (h : nearsB o ns = true) : ns.length ≤ 6 := by
  have hb := near_bounds h
  unfold nearsB at h
  rw [Bool.and_eq_true] at h
  have hasc := List.all_eq_true.1 h.2
  have key : ∀ j (hj : j < ns.length), (j : Int) + 1 ≤ ns[j].to := by
    intro j
    induction j with
    | zero =>
      intro hj
      have := (hb _ (List.getElem_mem hj)).1.1
      simpa using this
    | succ j ih =>
      intro hj
      have h1 := ih (by omega)
      have h2 := hasc (j + 1) (List.mem_range.2 hj)
      rw [ascAt_eq (List.getElem?_eq_getElem (by omega)) (List.getElem?_eq_getElem hj)] at h2
      have h3 := of_decide_eq_true h2
      unfold ordN at h3
      omega
  rcases Nat.lt_or_ge 6 ns.length with hl | hl
  · have h1 := key 6 hl
    have h2 := (hb _ (List.getElem_mem hl)).1.2
    omega
  · exact hl

theorem recOk_six {x : RecD} (h : recOkB x = true) : x.near.length ≤ 6 := by
  unfold recOkB at h
  simp only [Bool.and_eq_true] at h
  obtain ⟨_, h3⟩ := h
  split at h3
  · simp only [Bool.and_eq_true] at h3
    exact nears_six h3.1.1.2
  · split at h3
    · simp only [Bool.and_eq_true, beq_iff_eq] at h3
      have := h3.1.1.2
      omega
    · split at h3
      · simp only [Bool.and_eq_true, beq_iff_eq] at h3
        have := h3.1.2
        omega
      · cases h3

theorem byB_inj {a b : Int} (ha : 0 ≤ a ∧ a ≤ 255) (hb : 0 ≤ b ∧ b ≤ 255) (h : byB a = byB b) : a = b := by
  have h1 := byB_val a ha.1 ha.2
  have h2 := byB_val b hb.1 hb.2
  rw [h] at h1
  omega

theorem farL_byte (v : Int) : farL (v == 1) = [byB (if v = 1 then 1 else 0)] := by
  by_cases h : v = 1
  · subst h; rfl
  · have : (v == 1) = false := by simpa using h
    rw [this, if_neg h]; rfl

/-- with all nears read: the bytes are the record's just where nothing is left and the last one is 0 or 1 -/
theorem text_iff {s : ByteArray} {n : Nat} (h : (r8 s n).b = false) (hn : (r5 s).v.toNat = n) : recL (recP s n) = s.data.toList ↔ (¬ 1 < (r8 s n).v ∧ ¬ (r8 s n).p < s.size) := by
  obtain ⟨b6, hl, b7, hle, hg⟩ := read_got h
  have hv := oneR_range s (r7 s n).p (r7 s n).b
  have hv8 : 0 ≤ (r8 s n).v ∧ (r8 s n).v ≤ 255 := hv
  obtain ⟨H, hH⟩ : ∃ H, H = [byB (r0 s).v, byB (r1 s).v, byB (r2 s).v, byB (r3 s).v] ++ varL (r4 s).v.toNat ++ varL (r5 s).v.toNat ++ nearsL (r6 s n).l ++ varL (r7 s n).v.toNat := ⟨_, rfl⟩
  rw [← hH] at hg
  have hR : recL (recP s n) = H ++ [byB (if (r8 s n).v = 1 then 1 else 0)] := by
    rw [hH, ← farL_byte]
    simp [recL, headL, recP, hl, hn]
  rw [hR]
  have hsz : s.data.toList.length = s.size := by simp
  have hlen : H.length + 1 = (r8 s n).p := by
    have := congrArg List.length hg
    simp only [List.length_take, List.length_append, List.length_cons, List.length_nil, hsz] at this
    omega
  constructor
  · intro e
    have e1 := congrArg List.length e
    simp only [List.length_append, List.length_cons, List.length_nil, hsz] at e1
    rw [List.take_of_length_le (by omega), ← e] at hg
    have e2 := List.append_cancel_left hg
    simp only [List.cons.injEq, and_true] at e2
    have e3 := byB_inj (by split <;> omega) hv8 e2
    refine ⟨?_, by omega⟩
    split at e3 <;> omega
  · rintro ⟨h1, h2⟩
    rw [List.take_of_length_le (by omega)] at hg
    rw [hg]
    have : (if (r8 s n).v = 1 then (1 : Int) else 0) = (r8 s n).v := by split <;> omega
    rw [this]

theorem okI_okS (s : ByteArray) : okI s = okS s ∧ (okI s = true → recP s (cntI s) = recP s (cntS s)) := by
  by_cases hn : (r5 s).v.toNat ≤ 50
  · have e : cntS s = cntI s := by unfold cntS cntI; omega
    refine ⟨?_, fun _ => by rw [e]⟩
    unfold okI okS
    rw [e]
    cases hb : (r8 s (cntI s)).b with
    | true => simp
    | false =>
      have ht := text_iff hb (rfl : (r5 s).v.toNat = cntI s)
      cases recOkB (recP s (cntI s)) with
      | false => simp
      | true =>
        by_cases h1 : 1 < (r8 s (cntI s)).v
        · have : ¬ recL (recP s (cntI s)) = s.data.toList := fun e => (ht.1 e).1 h1
          simp [this, h1]
        · by_cases h2 : (r8 s (cntI s)).p < s.size
          · have : ¬ recL (recP s (cntI s)) = s.data.toList := fun e => (ht.1 e).2 h2
            simp [this, h2]
          · have := ht.2 ⟨h1, h2⟩
            simp [this, h1, h2]
  · have hS : okS s = false := by
      unfold okS
      cases hb : (r8 s (cntS s)).b with
      | true => simp
      | false =>
        have hl := (read_got hb).2.1
        have : recOkB (recP s (cntS s)) = false := by
          cases h : recOkB (recP s (cntS s)) with
          | false => rfl
          | true =>
            have h6 : (r6 s (cntS s)).l.length ≤ 6 := recOk_six h
            have : cntS s = 50 := by unfold cntS; omega
            omega
        simp [this]
    have hI : okI s = false := by
      unfold okI
      cases hb : (r8 s (cntI s)).b with
      | true => simp
      | false =>
        have hl := (read_got hb).2.1
        have : recOkB (recP s (cntI s)) = false := by
          cases h : recOkB (recP s (cntI s)) with
          | false => rfl
          | true =>
            have h6 : (r6 s (cntI s)).l.length ≤ 6 := recOk_six h
            have : cntI s = (r5 s).v.toNat := rfl
            omega
        simp [this]
    exact ⟨by rw [hS, hI], fun h => by rw [hI] at h; cases h⟩

def zeroR : RecD := ⟨0, 0, 0, 0, 0, [], 0, false⟩

def readD (s : ByteArray) : RecD := if okI s then recP s (cntI s) else zeroR
end Go.Proofs.YtfccainebmbbdaaDoor
namespace Go.Proofs.YtfccainebmbbdaaDoor
open Go.RowKit

set_option maxHeartbeats 1000000 in
theorem irv_in (s : ByteArray) (p : Nat) (w : World) (hs : s.size ≤ 1048576) (hp : p ≤ s.size) :
    Calls Tryd.prog 76 #[.string s, .int .i64 (p : Int)] w fun e w' => e = .returned (rdT p (rdO s p)) ∧ w' = w := by
  go_enter Tryd.func76, Tryd.ntmps76
  go_wp2
  go_loop [7, 8, 9] (fun n i sc => ∃ (q m z : Nat) (pre : List UInt8), i = .int .i64 q ∧ n = .int .i64 m ∧ sc = .int .i64 z ∧ Rd s p q pre m z) (fun _ i _ => p + 5 - (intOf i).toNat)
  case atStart => exact ⟨p, 0, 1, [], rfl, rfl, rfl, Rd.first s p hp⟩
  case round =>
    obtain ⟨q, m, z, pre, rfl, rfl, rfl, R⟩ := hrel
    have h1 := R.le
    have h2 := R.five
    have h3 := R.size
    have h4 := R.lt
    have hcs := R.cases
    by_cases hq : q < s.size
    · obtain ⟨c, hc⟩ : ∃ c : Nat, c = s[q].toNat := ⟨_, rfl⟩
      have hcb : c < 256 := by have := s[q].toNat_lt; omega
      have hix : ∀ w, (Instr.index 9 (.string s) (.int .i64 (q : Int))).run Tryd.prog w = .ok (.int .u8 (c : Int)) w := fun w => by
        rw [hc]; simp [go_sem, hq]
      have C : Hid (c = s[q].toNat) := hc
      clear hc
      rcases hcs with ⟨e, rfl⟩ | ⟨e, rfl⟩ | ⟨e, rfl⟩ | ⟨e, rfl⟩ | ⟨e, rfl⟩ | ⟨e, rfl⟩
      iterate 5
        · have h5 : q < p + 5 := by omega
          have E := hide e
          clear e
          go_wp2
          all_goals first
            | (go_ret3; have e := unhide E; first | exact ⟨ret_no (R.no' hq C.out h5 (by omega) (by omega)), rfl⟩ | exact ⟨ret_yes (R.yes' hq C.out h5 (by omega) (by omega) (by omega)) (by omega) (by omega), rfl⟩)
            | (go_round; (case rel => exact ⟨q + 1, _, _, _, by go_num, by go_num, by go_num, R.next' hq C.out h5 (by omega)⟩); (case measure => simp [intOf]; omega))
      · have E := hide e
        clear e
        go_wp2
        go_ret3
        exact ⟨ret_no (R.no_byte (by have e := unhide E; omega)), rfl⟩
    · clear hcs
      go_wp2
      go_ret3
      exact ⟨ret_no (R.no_byte (by omega)), rfl⟩
end Go.Proofs.YtfccainebmbbdaaDoor
namespace Go.Proofs.YtfccainebmbbdaaDoor
open Go.RowKit

set_option maxRecDepth 100000 in
set_option maxHeartbeats 400000 in
theorem irv_any (s : ByteArray) (x : Int) (w : World) (hs : s.size ≤ 1048576) :
    Calls Tryd.prog 76 #[.string s, .int .i64 x] w fun e w' => e = .returned (rdV s x) ∧ Below w.heap.size w w' := by
  by_cases h1 : x < 0
  · rw [rdV_out s x (.inl h1)]
    go_enter Tryd.func76, Tryd.ntmps76
    go_wp2
    go_ret3
    exact ⟨rfl, Below.refl _ _⟩
  by_cases h2 : (s.size : Int) < x
  · rw [rdV_out s x (.inr h2)]
    go_enter Tryd.func76, Tryd.ntmps76
    go_wp2
    go_ret3
    exact ⟨rfl, Below.refl _ _⟩
  obtain ⟨p, rfl⟩ : ∃ p : Nat, x = (p : Int) := ⟨x.toNat, by omega⟩
  rw [rdV_in s p (by omega)]
  refine (irv_in s p w hs (by omega)).mono ?_
  rintro e w' ⟨h, rfl⟩
  exact ⟨h, Below.refl _ _⟩

theorem rdV_three (s : ByteArray) (x : Int) : ∃ (a b : Int) (c : Bool), rdV s x = .tuple #[.int .i64 a, .int .i64 b, .bool c] := by
  unfold rdV
  split
  · cases rdO s x.toNat with
    | none => exact ⟨_, _, _, rfl⟩
    | some y => exact ⟨_, _, _, rfl⟩
  · exact ⟨_, _, _, rfl⟩
end Go.Proofs.YtfccainebmbbdaaDoor
namespace Go.Proofs.YtfccainebmbbdaaDoor
open Go.RowKit

/-- the reader in block z: its text, where it stands, whether it has failed -/
def RdAt (W : World) (z : Nat) (t : TypeId) (s : ByteArray) (p : Nat) (b : Bool) : Prop := W.heap[z]? = some (.cells #[.string s, .int .i64 (p : Int), .bool b] t (0, 0))

theorem RdAt.grown {W W' : World} {z : Nat} {t : TypeId} {s : ByteArray} {p : Nat} {b : Bool} (h : RdAt W z t s p b) (hb : Below W.heap.size W W') : RdAt W' z t s p b := (hb.block _ (lt_of_heap h)).trans h

set_option maxRecDepth 100000 in
set_option maxHeartbeats 400000 in
theorem oneI_any (z p : Nat) (s : ByteArray) (b : Bool) (w : World) (hs : s.size ≤ 1048576) (hp : p ≤ s.size) (h : RdAt w z 66 s p b) :
    Calls Tryd.prog 55 #[.pointer (some ⟨z, 0, none⟩)] w fun e w' => e = .returned (.int .i64 (oneR s p b).v) ∧ RdAt w' z 66 s (oneR s p b).p (oneR s p b).b ∧ w.grownBy w' (some z) := by
  unfold RdAt at h
  have c0 := cells_at h 0
  have c1 := cells_at h 1
  have c2 := cells_at h 2
  have f1 := frozen_at h 1
  have f2 := frozen_at h 2
  simp at c0 c1 c2
  have HH := hide h
  clear h
  cases b
  · by_cases hlt : p < s.size
    · have hv : oneR s p false = ⟨(s[p].toNat : Int), p + 1, false⟩ := by unfold oneR; simp [hlt]
      rw [hv]
      obtain ⟨c, hc⟩ : ∃ c : Nat, c = s[p].toNat := ⟨_, rfl⟩
      have hcb : c < 256 := by have := s[p].toNat_lt; omega
      have hix := idx_str Tryd.underlying9 s p c hlt hc
      have HC := hide hc
      have h1 : ¬ (s.size : Int) ≤ (p : Int) := by omega
      have h2 : IntKind.i64.wrap ((p : Int) + 1) = (p : Int) + 1 := wrap_fit _ (by omega) (by omega)
      clear hc hv
      go_enter Tryd.func55, Tryd.ntmps55
      go_wp2
      go_quiet (fail)
      go_wp2
      have hh2 : ((w.drewN nq).setCell ⟨z, 1, none⟩ (.int .i64 ((p : Int) + 1))).heap[z]? = some (.cells #[.string s, .int .i64 (((p + 1 : Nat)) : Int), .bool false] 66 (0, 0)) := by
        rw [heap_setCell_same (w.drewN nq) z 1 _ _ _ HH.out]; rfl
      have hg : w.grownBy ((w.drewN nq).setCell ⟨z, 1, none⟩ (.int .i64 ((p : Int) + 1))) (some z) := grown_trans (grown_drewN w nq _) (grown_set _ z 1 _)
      generalize (w.drewN nq).setCell ⟨z, 1, none⟩ (.int .i64 ((p : Int) + 1)) = w3 at hh2 hg ⊢
      have d0 := cells_at hh2 0
      have d1 := cells_at hh2 1
      simp at d0 d1
      have HH2 := hide hh2
      clear hh2 c0 c1 c2 f1 f2 HH
      go_quiet (fail)
      go_wp2
      go_ret
      exact ⟨by rw [← HC.out]; rfl, HH2.out, grown_trans hg (grown_drewN _ _ _)⟩
    · have hv : oneR s p false = ⟨0, p, true⟩ := by unfold oneR; simp [hlt]
      rw [hv]
      have h1 : (s.size : Int) ≤ (p : Int) := by omega
      clear hv
      go_enter Tryd.func55, Tryd.ntmps55
      go_wp2
      go_quiet (fail)
      go_wp2
      go_ret
      exact ⟨rfl, heap_setCell_same (w.drewN nq) z 2 _ _ _ HH.out, grown_trans (grown_drewN w nq _) (grown_set _ z 2 _)⟩
  · have hv : oneR s p true = ⟨0, p, true⟩ := oneR_bad s p
    rw [hv]
    clear hv
    go_enter Tryd.func55, Tryd.ntmps55
    go_wp2
    go_quiet (fail)
    go_wp2
    go_ret
    exact ⟨rfl, heap_setCell_same (w.drewN nq) z 2 _ _ _ HH.out, grown_trans (grown_drewN w nq _) (grown_set _ z 2 _)⟩

/-- what ReadVar answers, in three -/
theorem rdV_good {s : ByteArray} {p v k : Nat} (hp : p ≤ s.size) (h : rdO s p = some (v, k)) : rdV s (p : Int) = .tuple #[.int .i64 (v : Int), .int .i64 ((p + k : Nat) : Int), .bool true] := by
  rw [rdV_in s p hp, h]; rfl

theorem rdV_none {s : ByteArray} {p : Nat} (hp : p ≤ s.size) (h : rdO s p = none) : rdV s (p : Int) = .tuple #[.int .i64 0, .int .i64 0, .bool false] := by
  rw [rdV_in s p hp, h]; rfl

set_option maxRecDepth 100000 in
set_option maxHeartbeats 400000 in
theorem numI_any (z p : Nat) (s : ByteArray) (b : Bool) (w : World) (hs : s.size ≤ 1048576) (hp : p ≤ s.size) (h : RdAt w z 66 s p b) :
    Calls Tryd.prog 66 #[.pointer (some ⟨z, 0, none⟩)] w fun e w' => e = .returned (.int .i64 (varR s p b).v) ∧ RdAt w' z 66 s (varR s p b).p (varR s p b).b ∧ w.grownBy w' (some z) := by
  unfold RdAt at h
  have c0 := cells_at h 0
  have c1 := cells_at h 1
  simp at c0 c1
  have hz := lt_of_heap h
  have HH := hide h
  have HRV := hide (irv_any s (p : Int))
  obtain ⟨v1, v2, v3, hv⟩ := rdV_three s (p : Int)
  rw [hv] at HRV
  have HV := hide hv
  clear h hv
  go_enter Tryd.func66, Tryd.ntmps66
  go_wp2
  go_region_held3 (fun W => W.cell? ⟨z, 0, none⟩ = some (.string s) ∧ W.cell? ⟨z, 1, none⟩ = some (.int .i64 (p : Int))) (first | go_keep | (refine ⟨?_, ?_⟩ <;> (refine Eq.trans (Below.cell (B := w.heap.size) (w := w.drew) ?_ ?_) ?_ <;> first | assumption | (go_grown; done)))) (first | (go_at_call 76; refine (HRV.out _ hs).mono ?_; rintro e w1 ⟨rfl, b1⟩))
  have hh1 : w1.heap[z]? = _ := (b1.block _ hz).trans HH.out
  have hg1 : w.grownBy w1 (some z) := ⟨b1.os, b1.tape, b1.output, b1.size, fun k hk _ => b1.block k hk⟩
  have d2 := cells_at hh1 2
  have f1 := frozen_at hh1 1
  have f2 := frozen_at hh1 2
  have d1 := cells_at hh1 1
  simp at d1 d2
  have HH1 := hide hh1
  clear hh1 b1 c0 c1 HH HRV
  cases b
  · cases hr : rdO s p with
    | none =>
      have e := (rdV_none hp hr).symm.trans HV.out
      simp only [Value.tuple.injEq, Array.mk.injEq, List.cons.injEq, Value.int.injEq, Value.bool.injEq, true_and, and_true] at e
      obtain ⟨e1, e2, rfl⟩ := e
      have hvr : varR s p false = ⟨0, p, true⟩ := by unfold varR; rw [hr]; rfl
      have HVR := hide hvr
      clear hvr e1 e2 hr
      go_wp2
      go_ret
      rw [HVR.out]
      exact ⟨rfl, heap_setCell_same _ z 2 _ _ _ HH1.out, grown_trans hg1 (grown_set _ z 2 _)⟩
    | some x =>
      obtain ⟨v, k⟩ := x
      have e := (rdV_good hp hr).symm.trans HV.out
      simp only [Value.tuple.injEq, Array.mk.injEq, List.cons.injEq, Value.int.injEq, Value.bool.injEq, true_and, and_true] at e
      obtain ⟨rfl, rfl, rfl⟩ := e
      have hvr : varR s p false = ⟨(v : Int), p + k, false⟩ := by unfold varR; rw [hr]; rfl
      have HVR := hide hvr
      clear hvr hr
      go_wp2
      go_ret
      rw [HVR.out]
      exact ⟨rfl, heap_setCell_same _ z 1 _ _ _ HH1.out, grown_trans hg1 (grown_set _ z 1 _)⟩
  · go_wp2
    go_ret
    rw [varR_bad]
    exact ⟨rfl, heap_setCell_same _ z 2 _ _ _ HH1.out, grown_trans hg1 (grown_set _ z 2 _)⟩

set_option maxRecDepth 100000 in
set_option maxHeartbeats 400000 in
theorem flagI_any (z p : Nat) (s : ByteArray) (b : Bool) (w : World) (hs : s.size ≤ 1048576) (hp : p ≤ s.size) (h : RdAt w z 66 s p b) :
    Calls Tryd.prog 78 #[.pointer (some ⟨z, 0, none⟩)] w fun e w' => e = .returned (.bool ((oneR s p b).v == 1)) ∧ RdAt w' z 66 s (oneR s p b).p ((oneR s p b).b || decide (1 < (oneR s p b).v)) ∧ w.grownBy w' (some z) := by
  have H1 := hide (oneI_any z p s b w hs hp h)
  clear h
  generalize oneR s p b = r at H1 ⊢
  obtain ⟨v, p', b'⟩ := r
  simp only [] at H1 ⊢
  go_enter Tryd.func78, Tryd.ntmps78
  go_wp2_with fail
  refine H1.out.mono ?_
  rintro e w1 ⟨rfl, hh, hg⟩
  unfold RdAt at hh
  have d2 := cells_at hh 2
  have f2 := frozen_at hh 2
  simp at d2
  have HH := hide hh
  clear hh H1
  cases b'
  · go_wp2
    go_ret
    exact ⟨rfl, heap_setCell_same _ z 2 _ _ _ HH.out, grown_trans hg (grown_set _ z 2 _)⟩
  · go_wp2
    go_ret
    exact ⟨rfl, heap_setCell_same _ z 2 _ _ _ HH.out, grown_trans hg (grown_set _ z 2 _)⟩
end Go.Proofs.YtfccainebmbbdaaDoor
