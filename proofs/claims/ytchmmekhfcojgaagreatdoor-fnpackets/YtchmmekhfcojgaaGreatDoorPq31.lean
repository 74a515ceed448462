/-
  The program's reader of packets: what it reads, or its fault.
  strings.Clone: its contract.
  impl.ReadShort: its contract.
-/
import Derived.Test.YtchmmekhfcojgaaGreatDoorPq30
import Derived.Test.YtchmmekhfcojgaaGreatDoorPq23
import Derived.Test.YtchmmekhfcojgaaGreatDoorPq1
import Derived.Test.YtchmmekhfcojgaaGreatDoorPq20
import Derived.Test.YtchmmekhfcojgaaGreatDoorPq29
namespace Go.Proofs.YtchmmekhfcojgaaGreatDoor
open Go.RowKit

set_option linter.unusedSimpArgs false

/-- what the reader panics with -/
abbrev fault : List PanicEntry := [{ v := .iface 86 (.agg #[]), recovered := false }]

theorem hold_yes (z : Nat) (w : World) : Calls Tryz.prog 53 #[.pointer (some ⟨z, 0, none⟩), .bool true] w fun e w' => e = .returned (.tuple #[]) ∧ w = w' := by
  go_enter Tryz.func53, Tryz.ntmps53
  go_wp2
  go_returns
  exact ⟨rfl, rfl⟩

theorem hold_no (z : Nat) (w : World) : Calls Tryz.prog 53 #[.pointer (some ⟨z, 0, none⟩), .bool false] w fun e w' => e = .panicked fault ∧ w = w' := by
  go_enter Tryz.func53, Tryz.ntmps53
  go_wp2
  exact ⟨rfl, rfl, rfl⟩

/-- one value is read, or the reader faults -/
def Gave (b : Bool) (v : Int) (e : Ending) : Prop := (b = false ∧ e = .returned (.int .i64 v)) ∨ (b = true ∧ e = .panicked fault)

set_option maxRecDepth 100000 in
set_option maxHeartbeats 1000000 in
theorem oneP_any (z p : Nat) (s : ByteArray) (w : World) (hs : s.size ≤ 1048576) (hp : p ≤ s.size) (h : RdAt w z 91 s p false) :
    Calls Tryz.prog 50 #[.pointer (some ⟨z, 0, none⟩)] w fun e w' => Gave (oneR s p false).b (oneR s p false).v e ∧ RdAt w' z 91 s (oneR s p false).p (oneR s p false).b ∧ w.grownBy w' (some z) := by
  have HO := hide (oneJ_any 91 z p s false w hs hp h)
  have hz := lt_of_heap h
  obtain ⟨⟨v, p', b⟩, he⟩ : ∃ r, oneR s p false = r := ⟨_, rfl⟩
  rw [he] at HO ⊢
  simp only [] at HO ⊢
  clear h
  go_enter Tryz.func50, Tryz.ntmps50
  go_wp2_with fail
  refine HO.out.mono ?_
  rintro e w1 ⟨rfl, r1, g1⟩
  have c2 := cells_at r1 2
  simp at c2
  have R1 := hide r1
  have G1 := hide g1
  have HY := hide (hold_yes z)
  have HN := hide (hold_no z)
  clear r1 g1 HO he
  cases b
  · go_wp2_with fail
    refine (HY.out _).mono ?_
    rintro e w2 ⟨rfl, rfl⟩
    go_wp2
    go_ret
    exact ⟨.inl ⟨rfl, rfl⟩, R1.out, G1.out⟩
  · go_wp2_with fail
    refine (HN.out _).mono ?_
    rintro e w2 ⟨rfl, rfl⟩
    go_wp2
    exact ⟨rfl, .inr ⟨rfl, rfl⟩, R1.out, G1.out⟩

set_option maxRecDepth 100000 in
set_option maxHeartbeats 1000000 in
theorem numP_any (z p : Nat) (s : ByteArray) (w : World) (hs : s.size ≤ 1048576) (hp : p ≤ s.size) (h : RdAt w z 91 s p false) :
    Calls Tryz.prog 81 #[.pointer (some ⟨z, 0, none⟩)] w fun e w' => Gave (varR s p false).b (varR s p false).v e ∧ RdAt w' z 91 s (varR s p false).p (varR s p false).b ∧ w.grownBy w' (some z) := by
  have HO := hide (numJ_any 91 z p s false w hs hp h)
  have hz := lt_of_heap h
  obtain ⟨⟨v, p', b⟩, he⟩ : ∃ r, varR s p false = r := ⟨_, rfl⟩
  rw [he] at HO ⊢
  simp only [] at HO ⊢
  clear h
  go_enter Tryz.func81, Tryz.ntmps81
  go_wp2_with fail
  refine HO.out.mono ?_
  rintro e w1 ⟨rfl, r1, g1⟩
  have c2 := cells_at r1 2
  simp at c2
  have R1 := hide r1
  have G1 := hide g1
  have HY := hide (hold_yes z)
  have HN := hide (hold_no z)
  clear r1 g1 HO he
  cases b
  · go_wp2_with fail
    refine (HY.out _).mono ?_
    rintro e w2 ⟨rfl, rfl⟩
    go_wp2
    go_ret
    exact ⟨.inl ⟨rfl, rfl⟩, R1.out, G1.out⟩
  · go_wp2_with fail
    refine (HN.out _).mono ?_
    rintro e w2 ⟨rfl, rfl⟩
    go_wp2
    exact ⟨rfl, .inr ⟨rfl, rfl⟩, R1.out, G1.out⟩

/-- so many bytes, one behind another -/
def hearA (s : ByteArray) (p : Nat) : Nat → Option (List Int × Nat)
  | 0 => some ([], p)
  | k + 1 => (hearA s p k).bind fun x => if (oneR s x.2 false).b then none else some (x.1 ++ [(oneR s x.2 false).v], (oneR s x.2 false).p)

theorem hearA_none {s : ByteArray} {p k : Nat} (h : hearA s p k = none) : ∀ m, hearA s p (k + m) = none
  | 0 => h
  | m + 1 => by
    show (hearA s p (k + m)).bind _ = none
    rw [hearA_none h m]
    rfl

theorem hearA_bad {s : ByteArray} {p k q : Nat} {l : List Int} (h : hearA s p k = some (l, q)) (hb : (oneR s q false).b = true) : hearA s p (k + 1) = none := by
  show (hearA s p k).bind _ = none
  rw [h]
  simp [hb]

theorem hearA_good {s : ByteArray} {p k q : Nat} {l : List Int} (h : hearA s p k = some (l, q)) (hb : (oneR s q false).b = false) : hearA s p (k + 1) = some (l ++ [(oneR s q false).v], (oneR s q false).p) := by
  show (hearA s p k).bind _ = _
  rw [h]
  simp [hb]

theorem hearA_len {s : ByteArray} {p : Nat} (hp : p ≤ s.size) : ∀ {k : Nat} {l : List Int} {q : Nat}, hearA s p k = some (l, q) → l.length = k ∧ q ≤ s.size ∧ p + k = q
  | 0, l, q, h => by
    simp only [hearA, Option.some.injEq, Prod.mk.injEq] at h
    obtain ⟨rfl, rfl⟩ := h
    exact ⟨rfl, hp, rfl⟩
  | k + 1, l, q, h => by
    cases he : hearA s p k with
    | none => have := hearA_none he 1; rw [this] at h; cases h
    | some x =>
      obtain ⟨l0, q0⟩ := x
      have h0 := hearA_len hp he
      cases hb : (oneR s q0 false).b with
      | true => rw [hearA_bad he hb] at h; cases h
      | false =>
        rw [hearA_good he hb] at h
        simp only [Option.some.injEq, Prod.mk.injEq] at h
        obtain ⟨rfl, rfl⟩ := h
        have h1 : (oneR s q0 false).p = q0 + 1 ∧ q0 < s.size := by
          unfold oneR at hb ⊢
          by_cases hl : q0 < s.size
          · simp [hl]
          · simp [hl] at hb
        refine ⟨by simp [h0.1], by omega, by omega⟩

/-- what is heard: how many, and so many bytes; or the fault -/
def heardB (b : Bool) (s : ByteArray) (p : Nat) (v : Int) : Option (List Int × Nat) := if b then none else hearA s p v.toNat

def heardR (s : ByteArray) (p : Nat) : Option (List Int × Nat) := heardB (varR s p false).b s (varR s p false).p (varR s p false).v

theorem heardB_yes {s : ByteArray} {p n : Nat} : heardB false s p (n : Int) = hearA s p n := rfl

def HeardOut (o : Option (List Int × Nat)) (s : ByteArray) (z : Nat) (w : World) (e : Ending) (w' : World) : Prop :=
  w.grownBy w' (some z) ∧ ((o = none ∧ e = .panicked fault) ∨ ∃ u l q, o = some (l, q) ∧ e = .returned u ∧ w'.ownsRow w.heap.size 3 1 u l.length (flat intE l) ∧ RdAt w' z 91 s q false)

set_option maxRecDepth 100000 in
set_option maxHeartbeats 2000000 in
theorem heardP_any (z p : Nat) (s : ByteArray) (w : World) (hs : s.size ≤ 1048576) (hp : p ≤ s.size) (h : RdAt w z 91 s p false) :
    Calls Tryz.prog 51 #[.pointer (some ⟨z, 0, none⟩)] w fun e w' => HeardOut (heardR s p) s z w e w' := by
  have HN := hide (numP_any z p s w hs hp h)
  have hz := lt_of_heap h
  have hvp := varR_le (b := false) hp
  have hvr := varR_range (b := false) hp
  unfold heardR
  obtain ⟨⟨v, p', b⟩, he⟩ : ∃ r, varR s p false = r := ⟨_, rfl⟩
  rw [he] at HN hvp hvr ⊢
  simp only [] at HN hvp hvr ⊢
  clear h
  go_enter Tryz.func51, Tryz.ntmps51
  go_wp2_with fail
  refine HN.out.mono ?_
  rintro e w1 ⟨hg, r1, g1⟩
  rcases hg with ⟨rfl, rfl⟩ | ⟨rfl, rfl⟩
  case inr =>
    have G1 := hide g1
    clear r1 g1
    go_wp2
    exact ⟨rfl, G1.out, .inl ⟨rfl, rfl⟩⟩
  obtain ⟨n, rfl⟩ : ∃ n : Nat, v = (n : Int) := ⟨v.toNat, by omega⟩
  have R1 := hide r1
  have G1 := hide g1
  clear r1 g1 HN he
  go_wp2
  go_loopw [6, 3] (fun i o wr => ∃ (k q : Nat) (l : List Int), k ≤ n ∧ i = .int .i64 k ∧ Hid (hearA s p' k = some (l, q)) ∧ wr.ownsRow w.heap.size 3 1 o l.length (flat intE l) ∧ RdAt wr z 91 s q false ∧ w.grownBy wr (some z)) (fun i _ _ => n - (intOf i).toNat)
  case atStart => exact ⟨0, p', [], by omega, rfl, hide rfl, World.ownsRow_nil _ _ _ _, R1.out, G1.out⟩
  case round =>
    clear R1 G1
    obtain ⟨k, q, l, hk, rfl, hh, ho, hr, hg⟩ := hrel
    obtain ⟨oa, oc, rfl⟩ := owns_lenS ho
    have HLN := hide (hearA_len hvp hh.out)
    have hll : l.length ≤ 1048576 := by have := HLN.out; omega
    by_cases hlt : k < n
    · have hlt' : (k : Int) < (n : Int) := by omega
      have HO := hide (oneP_any z q s wr hs HLN.out.2.1 hr)
      have HG := hide hg
      have OW := hide ho
      have hzr := lt_of_heap hr
      have hlw : w.heap.size ≤ wr.heap.size := hg.size
      obtain ⟨⟨y, q', b⟩, he2⟩ : ∃ r, oneR s q false = r := ⟨_, rfl⟩
      rw [he2] at HO
      simp only [] at HO
      clear ho hr hg
      go_wp2_with fail
      refine HO.out.mono ?_
      rintro e w2 ⟨hgv, r2, g2⟩
      rcases hgv with ⟨rfl, rfl⟩ | ⟨rfl, rfl⟩
      · have HST := hide (show hearA s p' (k + 1) = some (l ++ [y], q') by rw [hearA_good hh.out (by rw [he2]), he2])
        have o2 := OW.out.kept g2 (.inr (fun e => by have := OW.out.lt z e; omega))
        have hs2 := g2.size
        have O2 := hide o2
        have R2 := hide r2
        have G2 := hide (grown_trans HG.out g2)
        clear o2 r2 g2 he2
        go_wp2_with (first
          | (at_builtin; refine append_struct5 intE_len (by omega) (by omega) _ rfl _ _ 24 rfl w.heap.size 3 Tryz.underlying24 (.int .i64 0) rfl Tryz.info3 _ l y (by intro u hu; simp [intE] at hu; subst hu; rfl) rfl (O2.out.alloc _) ⟨w2.heap.size, 0, none⟩ 1 rfl (news_struct (cs := intE y)) (by omega) (by simp; omega) ?_))
        intro v' w3 ho3 hg3
        obtain ⟨va, vc, rfl⟩ := owns_lenS ho3
        have R3 := hide (rd_app R2.out hg3 O2.out (by omega))
        have G3 := hide (grown_app G2.out hg3 O2.out rfl)
        have O3 := hide ho3
        clear ho3 hg3
        go_wp2
        go_roundw
        case rel => exact ⟨k + 1, q', l ++ [y], by omega, by go_num, HST, by simpa using O3.out, R3.out, G3.out⟩
        case measure => simp [intOf]; omega
      · have HNO := hide (show hearA s p' n = none by
          have h1 := hearA_bad hh.out (by rw [he2])
          have h2 := hearA_none h1 (n - (k + 1))
          rwa [show k + 1 + (n - (k + 1)) = n by omega] at h2)
        have G2 := hide (grown_trans HG.out g2)
        clear g2 r2 he2
        go_wp2
        exact ⟨rfl, G2.out, .inl ⟨heardB_yes.trans HNO.out, rfl⟩⟩
    · have hkn : k = n := by omega
      have HH := hide hh.out
      rw [hkn] at HH
      have OW := hide ho
      have RR := hide hr
      have GG := hide hg
      clear ho hr hg hh hkn
      go_wp2
      go_ret
      exact ⟨GG.out, .inr ⟨_, l, q, heardB_yes.trans HH.out, rfl, OW.out, RR.out⟩⟩
end Go.Proofs.YtchmmekhfcojgaaGreatDoor
namespace Go.Proofs.YtchmmekhfcojgaaGreatDoor
open Go.RowKit

set_option maxHeartbeats 400000 in
theorem clone_any (s : ByteArray) (w : World) (hs : s.size ≤ 1048576) : Calls Tryz.prog 48 #[.string s] w fun e w' => e = .returned (.string s) ∧ Below w.heap.size w w' := by
  go_enter Tryz.func48, Tryz.ntmps48
  go_wp2_with (first | (go_at_call 79; refine (Tryz.stringslite_Clone _ _ (by omega)).mono ?_; rintro e w' ⟨rfl, hb⟩))
  go_ret
  exact ⟨rfl, hb⟩
end Go.Proofs.YtchmmekhfcojgaaGreatDoor
namespace Go.Proofs.YtchmmekhfcojgaaGreatDoor
open Go.RowKit

def rdR (s : ByteArray) (x : Int) : Option (Nat × Nat) := if 0 ≤ x ∧ x ≤ (s.size : Int) then (rdO s x.toNat).map (fun y => (y.1, x.toNat + y.2)) else none

def shO (s : ByteArray) (x : Int) : Option (ByteArray × Nat) := (rdR s x).bind fun y => if y.1 ≤ 20000 ∧ y.2 + y.1 ≤ s.size then some (s.extract y.2 (y.2 + y.1), y.2 + y.1) else none

def shT : Option (ByteArray × Nat) → Value
  | some y => .tuple #[.string y.1, .int .i64 (y.2 : Int), .bool true]
  | none => .tuple #[.string (bs []), .int .i64 0, .bool false]

def shV (s : ByteArray) (x : Int) : Value := shT (shO s x)

theorem rdA_bound : ∀ (f : Nat) (pre l : List UInt8) (v k : Nat), rdA f pre l = some (v, k) → k ≤ pre.length + l.length
  | 0, _, _, _, _, h => by simp [rdA] at h
  | f + 1, pre, [], _, _, h => by simp [rdA] at h
  | f + 1, pre, c :: r, v, k, h => by
    simp only [rdA] at h
    split at h
    · have := rdA_bound f (pre ++ [c]) r v k h
      simp at this ⊢
      omega
    · split at h
      · cases h
      · simp at h
        simp
        omega

/-- the two shapes of what ReadVar answers -/
theorem rdV_shape (s : ByteArray) (x : Int) : (rdV s x = .tuple #[.int .i64 0, .int .i64 0, .bool false] ∧ rdR s x = none) ∨ ∃ n f : Nat, rdV s x = .tuple #[.int .i64 n, .int .i64 f, .bool true] ∧ f ≤ s.size ∧ rdR s x = some (n, f) := by
  unfold rdV rdR
  split
  · rename_i hx
    cases h : rdO s x.toNat with
    | none => exact .inl ⟨rfl, rfl⟩
    | some y =>
      refine .inr ⟨y.1, x.toNat + y.2, rfl, ?_, rfl⟩
      have := rdA_bound 5 [] _ y.1 y.2 h
      simp at this
      omega
  · exact .inl ⟨rfl, rfl⟩

theorem shV_none {s : ByteArray} {x : Int} (h : rdR s x = none) : shV s x = .tuple #[.string (bs []), .int .i64 0, .bool false] := by
  unfold shV shO; rw [h]; rfl

theorem shV_no {s : ByteArray} {x : Int} {n f : Nat} (h : rdR s x = some (n, f)) (h2 : ¬ (n ≤ 20000 ∧ f + n ≤ s.size)) : shV s x = .tuple #[.string (bs []), .int .i64 0, .bool false] := by
  unfold shV shO; rw [h]; simp only [Option.bind_some, if_neg h2]; rfl

theorem shV_yes {s : ByteArray} {x : Int} {n f : Nat} (h : rdR s x = some (n, f)) (h2 : n ≤ 20000 ∧ f + n ≤ s.size) : shV s x = .tuple #[.string (s.extract f (f + n)), .int .i64 ((f : Int) + (n : Int)), .bool true] := by
  unfold shV shO; rw [h]; simp only [Option.bind_some, if_pos h2]; rfl

theorem extract_size (s : ByteArray) (a b : Nat) : (s.extract a b).size ≤ s.size := by simp; omega

set_option maxRecDepth 100000 in
set_option maxHeartbeats 400000 in
theorem ish_any (s : ByteArray) (x : Int) (w : World) (hs : s.size ≤ 1048576) :
    Calls Tryz.prog 103 #[.string s, .int .i64 x] w fun e w' => e = .returned (shV s x) ∧ Below w.heap.size w w' := by
  rcases rdV_shape s x with ⟨h, hr⟩ | ⟨n, f, h, hf, hr⟩
  · rw [shV_none hr]
    go_enter Tryz.func103, Tryz.ntmps103
    go_wp2_with (first | (go_at_call 115; refine (irv_any _ _ _ hs).mono ?_; rw [h]; rintro e w1 ⟨rfl, hb1⟩))
    go_ret3
    exact ⟨rfl, hb1⟩
  by_cases h1 : (20000 : Int) < (n : Int)
  · rw [shV_no hr (by omega)]
    go_enter Tryz.func103, Tryz.ntmps103
    go_wp2_with (first | (go_at_call 115; refine (irv_any _ _ _ hs).mono ?_; rw [h]; rintro e w1 ⟨rfl, hb1⟩))
    go_ret3
    exact ⟨rfl, hb1⟩
  by_cases h2 : (s.size : Int) - (f : Int) < (n : Int)
  · rw [shV_no hr (by omega)]
    go_enter Tryz.func103, Tryz.ntmps103
    go_wp2_with (first | (go_at_call 115; refine (irv_any _ _ _ hs).mono ?_; rw [h]; rintro e w1 ⟨rfl, hb1⟩))
    go_ret3
    exact ⟨rfl, hb1⟩
  rw [shV_yes hr (by omega)]
  obtain ⟨t, ht⟩ : ∃ t : ByteArray, t = s.extract f (f + n) := ⟨_, rfl⟩
  have hsl := sl_str Tryz.underlying9 s t (f : Int) ((f : Int) + (n : Int)) (by omega) (by omega) (by omega) (by rw [ht]; rfl)
  have htz : t.size ≤ 1048576 := by rw [ht]; exact Nat.le_trans (extract_size _ _ _) hs
  rw [← ht]
  clear ht
  go_enter Tryz.func103, Tryz.ntmps103
  go_wp2_with (first | (go_at_call 115; refine (irv_any _ _ _ hs).mono ?_; rw [h]; rintro e w1 ⟨rfl, hb1⟩) | (go_at_call 48; refine (clone_any _ _ htz).mono ?_; rintro e w2 ⟨rfl, hb2⟩))
  go_ret3
  exact ⟨rfl, hb1.trans (hb2.mono hb1.size)⟩

end Go.Proofs.YtchmmekhfcojgaaGreatDoor
