/-
  spec.Unsealed, impl.Unsealed: their contracts.
  What ReadPacket answers, as mathematics.
-/
import Derived.Test.YtchmmekhfcojgaaGreatDoorPq23
import Derived.Test.YtchmmekhfcojgaaGreatDoorPq31
import Derived.Deep.RegionHeld3
import Derived.Deep.QuietTactic
import Derived.BigQuiet
import Derived.Test.YtchmmekhfcojgaaGreatDoorPq35
namespace Go.Proofs.YtchmmekhfcojgaaGreatDoor
open Go.RowKit

theorem neq_lists {u t : ByteArray} (h : ¬ u = t) : (u.toList == t.toList) = false := by
  rw [beq_eq_false_iff_ne]
  intro e
  refine h ?_
  rw [ByteArray.toList_eq, ByteArray.toList_eq] at e
  cases u
  cases t
  congr 1
  exact Array.toList_inj.1 e

theorem steps_drew {w : World} (h : Steps w) : Steps w.drew := h

def unT (s : ByteArray) (n : Nat) : Prop := s.extract n s.size = bs (fourL (sumS (s.extract 0 n)))

instance (s : ByteArray) (n : Nat) : Decidable (unT s n) := by unfold unT; exact inferInstance

def unV (s : ByteArray) : Value := if 4 ≤ s.size ∧ s.size - 4 ≤ 20000 ∧ unT s (s.size - 4) then .tuple #[.string (s.extract 0 (s.size - 4)), .bool true] else .tuple #[.string (bs []), .bool false]

theorem sl_hi {P : Program} {t : TypeId} (hu : P.underlying t = some .string) (s u : ByteArray) (n : Nat) (h : n ≤ s.size) (he : u = s.extract 0 n) (w : World) :
    (Instr.slice t (.string s) none (some (.int .i64 (n : Int))) none).run P w = .ok (.string u) w := by
  rw [he, run_slice_string_h w t s hu .i64 (n : Int) (by omega) (by omega)]
  rfl

theorem sl_lo {P : Program} {t : TypeId} (hu : P.underlying t = some .string) (s u : ByteArray) (n : Nat) (h : n ≤ s.size) (he : u = s.extract n s.size) (w : World) :
    (Instr.slice t (.string s) (some (.int .i64 (n : Int))) none none).run P w = .ok (.string u) w := by
  rw [he, run_slice_string_l w t s hu .i64 (n : Int) (by omega) (by omega)]
  rfl

theorem unV_no {s : ByteArray} (h : ¬ (4 ≤ s.size ∧ s.size - 4 ≤ 20000 ∧ unT s (s.size - 4))) : unV s = .tuple #[.string (bs []), .bool false] := by
  unfold unV; rw [if_neg h]

theorem unV_yes {s : ByteArray} (h1 : 4 ≤ s.size) (h2 : s.size - 4 ≤ 20000) (h3 : unT s (s.size - 4)) : unV s = .tuple #[.string (s.extract 0 (s.size - 4)), .bool true] := by
  unfold unV; rw [if_pos ⟨h1, h2, h3⟩]

set_option maxRecDepth 100000 in
set_option maxHeartbeats 1000000 in
theorem sun_any (s : ByteArray) (w : World) (hs : s.size ≤ 1048576) :
    Calls Tryz.prog 31 #[.string s] w fun e w' => e = .returned (unV s) ∧ Below w.heap.size w w' := by
  by_cases h : (s.size : Int) - 4 < 0
  · rw [unV_no (by omega)]
    have hd : decide ((s.size : Int) - 4 < 0) = true := by simpa using h
    go_enter Tryz.func31, Tryz.ntmps31
    go_wp2
    go_quiet (fail)
    go_wp2
    go_ret2
    exact ⟨rfl, rfl, rfl, rfl, Nat.le_refl _, fun _ _ => rfl⟩
  · by_cases h2 : 20000 < (s.size : Int) - 4
    · rw [unV_no (by omega)]
      have hd : decide ((s.size : Int) - 4 < 0) = false := by simpa using h
      have hd2 : decide (20000 < (s.size : Int) - 4) = true := by simpa using h2
      go_enter Tryz.func31, Tryz.ntmps31
      go_wp2
      go_quiet (fail)
      go_wp2
      go_ret2
      exact ⟨rfl, rfl, rfl, rfl, Nat.le_refl _, fun _ _ => rfl⟩
    · obtain ⟨n, hn⟩ : ∃ n : Nat, n = s.size - 4 := ⟨_, rfl⟩
      have hn2 : (s.size : Int) - 4 = (n : Int) := by omega
      obtain ⟨u, hu⟩ : ∃ u, u = s.extract n s.size := ⟨_, rfl⟩
      obtain ⟨b, hb⟩ : ∃ b, b = s.extract 0 n := ⟨_, rfl⟩
      have hbz : b.size ≤ 1048576 := by rw [hb]; exact Nat.le_trans (by simp; omega) hs
      have hlo := sl_lo Tryz.underlying9 s u n (by omega) hu
      have hhi := sl_hi Tryz.underlying9 s b n (by omega) hb
      obtain ⟨x, hx⟩ : ∃ x, x = sumS b := ⟨_, rfl⟩
      have hxl : x < 4294967296 := by rw [hx]; exact sumS_lt b
      obtain ⟨t, ht⟩ : ∃ t, t = bs (fourL x) := ⟨_, rfl⟩
      have hut : unT s n ↔ u = t := by unfold unT; rw [ht, hx, hb, hu]
      have hso : ∀ W, Calls Tryz.prog 67 #[.string b] W fun e w' => e = .returned (.int .u32 (x : Int)) ∧ W = w' := by
        intro W; rw [hx]; exact sso_any b W (by omega)
      have hfo : ∀ W, Calls Tryz.prog 66 #[.int .u32 (x : Int)] W fun e w' => e = .returned (.string t) ∧ Below W.heap.size W w' := by
        intro W; rw [ht]; exact sfour_any x W hxl
      have HSO := hide hso
      have HFO := hide hfo
      have hV : unV s = if u = t then .tuple #[.string b, .bool true] else .tuple #[.string (bs []), .bool false] := by
        by_cases hc : u = t
        · rw [if_pos hc, unV_yes (by omega) (by omega) (by rw [← hn]; exact hut.2 hc), ← hn, ← hb]
        · rw [if_neg hc, unV_no (by rw [← hn, hut]; exact fun k => hc k.2.2)]
      rw [hV]
      clear hV hso hfo hu hb hx ht hut
      have hd : decide ((n : Int) < 0) = false := by simp
      have hd2 : decide (20000 < (n : Int)) = false := by simp; omega
      by_cases hc : u = t
      · subst hc
        rw [if_pos rfl]
        go_enter Tryz.func31, Tryz.ntmps31
        go_wp2
        rw [← hn]
        have HN := hide hn
        clear hn h h2 hn2
        go_region_held3 (fun _ => True) (trivial) (first | (go_at_call 67; refine (HSO.out _).mono ?_; rintro e w1 ⟨rfl, rfl⟩) | (go_at_call 66; refine (HFO.out _).mono ?_; rintro e w2 ⟨rfl, hbl⟩))
        go_wp2
        go_ret2
        refine ⟨rfl, ?_⟩
        exact ⟨hbl.os, hbl.tape, hbl.output, hbl.size, hbl.block⟩
      · rw [if_neg hc]
        have hq := neq_lists hc
        go_enter Tryz.func31, Tryz.ntmps31
        go_wp2
        rw [← hn]
        have HN := hide hn
        clear hn h h2 hn2
        go_region_held3 (fun _ => True) (trivial) (first | (go_at_call 67; refine (HSO.out _).mono ?_; rintro e w1 ⟨rfl, rfl⟩) | (go_at_call 66; refine (HFO.out _).mono ?_; rintro e w2 ⟨rfl, hbl⟩))
        go_wp2
        go_ret2
        refine ⟨rfl, ?_⟩
        exact ⟨hbl.os, hbl.tape, hbl.output, hbl.size, hbl.block⟩

set_option maxRecDepth 100000 in
set_option maxHeartbeats 1000000 in
theorem iun_any (s : ByteArray) (w : World) (hs : s.size ≤ 1048576) (hT : Steps w) :
    Calls Tryz.prog 21 #[.string s] w fun e w' => e = .returned (unV s) ∧ Below w.heap.size w w' := by
  have HT := hide hT
  clear hT
  by_cases h : (s.size : Int) - 4 < 0
  · rw [unV_no (by omega)]
    have hd : decide ((s.size : Int) - 4 < 0) = true := by simpa using h
    go_enter Tryz.func21, Tryz.ntmps21
    go_wp2
    go_ret2
    exact ⟨rfl, Below.refl _ _⟩
  · by_cases h2 : 20000 < (s.size : Int) - 4
    · rw [unV_no (by omega)]
      have hd : decide ((s.size : Int) - 4 < 0) = false := by simpa using h
      have hd2 : decide (20000 < (s.size : Int) - 4) = true := by simpa using h2
      go_enter Tryz.func21, Tryz.ntmps21
      go_wp2
      go_ret2
      exact ⟨rfl, Below.refl _ _⟩
    · obtain ⟨n, hn⟩ : ∃ n : Nat, n = s.size - 4 := ⟨_, rfl⟩
      have hn2 : (s.size : Int) - 4 = (n : Int) := by omega
      obtain ⟨u, hu⟩ : ∃ u, u = s.extract n s.size := ⟨_, rfl⟩
      obtain ⟨b, hb⟩ : ∃ b, b = s.extract 0 n := ⟨_, rfl⟩
      have hbz : b.size ≤ 1048576 := by rw [hb]; exact Nat.le_trans (by simp; omega) hs
      have hlo := sl_lo Tryz.underlying9 s u n (by omega) hu
      have hhi := sl_hi Tryz.underlying9 s b n (by omega) hb
      obtain ⟨x, hx⟩ : ∃ x, x = sumS b := ⟨_, rfl⟩
      have hxl : x < 4294967296 := by rw [hx]; exact sumS_lt b
      obtain ⟨t, ht⟩ : ∃ t, t = bs (fourL x) := ⟨_, rfl⟩
      have hut : unT s n ↔ u = t := by unfold unT; rw [ht, hx, hb, hu]
      have hso : ∀ W, Steps W → Calls Tryz.prog 46 #[.string b] W fun e w' => e = .returned (.int .u32 (x : Int)) ∧ W = w' := by
        intro W hW; rw [hx]; exact iso_any b W (by omega) hW
      have hfo : ∀ W, Calls Tryz.prog 47 #[.int .u32 (x : Int)] W fun e w' => e = .returned (.string t) ∧ Below W.heap.size W w' := by
        intro W; rw [ht]; exact ifour_any x W hxl
      have HSO := hide hso
      have HFO := hide hfo
      have hV : unV s = if u = t then .tuple #[.string b, .bool true] else .tuple #[.string (bs []), .bool false] := by
        by_cases hc : u = t
        · rw [if_pos hc, unV_yes (by omega) (by omega) (by rw [← hn]; exact hut.2 hc), ← hn, ← hb]
        · rw [if_neg hc, unV_no (by rw [← hn, hut]; exact fun k => hc k.2.2)]
      rw [hV]
      have HB := hide hb
      clear hV hso hfo hu hb hx ht hut
      have hd : decide ((n : Int) < 0) = false := by simp
      have hd2 : decide (20000 < (n : Int)) = false := by simp; omega
      by_cases hc : u = t
      · subst hc
        rw [if_pos rfl]
        go_enter Tryz.func21, Tryz.ntmps21
        go_wp2
        rw [← hn, ← HB.out]
        have HN := hide hn
        clear hn h h2 hn2
        go_region_held3 (fun _ => True) (trivial) (first | (go_at_call 46; refine (HSO.out _ (by first | exact HT.out | exact steps_drew HT.out)).mono ?_; rintro e w1 ⟨rfl, rfl⟩) | (go_at_call 47; refine (HFO.out _).mono ?_; rintro e w2 ⟨rfl, hbl⟩))
        go_wp2_with fail
        refine (clone_any b _ hbz).mono ?_
        rintro e w3 ⟨rfl, hb3⟩
        go_wp2
        go_ret2
        refine ⟨rfl, ?_⟩
        have hb4 : Below w.heap.size w w2 := ⟨hbl.os, hbl.tape, hbl.output, hbl.size, hbl.block⟩
        exact hb4.trans (hb3.mono hb4.size)
      · rw [if_neg hc]
        have hq := neq_lists (fun k : t = u => hc k.symm)
        go_enter Tryz.func21, Tryz.ntmps21
        go_wp2
        rw [← hn, ← HB.out]
        have HN := hide hn
        clear hn h h2 hn2
        go_region_held3 (fun _ => True) (trivial) (first | (go_at_call 46; refine (HSO.out _ (by first | exact HT.out | exact steps_drew HT.out)).mono ?_; rintro e w1 ⟨rfl, rfl⟩) | (go_at_call 47; refine (HFO.out _).mono ?_; rintro e w2 ⟨rfl, hbl⟩))
        go_wp2
        go_ret2
        refine ⟨rfl, ?_⟩
        exact ⟨hbl.os, hbl.tape, hbl.output, hbl.size, hbl.block⟩
end Go.Proofs.YtchmmekhfcojgaaGreatDoor
namespace Go.Proofs.YtchmmekhfcojgaaGreatDoor
open Go.RowKit

/-- a body and its sum -/
def sealB (l : List UInt8) : ByteArray := bs l ++ bs (fourL (sumS (bs l)))

theorem four_len (n : Nat) : (bs (fourL n)).size = 4 := by rw [bs_size]; rfl

theorem seal_size (l : List UInt8) : (sealB l).size = l.length + 4 := by
  unfold sealB
  rw [ByteArray.size_append, bs_size, four_len]

theorem seal_list (l : List UInt8) : (sealB l).data.toList = l ++ fourL (sumS (bs l)) := by
  unfold sealB
  simp [bs]

theorem seal_body (l : List UInt8) : (sealB l).extract 0 ((sealB l).size - 4) = bs l := by
  apply ByteArray.ext
  apply Array.ext'
  rw [seal_size]
  simp only [ByteArray.data_extract, Array.toList_extract, List.extract, seal_list]
  simp [bs]

theorem seal_sum (l : List UInt8) : (sealB l).extract ((sealB l).size - 4) (sealB l).size = bs (fourL (sumS (bs l))) := by
  apply ByteArray.ext
  apply Array.ext'
  rw [seal_size]
  simp only [ByteArray.data_extract, Array.toList_extract, List.extract, seal_list]
  have e1 : l.length + 4 - 4 = l.length := by omega
  have e2 : l.length + 4 - l.length = 4 := by omega
  rw [e1, e2, List.drop_left]
  rfl

theorem seal_un {l : List UInt8} (h : l.length ≤ 20000) : 4 ≤ (sealB l).size ∧ (sealB l).size - 4 ≤ 20000 ∧ unT (sealB l) ((sealB l).size - 4) := by
  refine ⟨by rw [seal_size]; omega, by rw [seal_size]; omega, ?_⟩
  unfold unT
  rw [seal_sum, seal_body]

theorem un_seal {s : ByteArray} {l : List UInt8} (h1 : 4 ≤ s.size) (h3 : unT s (s.size - 4)) (hl : s.extract 0 (s.size - 4) = bs l) : s = sealB l := by
  unfold unT at h3
  rw [hl] at h3
  apply ByteArray.ext
  apply Array.ext'
  rw [seal_list]
  have e1 := congrArg (fun b : ByteArray => b.data.toList) hl
  have e2 := congrArg (fun b : ByteArray => b.data.toList) h3
  have hls : s.data.toList.length = s.size := by rw [Array.length_toList]; rfl
  simp only [ByteArray.data_extract, Array.toList_extract, List.extract, bs, Nat.sub_zero, List.drop_zero] at e1 e2
  rw [List.take_of_length_le (by rw [List.length_drop]; omega)] at e2
  have e3 := (List.take_append_drop (s.size - 4) s.data.toList).symm
  rw [e1, e2] at e3
  exact e3

theorem seal_inj {a b : List UInt8} (h : sealB a = sealB b) : a = b := by
  have h1 := congrArg (fun x : ByteArray => x.data.toList) h
  simp only [seal_list] at h1
  have h2 := congrArg List.length h1
  simp only [List.length_append, show ∀ n, (fourL n).length = 4 from fun _ => rfl] at h2
  exact (List.append_inj h1 (by omega)).1

/-- what the bytes are -/
def RpRes (s : ByteArray) (x : PkD) (xs : List RecD) (b : Bool) : Prop :=
  (b = true ∧ pkB x xs = true ∧ s = sealB (pkL x xs)) ∨ (b = false ∧ x = zeroPk ∧ xs = [] ∧ ∀ y ys, pkB y ys = true → s ≠ sealB (pkL y ys))

theorem pk_inj {x y : PkD} {xs ys : List RecD} (h1 : pkB x xs = true) (h2 : pkB y ys = true) (h : pkL x xs = pkL y ys) : x = y ∧ xs = ys := by
  have e1 := pinR_to (pk_bounds h1)
  have e2 := pinR_to (pk_bounds h2)
  rw [h, e2] at e1
  simp only [Option.some.injEq, Prod.mk.injEq] at e1
  exact ⟨e1.1.symm, e1.2.symm⟩

theorem RpRes.unique {s : ByteArray} {x y : PkD} {xs ys : List RecD} {b c : Bool} (h : RpRes s x xs b) (k : RpRes s y ys c) : x = y ∧ xs = ys ∧ b = c := by
  rcases h with ⟨rfl, h1, h2⟩ | ⟨rfl, rfl, rfl, h2⟩
  · rcases k with ⟨rfl, k1, k2⟩ | ⟨rfl, rfl, rfl, k2⟩
    · obtain ⟨e1, e2⟩ := pk_inj h1 k1 (seal_inj (h2.symm.trans k2))
      exact ⟨e1, e2, rfl⟩
    · exact absurd h2 (k2 x xs h1)
  · rcases k with ⟨rfl, k1, k2⟩ | ⟨rfl, rfl, rfl, k2⟩
    · exact absurd k2 (h2 y ys k1)
    · exact ⟨rfl, rfl, rfl⟩

theorem rp_unsealed {s : ByteArray} (h : ¬ (4 ≤ s.size ∧ s.size - 4 ≤ 20000 ∧ unT s (s.size - 4))) : RpRes s zeroPk [] false :=
  .inr ⟨rfl, rfl, rfl, fun y ys hy e => h (by subst e; exact seal_un (Nat.le_trans (pkL_len (pk_bounds hy)) (by omega)))⟩

theorem rp_unread {s : ByteArray} (h : pinR (s.extract 0 (s.size - 4)) = none) : RpRes s zeroPk [] false :=
  .inr ⟨rfl, rfl, rfl, fun y ys hy e => by
    subst e
    rw [seal_body, pinR_to (pk_bounds hy)] at h
    cases h⟩

theorem rp_wrong {s : ByteArray} {x : PkD} {xs : List RecD} (h : pinR (s.extract 0 (s.size - 4)) = some (x, xs)) (hp : pkB x xs = false) : RpRes s zeroPk [] false :=
  .inr ⟨rfl, rfl, rfl, fun y ys hy e => by
    subst e
    rw [seal_body, pinR_to (pk_bounds hy)] at h
    simp only [Option.some.injEq, Prod.mk.injEq] at h
    obtain ⟨rfl, rfl⟩ := h
    rw [hy] at hp
    cases hp⟩

theorem rp_right {s : ByteArray} {x : PkD} {xs : List RecD} (h1 : 4 ≤ s.size) (h3 : unT s (s.size - 4)) (h : pinR (s.extract 0 (s.size - 4)) = some (x, xs)) (hp : pkB x xs = true) : RpRes s x xs true :=
  .inl ⟨rfl, hp, un_seal h1 h3 (pinR_got h).1⟩

theorem RpRes.small {s : ByteArray} {x : PkD} {xs : List RecD} {b : Bool} (h : RpRes s x xs b) : x.heard.length ≤ 6 ∧ xs.length ≤ 150 ∧ ∀ r ∈ xs, recOkB r = true := by
  rcases h with ⟨_, h1, _⟩ | ⟨_, rfl, rfl, _⟩
  · have := pk_bounds h1
    exact ⟨this.few, this.list, this.recs⟩
  · exact ⟨by simp [zeroPk], by simp, by simp⟩
end Go.Proofs.YtchmmekhfcojgaaGreatDoor
