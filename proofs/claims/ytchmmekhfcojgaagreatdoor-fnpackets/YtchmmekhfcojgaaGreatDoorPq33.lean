/-
  The program's reader of packets: a record, and the list of records.
  The program's reader of packets: the list of records.
  The deferred function of the program's reader of packets.
-/
import Derived.Test.YtchmmekhfcojgaaGreatDoorPq31
import Derived.Test.YtchmmekhfcojgaaGreatDoorPq32
import Derived.Test.YtchmmekhfcojgaaGreatDoorPq3
import Derived.Test.YtchmmekhfcojgaaGreatDoorPq2
import Derived.Deep.WholeRow
import Derived.Defers
import Derived.Recover
namespace Go.Proofs.YtchmmekhfcojgaaGreatDoor
open Go.RowKit

set_option linter.unusedSimpArgs false

/-- a short text, and the record that it is -/
def recO (s : ByteArray) (p : Nat) : Option (RecD × Nat) := (shO s (p : Int)).bind fun y => if okI y.1 then some (readD y.1, y.2) else none

theorem shO_le {s t : ByteArray} {x : Int} {q : Nat} (h : shO s x = some (t, q)) : t.size ≤ s.size ∧ q ≤ s.size := by
  unfold shO at h
  cases hr : rdR s x with
  | none => rw [hr] at h; cases h
  | some y =>
    rw [hr] at h
    simp only [Option.bind_some] at h
    split at h
    · rename_i hc
      simp only [Option.some.injEq, Prod.mk.injEq] at h
      obtain ⟨rfl, rfl⟩ := h
      exact ⟨extract_size _ _ _, hc.2⟩
    · cases h

theorem recO_le {s : ByteArray} {p q : Nat} {x : RecD} (h : recO s p = some (x, q)) : q ≤ s.size := by
  unfold recO at h
  cases hr : shO s (p : Int) with
  | none => rw [hr] at h; cases h
  | some y =>
    obtain ⟨t, q'⟩ := y
    rw [hr] at h
    simp only [Option.bind_some] at h
    split at h
    · simp only [Option.some.injEq, Prod.mk.injEq] at h
      obtain ⟨_, rfl⟩ := h
      exact (shO_le hr).2
    · cases h

def RecOut (o : Option (RecD × Nat)) (s : ByteArray) (z : Nat) (w : World) (e : Ending) (w' : World) : Prop :=
  w.grownBy w' (some z) ∧ ((o = none ∧ e = .panicked fault) ∨ ∃ u x q, o = some (x, q) ∧ e = .returned (.agg (recC x u)) ∧ w'.ownsRow w.heap.size 100 2 u x.near.length (flat nrE x.near) ∧ RdAt w' z 91 s q false)

/-- ReadShort leaves the reader's cells as they are -/
theorem short_at (z p : Nat) (s : ByteArray) (hs : s.size ≤ 1048576) (W : World) (h : W.heap[z]? = some (.cells #[.string s, .int .i64 (p : Int), .bool false] 91 (0, 0))) :
    Calls Tryz.prog 103 #[.string s, .int .i64 (p : Int)] W fun e w' => e = .returned (shT (shO s (p : Int))) ∧ Below W.heap.size W w' ∧ w'.cell? ⟨z, 0, none⟩ = some (.string s) ∧ w'.cell? ⟨z, 1, none⟩ = some (.int .i64 (p : Int)) := by
  refine (ish_any s (p : Int) W hs).mono ?_
  rintro e w' ⟨h1, hb⟩
  have hh : w'.heap[z]? = _ := (hb.block _ (lt_of_heap h)).trans h
  have d0 := cells_at hh 0
  have d1 := cells_at hh 1
  simp at d0 d1
  exact ⟨h1, hb, d0, d1⟩

theorem alloc_grown {w w' : World} {o : Obj} (z : Nat) (h : Below (w.alloc o).drew.heap.size (w.alloc o).drew w') : w.grownBy w' (some z) := by
  have hs : w.heap.size + 1 ≤ w'.heap.size := by
    have := h.size
    have h2 : (w.alloc o).drew.heap.size = w.heap.size + 1 := by show (w.alloc o).heap.size = _; simp
    omega
  exact ⟨h.os, h.tape, h.output, by omega, fun k hk _ => (h.block k (by show k < (w.alloc o).heap.size; simp; omega)).trans (Below.heap_alloc _ _ _ hk)⟩

theorem grown_alloc1 {w w' : World} {o : Obj} {z : Nat} (h : w.grownBy w' (some z)) : w.grownBy (w'.alloc o) (some z) := by
  have hs := h.size
  exact ⟨h.os, h.tape, h.output, by simp; omega, fun k hk hr => (Below.heap_alloc _ _ _ (by omega)).trans (h.block k hk hr)⟩

theorem grown_new {w w' w'' : World} {z g : Nat} (h : w.grownBy w' (some z)) (h2 : w'.grownBy w'' (some g)) (hg : w.heap.size ≤ g) : w.grownBy w'' (some z) := by
  have hs := h.size
  have hs2 := h2.size
  exact ⟨h2.os.trans h.os, h2.tape.trans h.tape, h2.output.trans h.output, by omega, fun k hk hr => (h2.block k (by omega) (by simp; omega)).trans (h.block k hk hr)⟩

theorem alloc_row {w w' : World} {o : Obj} (h : Below (w.alloc o).drew.heap.size (w.alloc o).drew w') : w'.heap[w.heap.size]? = some o :=
  (h.block w.heap.size (by show w.heap.size < (w.alloc o).heap.size; simp)).trans (heap_alloc_last w o)

set_option maxRecDepth 100000 in
set_option maxHeartbeats 2000000 in
theorem recordP_any (z p : Nat) (s : ByteArray) (w : World) (hs : s.size ≤ 1048576) (h : RdAt w z 91 s p false) :
    Calls Tryz.prog 82 #[.pointer (some ⟨z, 0, none⟩)] w fun e w' => RecOut (recO s p) s z w e w' := by
  unfold RdAt at h
  have c0 := cells_at h 0
  have c1 := cells_at h 1
  simp at c0 c1
  have hz := lt_of_heap h
  have hzn : z ≠ w.heap.size := by omega
  have HH := hide h
  have HS := hide (short_at z p s hs)
  have HY := hide (hold_yes z)
  have HN := hide (hold_no z)
  clear h
  cases hsh : shO s (p : Int) with
  | none =>
    have HO := hide (show recO s p = none by unfold recO; rw [hsh]; rfl)
    rw [hsh] at HS
    simp only [shT] at HS
    clear hsh
    go_enter Tryz.func82, Tryz.ntmps82
    go_wp2
    go_region_held3 (fun W => W.cell? ⟨z, 0, none⟩ = some (.string s) ∧ W.cell? ⟨z, 1, none⟩ = some (.int .i64 (p : Int))) (first | go_keep | (refine ⟨?_, ?_⟩ <;> assumption)) (first | (go_at_call 103; refine (HS.out _ (by exact (Below.heap_alloc _ _ _ hz).trans HH.out)).mono ?_; rintro e w1 ⟨rfl, b1, k0, k1⟩))
    have G1 := hide (alloc_grown z b1)
    clear b1 k0 k1 HH HS
    go_wp2_with fail
    refine (HN.out _).mono ?_
    rintro e w2 ⟨rfl, rfl⟩
    go_wp2
    exact ⟨rfl, G1.out, .inl ⟨HO.out, rfl⟩⟩
  | some y =>
    obtain ⟨t, q⟩ := y
    have HQ := hide (shO_le hsh)
    have HO := hide (show recO s p = if okI t then some (readD t, q) else none by unfold recO; rw [hsh]; rfl)
    rw [hsh] at HS
    simp only [shT] at HS
    clear hsh
    have HR := hide (ireadR_any t)
    go_enter Tryz.func82, Tryz.ntmps82
    go_wp2
    go_region_held3 (fun W => W.cell? ⟨z, 0, none⟩ = some (.string s) ∧ W.cell? ⟨z, 1, none⟩ = some (.int .i64 (p : Int))) (first | go_keep | (refine ⟨?_, ?_⟩ <;> assumption)) (first | (go_at_call 103; refine (HS.out _ (by exact (Below.heap_alloc _ _ _ hz).trans HH.out)).mono ?_; rintro e w1 ⟨rfl, b1, k0, k1⟩))
    have hh1 : w1.heap[z]? = _ := (b1.block z (by show z < (w.alloc _).heap.size; simp; omega)).trans ((Below.heap_alloc _ _ _ hz).trans HH.out)
    have f1 := frozen_at hh1 1
    have G1 := hide (alloc_grown z b1)
    have RW := hide (alloc_row b1)
    have hsz1 := G1.out.size
    have HH1 := hide hh1
    clear hh1 b1 k0 HH HS c0 c1
    go_wp2_with fail
    refine (HY.out _).mono ?_
    rintro e w2 ⟨rfl, rfl⟩
    go_wp2_with fail
    refine (HR.out _ (by have := HQ.out; omega)).mono ?_
    rintro e w3 ⟨u, rfl, hown, b3⟩
    have hzn1 : w.heap.size < w1.heap.size := lt_of_heap RW.out
    have hs1 : (w1.setCell ⟨z, 1, none⟩ (.int .i64 (q : Int))).heap.size = w1.heap.size := by simp
    have r3 : RdAt w3 z 91 s q false := (b3.block z (by omega)).trans (heap_setCell_same _ z 1 _ _ _ HH1.out)
    have RW3 := hide ((b3.block w.heap.size (by omega)).trans ((heap_setCell_other w1 ⟨z, 1, none⟩ w.heap.size _ (by show w.heap.size ≠ z; omega)).trans RW.out))
    have G3 := hide (grown_trans G1.out (grown_trans (grown_set w1 z 1 (.int .i64 (q : Int))) (⟨b3.os, b3.tape, b3.output, b3.size, fun k hk _ => b3.block k hk⟩ : (w1.setCell ⟨z, 1, none⟩ (.int .i64 (q : Int))).grownBy w3 (some z))))
    have hs3 : w1.heap.size ≤ w3.heap.size := by have := b3.size; omega
    have OW := hide (owns_baseS (b0 := w.heap.size + 1) hown (by omega))
    have R3 := hide r3
    obtain ⟨x, hx⟩ : ∃ x, readD t = x := ⟨_, rfl⟩
    rw [hx] at OW HO ⊢
    obtain ⟨ua, uc, rfl⟩ := owns_lenS OW.out
    clear hown b3 r3 hs1 HR RW HH1 G1 k1 f1 hx
    cases hok : okI t
    · rw [hok] at HO
      simp only [recC]
      go_wp2_with fail
      refine (HN.out _).mono ?_
      rintro e w5 ⟨rfl, rfl⟩
      go_wp2
      exact ⟨rfl, grown_alloc1 G3.out, .inl ⟨by rw [HO.out]; rfl, rfl⟩⟩
    · rw [hok] at HO
      simp only [recC]
      go_wp2_with fail
      refine (HY.out _).mono ?_
      rintro e w5 ⟨rfl, h5⟩
      have G5 := hide (grown_alloc1 (o := .cells (recC x (.slice ua x.near.length uc)) 51) G3.out)
      have n5 := heap_alloc_last w3 (.cells (recC x (.slice ua x.near.length uc)) 51)
      have q5 := (Below.heap_alloc w3 (.cells (recC x (.slice ua x.near.length uc)) 51) w.heap.size (by omega)).trans RW3.out
      have O5 := hide (OW.out.alloc (.cells (recC x (.slice ua x.near.length uc)) 51))
      have R5 := hide (show RdAt _ z 91 s q false from (Below.heap_alloc w3 (.cells (recC x (.slice ua x.near.length uc)) 51) z (by omega)).trans R3.out)
      simp only [recC] at G5 n5 q5 O5 R5
      rw [h5] at G5 n5 q5 O5 R5
      clear h5 OW R3 RW3 G3
      have y0 := cells_at n5 0
      have y1 := cells_at n5 1
      have y2 := cells_at n5 2
      have y3 := cells_at n5 3
      have y4 := cells_at n5 4
      have y5 := cells_at n5 5
      have y6 := cells_at n5 6
      have y7 := cells_at n5 7
      simp at y0 y1 y2 y3 y4 y5 y6 y7
      have u0 := cells_at q5 0
      have u1 := cells_at q5 1
      have u2 := cells_at q5 2
      have u3 := cells_at q5 3
      have u4 := cells_at q5 4
      have u5 := cells_at q5 5
      have u6 := cells_at q5 6
      have u7 := cells_at q5 7
      simp at u0 u1 u2 u3 u4 u5 u6 u7
      have fu := frozen_at q5
      have FF := hide (fin85 x (.slice ua x.near.length uc) q5)
      have G8 := hide (grown85 w5 w.heap.size x (.slice ua x.near.length uc))
      have O8 := hide (owns_baseS (b0 := w.heap.size) (O5.out.kept G8.out (by
        cases hv : (Value.slice ua x.near.length uc).ownBlock with
        | none => exact .inl rfl
        | some g => exact .inr (fun e => by have := (O5.out.lt g hv).1; simp at e; omega))) (by omega))
      have R8 := hide (show RdAt _ z 91 s q false from (G8.out.block z (by have := lt_of_heap R5.out; omega) (by simp; omega)).trans R5.out)
      have GF := hide (grown_new G5.out G8.out (Nat.le_refl _))
      clear n5 q5 O5 R5 G5 G8
      go_wp2_with fail
      (try simp only [Exit.inBlock, Exit.then])
      refine bodyPost_ret (results_cell_row rfl _ _ w.heap.size 51 (recC x (.slice ua x.near.length uc)) (0, 0) _ rfl FF.out Tryz.underlying51 rfl (by kernel_rfl)) rfl ?_
      exact ⟨GF.out, .inr ⟨_, x, q, by rw [HO.out]; rfl, rfl, O8.out, R8.out⟩⟩
end Go.Proofs.YtchmmekhfcojgaaGreatDoor
namespace Go.Proofs.YtchmmekhfcojgaaGreatDoor
open Go.RowKit

set_option linter.unusedSimpArgs false

/-- so many records, one behind another -/
def recsA (s : ByteArray) (p : Nat) : Nat → Option (List RecD × Nat)
  | 0 => some ([], p)
  | k + 1 => (recsA s p k).bind fun x => (recO s x.2).map fun y => (x.1 ++ [y.1], y.2)

theorem recsA_none {s : ByteArray} {p k : Nat} (h : recsA s p k = none) : ∀ m, recsA s p (k + m) = none
  | 0 => h
  | m + 1 => by
    show (recsA s p (k + m)).bind _ = none
    rw [recsA_none h m]
    rfl

theorem recsA_bad {s : ByteArray} {p k q : Nat} {l : List RecD} (h : recsA s p k = some (l, q)) (hb : recO s q = none) : recsA s p (k + 1) = none := by
  show (recsA s p k).bind _ = none
  rw [h]
  simp [hb]

theorem recsA_good {s : ByteArray} {p k q q' : Nat} {l : List RecD} {x : RecD} (h : recsA s p k = some (l, q)) (hb : recO s q = some (x, q')) : recsA s p (k + 1) = some (l ++ [x], q') := by
  show (recsA s p k).bind _ = _
  rw [h]
  simp [hb]

theorem recsA_len {s : ByteArray} {p : Nat} (hp : p ≤ s.size) : ∀ {k : Nat} {l : List RecD} {q : Nat}, recsA s p k = some (l, q) → l.length = k ∧ q ≤ s.size
  | 0, l, q, h => by
    simp only [recsA, Option.some.injEq, Prod.mk.injEq] at h
    obtain ⟨rfl, rfl⟩ := h
    exact ⟨rfl, hp⟩
  | k + 1, l, q, h => by
    cases he : recsA s p k with
    | none => have := recsA_none he 1; rw [this] at h; cases h
    | some x =>
      obtain ⟨l0, q0⟩ := x
      have h0 := recsA_len hp he
      cases hb : recO s q0 with
      | none => rw [recsA_bad he hb] at h; cases h
      | some y =>
        obtain ⟨x, q'⟩ := y
        rw [recsA_good he hb] at h
        simp only [Option.some.injEq, Prod.mk.injEq] at h
        obtain ⟨rfl, rfl⟩ := h
        exact ⟨by simp [h0.1], recO_le hb⟩

def recsB (b : Bool) (s : ByteArray) (p : Nat) (v : Int) : Option (List RecD × Nat) := if b then none else recsA s p v.toNat

/-- what list is read: how many, and so many records; or the fault -/
def recsR (s : ByteArray) (p : Nat) : Option (List RecD × Nat) := recsB (varR s p false).b s (varR s p false).p (varR s p false).v

theorem recsB_yes {s : ByteArray} {p n : Nat} : recsB false s p (n : Int) = recsA s p n := rfl

def RecsOut (o : Option (List RecD × Nat)) (s : ByteArray) (z : Nat) (w : World) (e : Ending) (w' : World) : Prop :=
  w.grownBy w' (some z) ∧ ((o = none ∧ e = .panicked fault) ∨ ∃ u ps q, o = some (fsts ps, q) ∧ e = .returned u ∧ RecsOwn w' w.heap.size w'.heap.size u ps ∧ RdAt w' z 91 s q false)

theorem recs_none (W : World) (lo hi : Nat) : RecsOwn W lo hi (.slice none 0 0) [] where
  row := World.ownsRow_nil _ _ _ _
  top := by intro k hk; simp [Value.ownBlock] at hk
  nears := by simp
  apart := by simp

set_option maxRecDepth 100000 in
set_option maxHeartbeats 2000000 in
theorem recordsP_any (z p : Nat) (s : ByteArray) (w : World) (hs : s.size ≤ 1048576) (hp : p ≤ s.size) (h : RdAt w z 91 s p false) :
    Calls Tryz.prog 52 #[.pointer (some ⟨z, 0, none⟩)] w fun e w' => RecsOut (recsR s p) s z w e w' := by
  have HN := hide (numP_any z p s w hs hp h)
  have hz := lt_of_heap h
  have hvp := varR_le (b := false) hp
  have hvr := varR_range (b := false) hp
  unfold recsR
  obtain ⟨⟨v, p', b⟩, he⟩ : ∃ r, varR s p false = r := ⟨_, rfl⟩
  rw [he] at HN hvp hvr ⊢
  simp only [] at HN hvp hvr ⊢
  clear h
  go_enter Tryz.func52, Tryz.ntmps52
  go_wp2_with fail
  refine HN.out.mono ?_
  rintro e w1 ⟨hg, r1, g1⟩
  rcases hg with ⟨rfl, rfl⟩ | ⟨rfl, rfl⟩
  case inr =>
    have G1 := hide g1
    clear r1 g1
    go_wp2
    exact ⟨rfl, G1.out, .inl ⟨rfl, rfl⟩⟩
  obtain ⟨n, rfl⟩ : ∃ n : Nat, v = (n : Int) := ⟨v.toNat, by omega⟩
  have R1 := hide r1
  have G1 := hide g1
  clear r1 g1 HN he
  go_wp2
  go_loopw [6, 3] (fun i o wr => ∃ (k q : Nat) (ps : List RP), k ≤ n ∧ i = .int .i64 k ∧ Hid (recsA s p' k = some (fsts ps, q)) ∧ RecsOwn wr w.heap.size wr.heap.size o ps ∧ RdAt wr z 91 s q false ∧ w.grownBy wr (some z)) (fun i _ _ => n - (intOf i).toNat)
  case atStart => exact ⟨0, p', [], by omega, rfl, hide rfl, recs_none _ _ _, R1.out, G1.out⟩
  case round =>
    clear R1 G1
    obtain ⟨k, q, ps, hk, rfl, hh, ho, hr, hg⟩ := hrel
    obtain ⟨oa, oc, rfl⟩ := owns_lenS ho.row
    have HLN := hide (recsA_len hvp hh.out)
    have HPL := hide (show ps.length ≤ n by have := HLN.out.1; simp [fsts] at this; omega)
    by_cases hlt : k < n
    · have hlt' : (k : Int) < (n : Int) := by omega
      have HPL2 := hide (show ps.length + 1 ≤ 1000000000 by have := HLN.out.1; simp [fsts] at this; omega)
      have HO := hide (recordP_any z q s wr hs hr)
      have HG := hide hg
      have OW := hide ho
      have hzr := lt_of_heap hr
      have hlw : w.heap.size ≤ wr.heap.size := hg.size
      clear ho hr hg
      go_wp2_with fail
      refine HO.out.mono ?_
      rintro e w2 ⟨g2, hgv⟩
      rcases hgv with ⟨h0, rfl⟩ | ⟨u, x, q', h0, rfl, o2, r2⟩
      · have HNO := hide (show recsA s p' n = none by
          have h1 := recsA_bad hh.out h0
          have h2 := recsA_none h1 (n - (k + 1))
          rwa [show k + 1 + (n - (k + 1)) = n by omega] at h2)
        have G2 := hide (grown_trans HG.out g2)
        clear g2 h0
        go_wp2
        exact ⟨rfl, G2.out, .inl ⟨recsB_yes.trans HNO.out, rfl⟩⟩
      · obtain ⟨na, nc, rfl⟩ := owns_lenS o2
        have HST := hide (show recsA s p' (k + 1) = some (fsts (ps ++ [(x, .slice na x.near.length nc)]), q') by rw [recsA_good hh.out h0]; simp [fsts])
        have OW2 := hide (OW.out.grownP g2 (by omega))
        have hs2 := g2.size
        have R2 := hide r2
        have G2 := hide (grown_trans HG.out g2)
        have HN2 := hide (show NearOwn w2 wr.heap.size w2.heap.size (x, .slice na x.near.length nc) from ⟨o2, fun k hk => (o2.lt k hk).2⟩)
        clear o2 r2 g2 h0
        simp only [recC]
        go_wp2_with (first
          | (at_builtin; refine append_struct5 encP_len (by omega) (by omega) _ rfl _ _ 25 rfl w.heap.size 51 Tryz.underlying25 (.agg (recC zeroRD (.slice none 0 0))) rfl Tryz.infoRec _ ps (x, .slice na x.near.length nc) (encP_one _ _ _ _) rfl (OW2.out.row.alloc _) ⟨w2.heap.size, 0, none⟩ 1 rfl (news_struct (cs := encP (x, .slice na x.near.length nc))) (by have := HPL2.out; omega) (by simp; omega) ?_))
        intro v' w3 ho3 hg3
        have h4 := (OW2.out.keep (W' := w2.alloc (.cells (encP (x, .slice na x.near.length nc)).toArray 51)) (fun j _ _ h3 => Below.heap_alloc _ _ _ h3))
        have ow5 := h4.push2 (p := (x, .slice na x.near.length nc)) (by simp; omega) (by omega) ((HN2.out.keep (fun j _ _ h3 => Below.heap_alloc _ _ _ h3)).wide (Nat.le_refl _) (by simp)) ho3 hg3
        obtain ⟨va, vc, rfl⟩ := owns_lenS ho3
        have R3 := hide (rd_app R2.out hg3 OW2.out.row (by omega))
        have G3 := hide (grown_app G2.out hg3 OW2.out.row rfl)
        have O3 := hide ow5
        clear ho3 hg3 h4 ow5
        go_wp2
        go_roundw
        case rel => exact ⟨k + 1, q', ps ++ [(x, .slice na x.near.length nc)], by omega, by go_num, HST, by simpa using O3.out, R3.out, G3.out⟩
        case measure => simp [intOf]; omega
    · have hkn : k = n := by omega
      have HH := hide hh.out
      rw [hkn] at HH
      have OW := hide ho
      have RR := hide hr
      have GG := hide hg
      clear ho hr hg hh hkn
      go_wp2
      go_ret
      exact ⟨GG.out, .inr ⟨_, ps, q, recsB_yes.trans HH.out, rfl, OW.out, RR.out⟩⟩
end Go.Proofs.YtchmmekhfcojgaaGreatDoor
namespace Go.Proofs.YtchmmekhfcojgaaGreatDoor
open Go.RowKit

set_option linter.unusedSimpArgs false

theorem assert_no (t : TypeId) (w : World) : Sem.run Tryz.prog (Instr.typeAssert Value.nilIface t 86 true) w = .ok (.tuple #[.agg #[], .bool false]) w := by
  kernel_rfl

theorem assert_yes (t : TypeId) (w : World) : Sem.run Tryz.prog (Instr.typeAssert (.iface 86 (.agg #[])) t 86 true) w = .ok (.tuple #[.agg #[], .bool true]) w := by
  kernel_rfl

set_option maxRecDepth 100000 in
set_option maxHeartbeats 1000000 in
theorem catch_idle (p p2 : Addr) (w : World) :
    CallsD Tryz.prog 49 #[.pointer (some p), .pointer (some p2)] .returning w fun e u' w' => e = .returned (.tuple #[]) ∧ u' = .returning ∧ w' = w.alloc (.cells #[] 86) := by
  refine callsD_of_wpS Tryz.func49 rfl fun c₀ cs hu => ?_
  apply wpS_seq
  apply wpS_region
  simp [wpOpsS, go_sem, recoverD, hu, Tryz.ntmps49, Exit.thenS, assert_no]
  apply wpS_seq
  apply wpS_region
  simp [wpOpsS, go_sem, Exit.thenS]
  refine wpS_cond (t := false) (by simp [Act.eval, Array.replicate]) ?_
  simp only [Bool.false_eq_true, if_false]
  refine wpS_of_wp (wp_skip ?_)
  cases c₀
  simp_all [bodyPostS, results, Tryz.results49]

abbrev putZ (W : World) (r : Nat) : World := (((((W.setCell ⟨r, 0, none⟩ (.int .i64 0)).setCell ⟨r, 1, none⟩ (.int .i64 0)).setCell ⟨r, 2, none⟩ (.int .i64 0)).setCell ⟨r, 3, none⟩ (.int .i64 0)).setCell ⟨r, 4, none⟩ (.slice none 0 0)).setCell ⟨r, 5, none⟩ (.slice none 0 0)

set_option maxRecDepth 100000 in
set_option maxHeartbeats 1000000 in
theorem catch_fault (r r2 : Nat) (c0 c1 c2 c3 c4 c5 c6 : Value) (w : World) (hr : w.heap[r]? = some (.cells #[c0, c1, c2, c3, c4, c5] 27)) (hr2 : w.heap[r2]? = some (.cells #[c6] 4)) (hne : r2 ≠ r) :
    CallsD Tryz.prog 49 #[.pointer (some ⟨r, 0, none⟩), .pointer (some ⟨r2, 0, none⟩)] (.panicking fault) w fun e u' w' => e = .returned (.tuple #[]) ∧ u' = .panicking [{ v := .iface 86 (.agg #[]), recovered := true }] ∧
      w' = (putZ (w.alloc (.cells #[] 86)) r).setCell ⟨r2, 0, none⟩ (.bool false) := by
  have q1 := (Below.heap_alloc w (.cells #[] 86) r (lt_of_heap hr)).trans hr
  have q2 := (Below.heap_alloc w (.cells #[] 86) r2 (lt_of_heap hr2)).trans hr2
  refine callsD_of_wpS Tryz.func49 rfl fun c₀ cs hu => ?_
  apply wpS_seq
  apply wpS_region
  simp [wpOpsS, go_sem, recoverD, hu, Tryz.ntmps49, Exit.thenS, assert_yes]
  generalize w.alloc (.cells #[] 86) = W at q1 q2 ⊢
  apply wpS_seq
  apply wpS_region
  simp [wpOpsS, go_sem, Exit.thenS]
  refine wpS_cond (t := true) (by simp [Act.eval, Array.replicate]) ?_
  simp only [if_true]
  have u0 := cells_at q1 0
  have u1 := cells_at q1 1
  have u2 := cells_at q1 2
  have u3 := cells_at q1 3
  have u4 := cells_at q1 4
  have u5 := cells_at q1 5
  have u6 := cells_at q2 0
  simp at u0 u1 u2 u3 u4 u5 u6
  have fu := frozen_at q1
  have fv := frozen_at q2
  clear hr hr2 q1 q2
  apply wpS_region
  simp [wpOpsS, go_sem, u0, u1, u2, u3, u4, u5, u6, fu, fv, hne, bodyPostS, results, Tryz.results49, Array.replicate]
end Go.Proofs.YtchmmekhfcojgaaGreatDoor
