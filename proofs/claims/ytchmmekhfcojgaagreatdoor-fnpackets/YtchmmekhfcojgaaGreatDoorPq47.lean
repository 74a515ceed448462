/-
  spec.ReadPacket under way: what stands where.
-/
import Derived.Test.YtchmmekhfcojgaaGreatDoorPq45
import Derived.Test.YtchmmekhfcojgaaGreatDoorPq46
import Derived.Test.YtchmmekhfcojgaaGreatDoorPq42
import Derived.Test.YtchmmekhfcojgaaGreatDoorPq38
namespace Go.Proofs.YtchmmekhfcojgaaGreatDoor
open Go.RowKit

structure RpSt (w W : World) (z q : Nat) (s : ByteArray) (p : Nat) (b : Bool) (cs : Array Value) : Prop where
  rd : RdAt W z 62 s p b
  res : W.heap[w.heap.size]? = some (.cells #[.int .i64 0, .int .i64 0, .int .i64 0, .int .i64 0, .slice none 0 0, .slice none 0 0] 27)
  box : W.heap[q]? = some (.cells cs 27)
  bel : Below w.heap.size w W
  o1 : w.heap.size < z
  o2 : z < q

theorem RpSt.keep {w W W' : World} {z q p : Nat} {s : ByteArray} {b : Bool} {cs : Array Value} (h : RpSt w W z q s p b cs) (hb : Below w.heap.size w W') (hk : ∀ k, k ≤ q → k < W.heap.size → W'.heap[k]? = W.heap[k]?) : RpSt w W' z q s p b cs where
  rd := (hk z (by have := h.o2; omega) (lt_of_heap h.rd)).trans h.rd
  res := (hk _ (by have := h.o1; have := h.o2; omega) (lt_of_heap h.res)).trans h.res
  box := (hk q (Nat.le_refl _) (lt_of_heap h.box)).trans h.box
  bel := hb
  o1 := h.o1
  o2 := h.o2

theorem RpSt.read {w W W' : World} {z q p p' : Nat} {s : ByteArray} {b b' : Bool} {cs : Array Value} (h : RpSt w W z q s p b cs) (g : W.grownBy W' (some z)) (r : RdAt W' z 62 s p' b') : RpSt w W' z q s p' b' cs where
  rd := r
  res := (g.block _ (lt_of_heap h.res) (by have := h.o1; simp; omega)).trans h.res
  box := (g.block _ (lt_of_heap h.box) (by have := h.o2; simp; omega)).trans h.box
  bel := h.bel.grown g h.bel.size (fun j e => by have := h.o1; simp at e; omega)
  o1 := h.o1
  o2 := h.o2

theorem RpSt.set {w W : World} {z q p : Nat} {s : ByteArray} {b : Bool} {cs : Array Value} (h : RpSt w W z q s p b cs) (j : Nat) (u : Value) : RpSt w (W.setCell ⟨q, j, none⟩ u) z q s p b (cs.setIfInBounds j u) where
  rd := (heap_setCell_other W ⟨q, j, none⟩ z _ (by have := h.o2; show z ≠ q; omega)).trans h.rd
  res := (heap_setCell_other W ⟨q, j, none⟩ _ _ (by have := h.o1; have := h.o2; show w.heap.size ≠ q; omega)).trans h.res
  box := heap_setCell_same W q j _ _ u h.box
  bel := h.bel.setCell (by have := h.o1; have := h.o2; show w.heap.size ≤ q; omega) u
  o1 := h.o1
  o2 := h.o2

theorem RpSt.alloc {w W : World} {z q p : Nat} {s : ByteArray} {b : Bool} {cs : Array Value} (h : RpSt w W z q s p b cs) (o : Obj) : RpSt w (W.alloc o) z q s p b cs := h.keep (h.bel.alloc h.bel.size o) (fun k _ hk => Below.heap_alloc W o k hk)

theorem RpSt.drew {w W : World} {z q p : Nat} {s : ByteArray} {b : Bool} {cs : Array Value} (h : RpSt w W z q s p b cs) : RpSt w W.drew z q s p b cs := h.keep h.bel.drew (fun _ _ _ => rfl)

theorem RpSt.later {w W W' : World} {z q p : Nat} {s : ByteArray} {b : Bool} {cs : Array Value} (h : RpSt w W z q s p b cs) (hb : Below W.heap.size W W') : RpSt w W' z q s p b cs := h.keep (h.bel.trans (hb.mono h.bel.size)) (fun k _ hk => hb.block k hk)

theorem RpSt.row {w W W' : World} {z q p : Nat} {s : ByteArray} {b : Bool} {cs : Array Value} {row : Option Nat} (h : RpSt w W z q s p b cs) (g : W.grownBy W' row) (hr : ∀ k, row = some k → q < k) : RpSt w W' z q s p b cs :=
  h.keep (h.bel.grown g h.bel.size (fun j e => by have := hr j e; have := h.o1; have := h.o2; omega)) (fun k hk hl => g.block k hl (fun e => by have := hr k e.symm; omega))

theorem oneR_le9 {s : ByteArray} {p : Nat} {b : Bool} (hp : p ≤ s.size) : (oneR s p b).p ≤ s.size := oneR_le hp

theorem varR_nat {s : ByteArray} {p : Nat} {b : Bool} (hp : p ≤ s.size) : ∃ n : Nat, (varR s p b).v = (n : Int) ∧ n ≤ 1000000000 := by
  unfold varR
  split
  · exact ⟨0, rfl, by omega⟩
  · split
    · rename_i a c e
      exact ⟨_, rfl, (rdO_bytes hp e).1⟩
    · exact ⟨0, rfl, by omega⟩

theorem takeB_size (s : ByteArray) (p : Nat) (b : Bool) (n : Nat) : (takeB s p b n).size ≤ s.size := by
  unfold takeB
  split
  · rw [bs_size]; simp
  · rw [ByteArray.size_extract]; omega

theorem readD_near (t : ByteArray) : (readD t).near.length ≤ 6 := by
  cases h : okI t with
  | true => exact recOk_near (text_back h).1
  | false =>
    unfold readD
    rw [h]
    simp [zeroR]
end Go.Proofs.YtchmmekhfcojgaaGreatDoor
