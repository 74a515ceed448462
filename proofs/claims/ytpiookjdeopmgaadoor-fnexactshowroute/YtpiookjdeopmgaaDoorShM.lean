/-
  What is shown of a route, as bytes: by the specification's way and by the program's.
-/
import Derived.Test.YtpiookjdeopmgaaDoorRtK
import Derived.Test.YtpiookjdeopmgaaDoorDec
import Derived.Lib.Join
namespace Go.Proofs.YtpiookjdeopmgaaDoor
open Go.RowKit

def i64B (n : Int) : Prop := -9223372036854775808 ≤ n ∧ n ≤ 9223372036854775807

structure RtWf (x : RtD) : Prop where
  to : i64B x.to
  cost : i64B x.cost
  far : i64B x.far
  hops : ∀ h ∈ x.hops, i64B h

theorem decN_len : ∀ (k n : Nat), n < 10 ^ k → (decN n).length ≤ k := by
  intro k
  induction k with
  | zero => intro n h; have : n = 0 := by simpa using h
            subst this; simp [decN_zero]
  | succ k ih =>
    intro n h
    by_cases h0 : 0 < n
    · rw [decN_pos h0]
      have : n / 10 < 10 ^ k := by rw [Nat.pow_succ] at h; omega
      have := ih _ this
      simp; omega
    · have : n = 0 := by omega
      subst this; simp [decN_zero]

theorem decI_len {n : Int} (h : i64B n) : (bs (decI n)).size ≤ 21 := by
  have := decN_len 20 n.natAbs (by have := h.1; have := h.2; omega)
  rw [bsz]
  unfold decI decS
  split
  · simp; omega
  · split
    · simp
    · omega

def wordL (t : Bool) : List UInt8 := if t then [116, 104, 105, 110, 103] else [110, 111, 100, 101]
def hopsL (hs : List Int) : List UInt8 := (hs.map fun h => 32 :: decI h).flatten
def farL (x : RtD) : List UInt8 := if x.kind = 4 then [32, 102, 97, 114, 32] ++ decI x.far else []
def headL (x : RtD) : List UInt8 := wordL x.thing ++ [32] ++ decI x.to ++ [32, 99, 111, 115, 116, 32] ++ decI x.cost ++ farL x ++ [32, 98, 121]
def showL (x : RtD) : List UInt8 := headL x ++ hopsL x.hops

theorem hopsL_take {hs : List Int} {k : Nat} (h : k < hs.length) : hopsL (hs.take (k + 1)) = hopsL (hs.take k) ++ (32 :: decI (hs.getD k 0)) := by
  unfold hopsL
  rw [List.take_succ_eq_append_getElem h, List.map_append, List.flatten_append]
  simp only [List.map_cons, List.map_nil, List.flatten_cons, List.flatten_nil, List.append_nil, List.getD, List.getElem?_eq_getElem h, Option.getD_some]

def partsL (x : RtD) : List (List UInt8) := [wordL x.thing, decI x.to, [99, 111, 115, 116], decI x.cost] ++ (if x.kind = 4 then [[102, 97, 114], decI x.far] else []) ++ [[98, 121]] ++ x.hops.map decI

theorem join_parts (x : RtD) : Lib.join (partsL x) [32] = showL x := by
  unfold partsL showL headL farL hopsL
  simp only [List.cons_append, List.nil_append]
  rw [Lib.join_cons]
  unfold Lib.joinTail
  split <;> simp [Function.comp_def]

theorem hopsL_len (hs : List Int) (h : ∀ x ∈ hs, i64B x) : (hopsL hs).length ≤ 22 * hs.length := by
  induction hs with
  | nil => simp [hopsL]
  | cons a t ih =>
    have h1 := ih (fun x hx => h x (List.mem_cons_of_mem _ hx))
    have h2 := decI_len (h a List.mem_cons_self)
    rw [bsz] at h2
    simp only [hopsL, List.map_cons, List.flatten_cons, List.length_append, List.length_cons] at h1 ⊢
    omega

theorem headL_len {x : RtD} (h : RtWf x) : (headL x).length ≤ 100 := by
  have h1 := decI_len h.to
  have h2 := decI_len h.cost
  have h3 := decI_len h.far
  rw [bsz] at h1 h2 h3
  unfold headL farL wordL
  split <;> split <;> simp <;> omega
end Go.Proofs.YtpiookjdeopmgaaDoor
