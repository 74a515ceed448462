/-
  Nears (two numbers) as values and in rows; laws.toNear, eqNear, toNearS, eqNearS, szNearS.
-/
import Derived.Test.YtnpafmjfhglbhaaStructKit
import Derived.Deep.RegionHeld3
namespace Go.Proofs.Ytnpafmjfhglbhaa
open Go.RowKit

structure Nr where
  to : Int
  c : Int
  deriving DecidableEq

instance : Inhabited Nr := ⟨⟨0, 0⟩⟩

def nrV (l : Nr) : Value := .agg #[.int .i64 l.to, .int .i64 l.c]

def nrE (l : Nr) : List Value := [.int .i64 l.to, .int .i64 l.c]

theorem nrE_len (l : Nr) : (nrE l).length = 2 := rfl

def NearsAt (W : World) (v : Value) (ls : List Nr) (B : Nat) : Prop := StructsAt nrE 2 W v ls B

theorem NearsAt.then {W W' : World} {v : Value} {ls : List Nr} (h : NearsAt W v ls W.heap.size) (hb : Below W.heap.size W W') : NearsAt W' v ls W'.heap.size := RowAt.then h hb

theorem NearsAt.shape {W : World} {v : Value} {ls : List Nr} {B : Nat} (h : NearsAt W v ls B) : ∃ a cap, v = .slice a ls.length cap := by obtain ⟨a, cap, h, _⟩ := h; exact ⟨a, cap, h⟩

theorem NearsAt.cells {W : World} {v : Value} {ls : List Nr} {B : Nat} (h : NearsAt W v ls B) (i : Nat) (l : Nr) (hl : ls[i]? = some l) :
    ∃ b off cap, v = .slice (some ⟨b, off, none⟩) ls.length cap ∧ b < B ∧ W.cell? ⟨b, off + i * 2, none⟩ = some (.int .i64 l.to) ∧ W.cell? ⟨b, off + i * 2 + 1, none⟩ = some (.int .i64 l.c) := by
  obtain ⟨b, off, cap, hv, hb, hc⟩ := StructsAt.cell h nrE_len i l hl
  exact ⟨b, off, cap, hv, hb, hc 0 _ rfl, hc 1 _ rfl⟩

def nr0 : Nr := ⟨0, 0⟩

end Go.Proofs.Ytnpafmjfhglbhaa
