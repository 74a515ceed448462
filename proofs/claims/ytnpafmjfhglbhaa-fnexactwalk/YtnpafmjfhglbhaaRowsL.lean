/-
  laws.szRecordS, toRecordS, eqRecordS: their contracts.
-/
import Derived.Test.YtnpafmjfhglbhaaRowsK
namespace Go.Proofs.Ytnpafmjfhglbhaa
open Go.RowKit

theorem szR_neg {q : Int} {n : Nat} : szR q n < 0 ∨ (0 ≤ szR q n ∧ szR q n = q - (n : Int)) := by
  unfold szR
  split <;> omega

def fsts (ps : List RP) : List RecD := ps.map (·.1)

theorem fsts_at {ps : List RP} {i : Nat} {p : RP} (h : ps[i]? = some p) : (fsts ps)[i]? = some p.1 := by simp [fsts, h]

end Go.Proofs.Ytnpafmjfhglbhaa
