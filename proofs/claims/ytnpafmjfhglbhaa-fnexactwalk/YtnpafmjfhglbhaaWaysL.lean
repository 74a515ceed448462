/-
  laws.szWayS, toWayS, eqWayS: their contracts.
-/
import Derived.Test.YtnpafmjfhglbhaaWaysK
namespace Go.Proofs.Ytnpafmjfhglbhaa
open Go.RowKit

def fstsW (ps : List WP) : List WayD := ps.map (·.1)

theorem fstsW_at {ps : List WP} {i : Nat} {p : WP} (h : ps[i]? = some p) : (fstsW ps)[i]? = some p.1 := by simp [fstsW, h]

end Go.Proofs.Ytnpafmjfhglbhaa
