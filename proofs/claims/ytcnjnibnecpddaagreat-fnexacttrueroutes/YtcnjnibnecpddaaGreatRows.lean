/-
  No cell of these rows narrows 'for every input' (looked for: loops, veiled, ifaces, maps, wideKeys, modest, calm, conditions, laid).
  DERIVED. THE GIVEN ROWS OF THIS SEAT. 5 by the template 'for every input the law returns true; each argument reads behind the call as it read before'; 0 by the template 'total and deterministic' (their statements: YtcnjnibnecpddaaGreatTotals.lean).
  GIVEN WITH THE SEED: the statements are not yours to turn. If you find one false, say at which input.
  Laid BY PROGRAM, IN A SANDBOX (cutbox-rows.mjs): the forced cells as the released guide's own fill.sh prints them over the translation 87fd0cb87689e7cc… (all of the seat's roots in one cut). By AI agents, Wed Nov 11 2026. No macro, syntax, notation, axiom, sorry.
-/
import Derived.Test.YtcnjnibnecpddaaGreatChecked
import GoSem.Claim
import GoSem.ClaimJoined
import GoSem.ClaimMapViews
import Derived.JoinedTies
import Derived.KernelRfl
namespace Go.Proofs.YtcnjnibnecpddaaGreat
/- THE CELL 'sum', in the pinned program and in every row, IS THE sha256 OF THE DUMP (.gsa) THAT YtcnjnibnecpddaaGreatProg.lean LOADS. Nothing in Lean hashes anything: it is a label: what it is worth is what the hold of that sum in a sandbox is worth. -/
noncomputable def Tryz.pinned : Pinned := { name := "ytcnjnibnecpddaagreat", sum := "87fd0cb87689e7ccceb3db4ada6812652ee5826138f3dba8deeb47684713f3fb", checked := Tryz.checked }
namespace Rows
def none {H : Type} : Left H := { results := [], args := [] }

/-- 'laws.FnRenews': WHATEVER THE INPUT: true; the input reads as it did. -/
def fnRenewsSpec : ChangeSpec := { name := "fnRenews", fn := fun _ => fun
  | [d] => { results := [.lit (.bool true)], args := [d] }
  | _ => none }
def fnRenewsRow : OpenClaim := { program := "ytcnjnibnecpddaagreat", sum := "87fd0cb87689e7ccceb3db4ada6812652ee5826138f3dba8deeb47684713f3fb", func := "loop.example/g00177/laws.FnRenews", spec := "fnRenews", inPlace := ["slices.overlaps[loop.example/g00177/impl.Record]", "slices.overlaps[loop.example/g00177/impl.Way]"], unfollowed := true, recurses := true, apart := false }
def FnRenewsSaid : Prop := fnRenewsRow.holds Tryz.pinned (OpenSpec.ofChange fnRenewsSpec)

/-- ITS FALSE NEIGHBOUR: 'it returns false'. Refute it at one input. -/
def fnRenewsWrong : ChangeSpec := { name := "fnRenews", fn := fun _ => fun
  | [d] => { results := [.lit (.bool false)], args := [d] }
  | _ => none }
def FnRenewsWrongFalsely : Prop := fnRenewsRow.holds Tryz.pinned (OpenSpec.ofChange fnRenewsWrong)

/-- 'laws.FnIdeals': WHATEVER THE INPUT: true; the input reads as it did. -/
def fnIdealsSpec : ChangeSpec := { name := "fnIdeals", fn := fun _ => fun
  | [d] => { results := [.lit (.bool true)], args := [d] }
  | _ => none }
def fnIdealsRow : OpenClaim := { program := "ytcnjnibnecpddaagreat", sum := "87fd0cb87689e7ccceb3db4ada6812652ee5826138f3dba8deeb47684713f3fb", func := "loop.example/g00177/laws.FnIdeals", spec := "fnIdeals", inPlace := ["slices.overlaps[loop.example/g00177/impl.Record]", "slices.overlaps[loop.example/g00177/impl.Way]"], unfollowed := true, recurses := true, apart := false }
def FnIdealsSaid : Prop := fnIdealsRow.holds Tryz.pinned (OpenSpec.ofChange fnIdealsSpec)

/-- ITS FALSE NEIGHBOUR: 'it returns false'. Refute it at one input. -/
def fnIdealsWrong : ChangeSpec := { name := "fnIdeals", fn := fun _ => fun
  | [d] => { results := [.lit (.bool false)], args := [d] }
  | _ => none }
def FnIdealsWrongFalsely : Prop := fnIdealsRow.holds Tryz.pinned (OpenSpec.ofChange fnIdealsWrong)

/-- 'laws.FnExactRenew': WHATEVER THE INPUT: true; the input reads as it did. -/
def fnExactRenewSpec : ChangeSpec := { name := "fnExactRenew", fn := fun _ => fun
  | [d] => { results := [.lit (.bool true)], args := [d] }
  | _ => none }
def fnExactRenewRow : OpenClaim := { program := "ytcnjnibnecpddaagreat", sum := "87fd0cb87689e7ccceb3db4ada6812652ee5826138f3dba8deeb47684713f3fb", func := "loop.example/g00177/laws.FnExactRenew", spec := "fnExactRenew", inPlace := ["slices.overlaps[loop.example/g00177/impl.Record]", "slices.overlaps[loop.example/g00177/impl.Way]"], unfollowed := true, recurses := true, apart := false }
def FnExactRenewSaid : Prop := fnExactRenewRow.holds Tryz.pinned (OpenSpec.ofChange fnExactRenewSpec)

/-- ITS FALSE NEIGHBOUR: 'it returns false'. Refute it at one input. -/
def fnExactRenewWrong : ChangeSpec := { name := "fnExactRenew", fn := fun _ => fun
  | [d] => { results := [.lit (.bool false)], args := [d] }
  | _ => none }
def FnExactRenewWrongFalsely : Prop := fnExactRenewRow.holds Tryz.pinned (OpenSpec.ofChange fnExactRenewWrong)

/-- 'laws.FnExactNodeNew': WHATEVER THE INPUT: true; the input reads as it did. -/
def fnExactNodeNewSpec : ChangeSpec := { name := "fnExactNodeNew", fn := fun _ => fun
  | [d1, d2, d3] => { results := [.lit (.bool true)], args := [d1, d2, d3] }
  | _ => none }
def fnExactNodeNewRow : OpenClaim := { program := "ytcnjnibnecpddaagreat", sum := "87fd0cb87689e7ccceb3db4ada6812652ee5826138f3dba8deeb47684713f3fb", func := "loop.example/g00177/laws.FnExactNodeNew", spec := "fnExactNodeNew", inPlace := ["slices.overlaps[loop.example/g00177/impl.Record]", "slices.overlaps[loop.example/g00177/impl.Way]"], unfollowed := true, recurses := true, apart := false }
def FnExactNodeNewSaid : Prop := fnExactNodeNewRow.holds Tryz.pinned (OpenSpec.ofChange fnExactNodeNewSpec)

/-- ITS FALSE NEIGHBOUR: 'it returns false'. Refute it at one input. -/
def fnExactNodeNewWrong : ChangeSpec := { name := "fnExactNodeNew", fn := fun _ => fun
  | [d1, d2, d3] => { results := [.lit (.bool false)], args := [d1, d2, d3] }
  | _ => none }
def FnExactNodeNewWrongFalsely : Prop := fnExactNodeNewRow.holds Tryz.pinned (OpenSpec.ofChange fnExactNodeNewWrong)

/-- 'laws.FnExactTrueRoutes': WHATEVER THE INPUT: true; the input reads as it did. -/
def fnExactTrueRoutesSpec : ChangeSpec := { name := "fnExactTrueRoutes", fn := fun _ => fun
  | [d1, d2, d3, d4] => { results := [.lit (.bool true)], args := [d1, d2, d3, d4] }
  | _ => none }
def fnExactTrueRoutesRow : OpenClaim := { program := "ytcnjnibnecpddaagreat", sum := "87fd0cb87689e7ccceb3db4ada6812652ee5826138f3dba8deeb47684713f3fb", func := "loop.example/g00177/laws.FnExactTrueRoutes", spec := "fnExactTrueRoutes", inPlace := ["slices.overlaps[loop.example/g00177/impl.Record]", "slices.overlaps[loop.example/g00177/impl.Way]"], unfollowed := true, recurses := true, apart := false }
def FnExactTrueRoutesSaid : Prop := fnExactTrueRoutesRow.holds Tryz.pinned (OpenSpec.ofChange fnExactTrueRoutesSpec)

/-- ITS FALSE NEIGHBOUR: 'it returns false'. Refute it at one input. -/
def fnExactTrueRoutesWrong : ChangeSpec := { name := "fnExactTrueRoutes", fn := fun _ => fun
  | [d1, d2, d3, d4] => { results := [.lit (.bool false)], args := [d1, d2, d3, d4] }
  | _ => none }
def FnExactTrueRoutesWrongFalsely : Prop := fnExactTrueRoutesRow.holds Tryz.pinned (OpenSpec.ofChange fnExactTrueRoutesWrong)

/- THE SECOND FORM. 'bulk': how many values and letters a reading holds, each counted each time it is reached (what is shared counts as often as it is met; a slice's spare places count too). A statement '..UptoSaid' is the law's where the arguments, and the package variables that the reading takes, are together of bulk at most 1048576: NARROWER than '..Said'. Prove '..Said' where nothing that the law and all that it calls make is longer than what came in: it says more and counts as full. Else prove '..UptoSaid'. A law counts once. -/
mutual
def uptoBulk {H : Type} : DataW H → Nat
  | .lit (.string bytes) => bytes.length + 1
  | .lit _ => 1
  | .nil => 1
  | .ptr d => uptoBulk d + 1
  | .slice elems spare => uptoBulkAll elems + uptoBulkAll spare + 1
  | .agg parts => uptoBulkAll parts + 1
  | .iface _ d => uptoBulk d + 1
  | .map entries => uptoBulkEntries entries + 1
  | .held _ => 1
def uptoBulkAll {H : Type} : List (DataW H) → Nat
  | [] => 0
  | d :: r => uptoBulk d + uptoBulkAll r
def uptoBulkEntries {H : Type} : List (Lit × DataW H) → Nat
  | [] => 0
  | x :: r => uptoBulkEntry x + uptoBulkEntries r
def uptoBulkEntry {H : Type} : Lit × DataW H → Nat
  | (.string bytes, d) => bytes.length + uptoBulk d + 1
  | (_, d) => uptoBulk d + 1
 end
def uptoSmall : (H : Type) → List (DataW H) → Bool := fun _ ds => decide (uptoBulkAll ds ≤ 1048576)
def OpenSpec.upto (s : _root_.Go.ChangeSpec) : _root_.Go.OpenSpec := { _root_.Go.OpenSpec.ofChange s with cond := some uptoSmall }

/-- 'laws.FnRenews', WHERE WHAT IT READS IS OF BULK AT MOST 1048576: true; the input reads as it did. -/
def fnRenewsUptoRow : OpenClaim := { program := "ytcnjnibnecpddaagreat", sum := "87fd0cb87689e7ccceb3db4ada6812652ee5826138f3dba8deeb47684713f3fb", func := "loop.example/g00177/laws.FnRenews", spec := "fnRenews", inPlace := ["slices.overlaps[loop.example/g00177/impl.Record]", "slices.overlaps[loop.example/g00177/impl.Way]"], unfollowed := true, recurses := true, apart := false, narrowed := true }
def FnRenewsUptoSaid : Prop := fnRenewsUptoRow.holds Tryz.pinned (OpenSpec.upto fnRenewsSpec)

/-- 'laws.FnIdeals', WHERE WHAT IT READS IS OF BULK AT MOST 1048576: true; the input reads as it did. -/
def fnIdealsUptoRow : OpenClaim := { program := "ytcnjnibnecpddaagreat", sum := "87fd0cb87689e7ccceb3db4ada6812652ee5826138f3dba8deeb47684713f3fb", func := "loop.example/g00177/laws.FnIdeals", spec := "fnIdeals", inPlace := ["slices.overlaps[loop.example/g00177/impl.Record]", "slices.overlaps[loop.example/g00177/impl.Way]"], unfollowed := true, recurses := true, apart := false, narrowed := true }
def FnIdealsUptoSaid : Prop := fnIdealsUptoRow.holds Tryz.pinned (OpenSpec.upto fnIdealsSpec)

/-- 'laws.FnExactRenew', WHERE WHAT IT READS IS OF BULK AT MOST 1048576: true; the input reads as it did. -/
def fnExactRenewUptoRow : OpenClaim := { program := "ytcnjnibnecpddaagreat", sum := "87fd0cb87689e7ccceb3db4ada6812652ee5826138f3dba8deeb47684713f3fb", func := "loop.example/g00177/laws.FnExactRenew", spec := "fnExactRenew", inPlace := ["slices.overlaps[loop.example/g00177/impl.Record]", "slices.overlaps[loop.example/g00177/impl.Way]"], unfollowed := true, recurses := true, apart := false, narrowed := true }
def FnExactRenewUptoSaid : Prop := fnExactRenewUptoRow.holds Tryz.pinned (OpenSpec.upto fnExactRenewSpec)

/-- 'laws.FnExactNodeNew', WHERE WHAT IT READS IS OF BULK AT MOST 1048576: true; the input reads as it did. -/
def fnExactNodeNewUptoRow : OpenClaim := { program := "ytcnjnibnecpddaagreat", sum := "87fd0cb87689e7ccceb3db4ada6812652ee5826138f3dba8deeb47684713f3fb", func := "loop.example/g00177/laws.FnExactNodeNew", spec := "fnExactNodeNew", inPlace := ["slices.overlaps[loop.example/g00177/impl.Record]", "slices.overlaps[loop.example/g00177/impl.Way]"], unfollowed := true, recurses := true, apart := false, narrowed := true }
def FnExactNodeNewUptoSaid : Prop := fnExactNodeNewUptoRow.holds Tryz.pinned (OpenSpec.upto fnExactNodeNewSpec)

/-- 'laws.FnExactTrueRoutes', WHERE WHAT IT READS IS OF BULK AT MOST 1048576: true; the input reads as it did. -/
def fnExactTrueRoutesUptoRow : OpenClaim := { program := "ytcnjnibnecpddaagreat", sum := "87fd0cb87689e7ccceb3db4ada6812652ee5826138f3dba8deeb47684713f3fb", func := "loop.example/g00177/laws.FnExactTrueRoutes", spec := "fnExactTrueRoutes", inPlace := ["slices.overlaps[loop.example/g00177/impl.Record]", "slices.overlaps[loop.example/g00177/impl.Way]"], unfollowed := true, recurses := true, apart := false, narrowed := true }
def FnExactTrueRoutesUptoSaid : Prop := fnExactTrueRoutesUptoRow.holds Tryz.pinned (OpenSpec.upto fnExactTrueRoutesSpec)

end Rows
end Go.Proofs.YtcnjnibnecpddaaGreat
