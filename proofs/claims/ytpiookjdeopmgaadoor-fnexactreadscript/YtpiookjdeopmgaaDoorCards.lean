/-
  DERIVED. GIVEN WITH THE SEED: THE CARDS: each row of YtpiookjdeopmgaaDoorRows.lean that lists a variable, with what it lists TIED to the program's text (the seventh form; the later family's looks); each row that meets fmt, with fmt's text TOLD by the authors' own Lean function (tested against real Go, not proved from fmt's source: count such statements apart). THE CARD IS WHAT COUNTS. Prove the row's statement (the work); the ties are given (YtpiookjdeopmgaaDoorTie.lean); close each card by the builder's one call (the guide's Derived/Test/ToyasCard.lean, 'card_holds'). Laid BY PROGRAM, IN A SANDBOX (cutbox-door.mjs). By AI agents, Wed Nov 11 2026. No macro, syntax, notation, axiom, sorry.
-/
import Derived.Test.YtpiookjdeopmgaaDoorRows
import GoSem.ClaimSeven
namespace Go.Proofs.YtpiookjdeopmgaaDoor
namespace Rows

/-- THE TIED CARD OF 'laws.FnExactReadScript'. -/
def fnExactReadScriptCard : Claim7 := { stood := { row := fnExactReadScriptRow, standIns := [], harness := (true, "a8f515aa8e08b97d66ced1a1ef64c57f7e1124d33cc294db80a937e49c0d90cb"), looks := false }, kinds := [], alts := [], laidByText := true, laidKinds := [.listed, .data], laidTests := true, laidLooks := .later }
def FnExactReadScriptCardSaid : Prop := Claim7.holds Tryd.pinned (.plain (OpenSpec.ofChange fnExactReadScriptSpec)) fnExactReadScriptCard

/-- THE TIED CARD OF 'laws.FnExactShowRoute'. -/
def fnExactShowRouteCard : Claim7 := { stood := { row := fnExactShowRouteRow, standIns := [], harness := (true, "a8f515aa8e08b97d66ced1a1ef64c57f7e1124d33cc294db80a937e49c0d90cb"), looks := false }, kinds := [], alts := [], laidByText := true, laidKinds := [.data, .data, .data], laidTests := true, laidLooks := .later }
def FnExactShowRouteCardSaid : Prop := Claim7.holds Tryd.pinned (.plain (OpenSpec.ofChange fnExactShowRouteSpec)) fnExactShowRouteCard

/-- THE SECOND FORM's CARD OF 'laws.FnExactReadScript'. -/
def fnExactReadScriptUptoCard : Claim7 := { stood := { row := fnExactReadScriptUptoRow, standIns := [], harness := (true, "a8f515aa8e08b97d66ced1a1ef64c57f7e1124d33cc294db80a937e49c0d90cb"), looks := false }, kinds := [], alts := [], laidByText := true, laidKinds := [.listed, .data], laidTests := true, laidLooks := .later }
def FnExactReadScriptUptoCardSaid : Prop := Claim7.holds Tryd.pinned (.plain (OpenSpec.upto fnExactReadScriptSpec)) fnExactReadScriptUptoCard

/-- THE SECOND FORM's CARD OF 'laws.FnExactShowRoute'. -/
def fnExactShowRouteUptoCard : Claim7 := { stood := { row := fnExactShowRouteUptoRow, standIns := [], harness := (true, "a8f515aa8e08b97d66ced1a1ef64c57f7e1124d33cc294db80a937e49c0d90cb"), looks := false }, kinds := [], alts := [], laidByText := true, laidKinds := [.data, .data, .data], laidTests := true, laidLooks := .later }
def FnExactShowRouteUptoCardSaid : Prop := Claim7.holds Tryd.pinned (.plain (OpenSpec.upto fnExactShowRouteSpec)) fnExactShowRouteUptoCard
end Rows
end Go.Proofs.YtpiookjdeopmgaaDoor
