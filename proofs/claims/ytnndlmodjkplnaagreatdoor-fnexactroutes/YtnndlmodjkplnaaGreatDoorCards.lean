/-
  DERIVED. GIVEN WITH THE SEED: THE CARDS: each row of YtnndlmodjkplnaaGreatDoorRows.lean that lists a variable, with what it lists TIED to the program's text (the seventh form; the later family's looks); each row that meets fmt, with fmt's text TOLD by the authors' own Lean function (tested against real Go, not proved from fmt's source: count such statements apart). THE CARD IS WHAT COUNTS. Prove the row's statement (the work); the ties are given (YtnndlmodjkplnaaGreatDoorTie.lean); close each card by the builder's one call (the guide's Derived/Test/ToyasCard.lean, 'card_holds'). Laid BY PROGRAM, IN A SANDBOX (cutbox-door.mjs). By AI agents, Wed Nov 11 2026. No macro, syntax, notation, axiom, sorry.
-/
import Derived.Test.YtnndlmodjkplnaaGreatDoorRows
import GoSem.ClaimSeven
namespace Go.Proofs.YtnndlmodjkplnaaGreatDoor
namespace Rows

/-- THE TIED CARD OF 'laws.FnExactNodeOk'. -/
def fnExactNodeOkCard : Claim7 := { stood := { row := fnExactNodeOkRow, standIns := [], harness := (true, "fafc1fdf5a477f8fb2695e8367e40a1e050f4adc14ea68bddea10fb1a6af6d0d"), looks := true }, kinds := [], alts := [], laidByText := true, laidKinds := [.handle], laidTests := true, laidLooks := .later }
def FnExactNodeOkCardSaid : Prop := Claim7.holds Tryz.pinned (.plain (OpenSpec.ofChange fnExactNodeOkSpec)) fnExactNodeOkCard

/-- THE TIED CARD OF 'laws.FnExactRoutes'. -/
def fnExactRoutesCard : Claim7 := { stood := { row := fnExactRoutesRow, standIns := [], harness := (true, "fafc1fdf5a477f8fb2695e8367e40a1e050f4adc14ea68bddea10fb1a6af6d0d"), looks := true }, kinds := [], alts := [], laidByText := true, laidKinds := [.handle], laidTests := true, laidLooks := .later }
def FnExactRoutesCardSaid : Prop := Claim7.holds Tryz.pinned (.plain (OpenSpec.ofChange fnExactRoutesSpec)) fnExactRoutesCard

/-- THE SECOND FORM's CARD OF 'laws.FnExactNodeOk'. -/
def fnExactNodeOkUptoCard : Claim7 := { stood := { row := fnExactNodeOkUptoRow, standIns := [], harness := (true, "fafc1fdf5a477f8fb2695e8367e40a1e050f4adc14ea68bddea10fb1a6af6d0d"), looks := true }, kinds := [], alts := [], laidByText := true, laidKinds := [.handle], laidTests := true, laidLooks := .later }
def FnExactNodeOkUptoCardSaid : Prop := Claim7.holds Tryz.pinned (.plain (OpenSpec.upto fnExactNodeOkSpec)) fnExactNodeOkUptoCard

/-- THE SECOND FORM's CARD OF 'laws.FnExactRoutes'. -/
def fnExactRoutesUptoCard : Claim7 := { stood := { row := fnExactRoutesUptoRow, standIns := [], harness := (true, "fafc1fdf5a477f8fb2695e8367e40a1e050f4adc14ea68bddea10fb1a6af6d0d"), looks := true }, kinds := [], alts := [], laidByText := true, laidKinds := [.handle], laidTests := true, laidLooks := .later }
def FnExactRoutesUptoCardSaid : Prop := Claim7.holds Tryz.pinned (.plain (OpenSpec.upto fnExactRoutesSpec)) fnExactRoutesUptoCard
end Rows
end Go.Proofs.YtnndlmodjkplnaaGreatDoor
