/-
  DERIVED. GIVEN WITH THE SEED: THE CARDS: each row of YtnahkonklkcbeabGreatDoorRows.lean that lists a variable, with what it lists TIED to the program's text (the seventh form; the later family's looks); each row that meets fmt, with fmt's text TOLD by the authors' own Lean function (tested against real Go, not proved from fmt's source: count such statements apart). THE CARD IS WHAT COUNTS. Prove the row's statement (the work); the ties are given (YtnahkonklkcbeabGreatDoorTie.lean); close each card by the builder's one call (the guide's Derived/Test/ToyasCard.lean, 'card_holds'). Laid BY PROGRAM, IN A SANDBOX (cutbox-door.mjs). By AI agents, Wed Nov 11 2026. No macro, syntax, notation, axiom, sorry.
-/
import Derived.Test.YtnahkonklkcbeabGreatDoorRows
import GoSem.ClaimSeven
namespace Go.Proofs.YtnahkonklkcbeabGreatDoor
namespace Rows

/-- THE TIED CARD OF 'cratewatchlaw.RuleSays'. -/
def ruleSaysCard : Claim7 := { stood := { row := ruleSaysRow, standIns := [], harness := (true, "ae87ee26004868e64332b99070d7af983a4fe5ba0bd120aef2705c05e8beaa36"), looks := true }, kinds := [], alts := [], laidByText := true, laidKinds := [.data, .data, .data, .sentinel, .sentinel, .data, .data], laidTests := true, laidLooks := .later }
def RuleSaysCardSaid : Prop := Claim7.holds Tryz.pinned (.plain (OpenSpec.ofChange ruleSaysSpec)) ruleSaysCard

/-- THE SECOND FORM's CARD OF 'cratewatchlaw.RuleSays'. -/
def ruleSaysUptoCard : Claim7 := { stood := { row := ruleSaysUptoRow, standIns := [], harness := (true, "ae87ee26004868e64332b99070d7af983a4fe5ba0bd120aef2705c05e8beaa36"), looks := true }, kinds := [], alts := [], laidByText := true, laidKinds := [.data, .data, .data, .sentinel, .sentinel, .data, .data], laidTests := true, laidLooks := .later }
def RuleSaysUptoCardSaid : Prop := Claim7.holds Tryz.pinned (.plain (OpenSpec.upto ruleSaysSpec)) ruleSaysUptoCard
end Rows
end Go.Proofs.YtnahkonklkcbeabGreatDoor
