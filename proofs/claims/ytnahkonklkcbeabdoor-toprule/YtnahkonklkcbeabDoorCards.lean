/-
  DERIVED. GIVEN WITH THE SEED: THE CARDS: each row of YtnahkonklkcbeabDoorRows.lean that lists a variable, with what it lists TIED to the program's text (the seventh form; the later family's looks); each row that meets fmt, with fmt's text TOLD by the authors' own Lean function (tested against real Go, not proved from fmt's source: count such statements apart). THE CARD IS WHAT COUNTS. Prove the row's statement (the work); the ties are given (YtnahkonklkcbeabDoorTie.lean); close each card by the builder's one call (the guide's Derived/Test/ToyasCard.lean, 'card_holds'). Laid BY PROGRAM, IN A SANDBOX (cutbox-door.mjs). By AI agents, Wed Nov 11 2026. No macro, syntax, notation, axiom, sorry.
-/
import Derived.Test.YtnahkonklkcbeabDoorRows
import GoSem.ClaimSeven
namespace Go.Proofs.YtnahkonklkcbeabDoor
namespace Rows

/-- THE TIED CARD OF 'cratewatchtop.TopRule'. -/
def topRuleCard : Claim7 := { stood := { row := topRuleRow, standIns := [], harness := (true, "277180af9f8b9f6a2deed8f3e250dc8d9cf1511b71253baeeecf9eaced8b022e"), looks := true }, kinds := [], alts := [], laidByText := true, laidKinds := [.data, .data, .data, .sentinel, .sentinel, .data], laidTests := true, laidLooks := .later }
def TopRuleCardSaid : Prop := Claim7.holds Tryd.pinned (.plain (OpenSpec.ofChange topRuleSpec)) topRuleCard

/-- THE SECOND FORM's CARD OF 'cratewatchtop.TopRule'. -/
def topRuleUptoCard : Claim7 := { stood := { row := topRuleUptoRow, standIns := [], harness := (true, "277180af9f8b9f6a2deed8f3e250dc8d9cf1511b71253baeeecf9eaced8b022e"), looks := true }, kinds := [], alts := [], laidByText := true, laidKinds := [.data, .data, .data, .sentinel, .sentinel, .data], laidTests := true, laidLooks := .later }
def TopRuleUptoCardSaid : Prop := Claim7.holds Tryd.pinned (.plain (OpenSpec.upto topRuleSpec)) topRuleUptoCard
end Rows
end Go.Proofs.YtnahkonklkcbeabDoor
