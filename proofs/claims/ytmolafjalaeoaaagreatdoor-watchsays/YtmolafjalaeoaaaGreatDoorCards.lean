/-
  DERIVED. GIVEN WITH THE SEED: THE CARDS: each row of YtmolafjalaeoaaaGreatDoorRows.lean that lists a variable, with what it lists TIED to the program's text (the seventh form; the later family's looks); each row that meets fmt, with fmt's text TOLD by the authors' own Lean function (tested against real Go, not proved from fmt's source: count such statements apart). THE CARD IS WHAT COUNTS. Prove the row's statement (the work); the ties are given (YtmolafjalaeoaaaGreatDoorTie.lean); close each card by the builder's one call (the guide's Derived/Test/ToyasCard.lean, 'card_holds'). Laid BY PROGRAM, IN A SANDBOX (cutbox-door.mjs). By AI agents, Wed Nov 11 2026. No macro, syntax, notation, axiom, sorry.
-/
import Derived.Test.YtmolafjalaeoaaaGreatDoorRows
import GoSem.ClaimSeven
namespace Go.Proofs.YtmolafjalaeoaaaGreatDoor
namespace Rows

/-- THE TIED CARD OF 'cratewatchlaw.WatchSays'. -/
def watchSaysCard : Claim7 := { stood := { row := watchSaysRow, standIns := [], harness := (true, "07b3bb65d1c23369d6e280c10a7b607fe28ac9d789bafc9209abdb57c1b1fc59"), looks := true }, kinds := [], alts := [], laidByText := true, laidKinds := [.data], laidTests := true, laidLooks := .later }
def WatchSaysCardSaid : Prop := Claim7.holds Tryz.pinned (.plain (OpenSpec.ofChange watchSaysSpec)) watchSaysCard

/-- THE TIED CARD OF 'cratewatchtop.TopChunks'. -/
def topChunksCard : Claim7 := { stood := { row := topChunksRow, standIns := [], harness := (true, "07b3bb65d1c23369d6e280c10a7b607fe28ac9d789bafc9209abdb57c1b1fc59"), looks := true }, kinds := [], alts := [], laidByText := true, laidKinds := [.data], laidTests := true, laidLooks := .later }
def TopChunksCardSaid : Prop := Claim7.holds Tryz.pinned (.plain (OpenSpec.ofChange topChunksSpec)) topChunksCard

/-- THE TIED CARD OF 'cratewatchtop.TopOrder'. -/
def topOrderCard : Claim7 := { stood := { row := topOrderRow, standIns := [], harness := (true, "07b3bb65d1c23369d6e280c10a7b607fe28ac9d789bafc9209abdb57c1b1fc59"), looks := true }, kinds := [], alts := [], laidByText := true, laidKinds := [.data], laidTests := true, laidLooks := .later }
def TopOrderCardSaid : Prop := Claim7.holds Tryz.pinned (.plain (OpenSpec.ofChange topOrderSpec)) topOrderCard

/-- THE TIED CARD OF 'cratewatchtop.TopAlerts'. -/
def topAlertsCard : Claim7 := { stood := { row := topAlertsRow, standIns := [], harness := (true, "07b3bb65d1c23369d6e280c10a7b607fe28ac9d789bafc9209abdb57c1b1fc59"), looks := true }, kinds := [], alts := [], laidByText := true, laidKinds := [.data], laidTests := true, laidLooks := .later }
def TopAlertsCardSaid : Prop := Claim7.holds Tryz.pinned (.plain (OpenSpec.ofChange topAlertsSpec)) topAlertsCard

/-- THE SECOND FORM's CARD OF 'cratewatchlaw.WatchSays'. -/
def watchSaysUptoCard : Claim7 := { stood := { row := watchSaysUptoRow, standIns := [], harness := (true, "07b3bb65d1c23369d6e280c10a7b607fe28ac9d789bafc9209abdb57c1b1fc59"), looks := true }, kinds := [], alts := [], laidByText := true, laidKinds := [.data], laidTests := true, laidLooks := .later }
def WatchSaysUptoCardSaid : Prop := Claim7.holds Tryz.pinned (.plain (OpenSpec.upto watchSaysSpec)) watchSaysUptoCard

/-- THE SECOND FORM's CARD OF 'cratewatchtop.TopChunks'. -/
def topChunksUptoCard : Claim7 := { stood := { row := topChunksUptoRow, standIns := [], harness := (true, "07b3bb65d1c23369d6e280c10a7b607fe28ac9d789bafc9209abdb57c1b1fc59"), looks := true }, kinds := [], alts := [], laidByText := true, laidKinds := [.data], laidTests := true, laidLooks := .later }
def TopChunksUptoCardSaid : Prop := Claim7.holds Tryz.pinned (.plain (OpenSpec.upto topChunksSpec)) topChunksUptoCard

/-- THE SECOND FORM's CARD OF 'cratewatchtop.TopOrder'. -/
def topOrderUptoCard : Claim7 := { stood := { row := topOrderUptoRow, standIns := [], harness := (true, "07b3bb65d1c23369d6e280c10a7b607fe28ac9d789bafc9209abdb57c1b1fc59"), looks := true }, kinds := [], alts := [], laidByText := true, laidKinds := [.data], laidTests := true, laidLooks := .later }
def TopOrderUptoCardSaid : Prop := Claim7.holds Tryz.pinned (.plain (OpenSpec.upto topOrderSpec)) topOrderUptoCard

/-- THE SECOND FORM's CARD OF 'cratewatchtop.TopAlerts'. -/
def topAlertsUptoCard : Claim7 := { stood := { row := topAlertsUptoRow, standIns := [], harness := (true, "07b3bb65d1c23369d6e280c10a7b607fe28ac9d789bafc9209abdb57c1b1fc59"), looks := true }, kinds := [], alts := [], laidByText := true, laidKinds := [.data], laidTests := true, laidLooks := .later }
def TopAlertsUptoCardSaid : Prop := Claim7.holds Tryz.pinned (.plain (OpenSpec.upto topAlertsSpec)) topAlertsUptoCard
end Rows
end Go.Proofs.YtmolafjalaeoaaaGreatDoor
