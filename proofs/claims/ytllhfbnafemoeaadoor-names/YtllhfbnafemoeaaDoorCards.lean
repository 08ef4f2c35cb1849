/-
  DERIVED. GIVEN WITH THE SEED: THE CARDS: each row of YtllhfbnafemoeaaDoorRows.lean that lists a variable, with what it lists TIED to the program's text (the seventh form; the later family's looks); each row that meets fmt, with fmt's text TOLD by the authors' own Lean function (tested against real Go, not proved from fmt's source: count such statements apart). THE CARD IS WHAT COUNTS. Prove the row's statement (the work); the ties are given (YtllhfbnafemoeaaDoorTie.lean); close each card by the builder's one call (the guide's Derived/Test/ToyasCard.lean, 'card_holds'). Laid BY PROGRAM, IN A SANDBOX (cutbox-door.mjs). By AI agents, Wed Nov 11 2026. No macro, syntax, notation, axiom, sorry.
-/
import Derived.Test.YtllhfbnafemoeaaDoorRows
import GoSem.ClaimSeven
namespace Go.Proofs.YtllhfbnafemoeaaDoor
namespace Rows

/-- THE TIED CARD OF 'cratewatchlaw.Names'. -/
def namesCard : Claim7 := { stood := { row := namesRow, standIns := [], harness := (true, "9bc6a73a063def7f32f723de4d4d96803ccbcf50a031077cc9f845e7e941215e"), looks := true }, kinds := [], alts := [], laidByText := true, laidKinds := [.data, .data, .data], laidTests := true, laidLooks := .later }
def NamesCardSaid : Prop := Claim7.holds Tryd.pinned (.plain (OpenSpec.ofChange namesSpec)) namesCard

/-- THE TIED CARD OF 'cratewatchlaw.TagSays'. -/
def tagSaysCard : Claim7 := { stood := { row := tagSaysRow, standIns := [], harness := (true, "9bc6a73a063def7f32f723de4d4d96803ccbcf50a031077cc9f845e7e941215e"), looks := true }, kinds := [], alts := [], laidByText := true, laidKinds := [.data, .data, .data, .data, .sentinel, .sentinel, .data, .data, .pinned], laidTests := true, laidLooks := .later }
def TagSaysCardSaid : Prop := Claim7.holds Tryd.pinned (.plain (OpenSpec.ofChange tagSaysSpec)) tagSaysCard

/-- THE TIED CARD OF 'cratewatchtop.TopTag'. -/
def topTagCard : Claim7 := { stood := { row := topTagRow, standIns := [], harness := (true, "9bc6a73a063def7f32f723de4d4d96803ccbcf50a031077cc9f845e7e941215e"), looks := true }, kinds := [], alts := [], laidByText := true, laidKinds := [.data, .data, .data, .data, .sentinel, .sentinel, .data, .data, .pinned], laidTests := true, laidLooks := .later }
def TopTagCardSaid : Prop := Claim7.holds Tryd.pinned (.plain (OpenSpec.ofChange topTagSpec)) topTagCard

/-- THE SECOND FORM's CARD OF 'cratewatchlaw.Names'. -/
def namesUptoCard : Claim7 := { stood := { row := namesUptoRow, standIns := [], harness := (true, "9bc6a73a063def7f32f723de4d4d96803ccbcf50a031077cc9f845e7e941215e"), looks := true }, kinds := [], alts := [], laidByText := true, laidKinds := [.data, .data, .data], laidTests := true, laidLooks := .later }
def NamesUptoCardSaid : Prop := Claim7.holds Tryd.pinned (.plain (OpenSpec.upto namesSpec)) namesUptoCard

/-- THE SECOND FORM's CARD OF 'cratewatchlaw.TagSays'. -/
def tagSaysUptoCard : Claim7 := { stood := { row := tagSaysUptoRow, standIns := [], harness := (true, "9bc6a73a063def7f32f723de4d4d96803ccbcf50a031077cc9f845e7e941215e"), looks := true }, kinds := [], alts := [], laidByText := true, laidKinds := [.data, .data, .data, .data, .sentinel, .sentinel, .data, .data, .pinned], laidTests := true, laidLooks := .later }
def TagSaysUptoCardSaid : Prop := Claim7.holds Tryd.pinned (.plain (OpenSpec.upto tagSaysSpec)) tagSaysUptoCard

/-- THE SECOND FORM's CARD OF 'cratewatchtop.TopTag'. -/
def topTagUptoCard : Claim7 := { stood := { row := topTagUptoRow, standIns := [], harness := (true, "9bc6a73a063def7f32f723de4d4d96803ccbcf50a031077cc9f845e7e941215e"), looks := true }, kinds := [], alts := [], laidByText := true, laidKinds := [.data, .data, .data, .data, .sentinel, .sentinel, .data, .data, .pinned], laidTests := true, laidLooks := .later }
def TopTagUptoCardSaid : Prop := Claim7.holds Tryd.pinned (.plain (OpenSpec.upto topTagSpec)) topTagUptoCard
end Rows
end Go.Proofs.YtllhfbnafemoeaaDoor
