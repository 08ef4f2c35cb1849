/-
  DERIVED. GIVEN WITH THE SEED: THE CARDS: each row of YtblkbogoelfjlaaDoorRows.lean that lists a variable, with what it lists TIED to the program's text (the seventh form; the later family's looks); each row that meets fmt, with fmt's text TOLD by the authors' own Lean function (tested against real Go, not proved from fmt's source: count such statements apart). THE CARD IS WHAT COUNTS. Prove the row's statement (the work); the ties are given (YtblkbogoelfjlaaDoorTie.lean); close each card by the builder's one call (the guide's Derived/Test/ToyasCard.lean, 'card_holds'). Laid BY PROGRAM, IN A SANDBOX (cutbox-door.mjs). By AI agents, Wed Nov 11 2026. No macro, syntax, notation, axiom, sorry.
-/
import Derived.Test.YtblkbogoelfjlaaDoorRows
import GoSem.ClaimSeven
namespace Go.Proofs.YtblkbogoelfjlaaDoor
namespace Rows

/-- THE TIED CARD OF 'cratewatchlaw.Names'. -/
def namesCard : Claim7 := { stood := { row := namesRow, standIns := [], harness := (true, "d5b864b0cc6b7a75bb9d8a344169affa42bc3267e0835dd2e39c3c55818c3f51"), looks := true }, kinds := [], alts := [], laidByText := true, laidKinds := [.data, .data, .data], laidTests := true, laidLooks := .later }
def NamesCardSaid : Prop := Claim7.holds Tryd.pinned (.plain (OpenSpec.ofChange namesSpec)) namesCard

/-- THE TIED CARD OF 'cratewatchlaw.TagSays'. -/
def tagSaysCard : Claim7 := { stood := { row := tagSaysRow, standIns := [], harness := (true, "d5b864b0cc6b7a75bb9d8a344169affa42bc3267e0835dd2e39c3c55818c3f51"), looks := true }, kinds := [], alts := [], laidByText := true, laidKinds := [.data, .data, .data, .data, .sentinel, .sentinel, .data, .data, .pinned], laidTests := true, laidLooks := .later }
def TagSaysCardSaid : Prop := Claim7.holds Tryd.pinned (.plain (OpenSpec.ofChange tagSaysSpec)) tagSaysCard

/-- THE TIED CARD OF 'cratewatchtop.TopTag'. -/
def topTagCard : Claim7 := { stood := { row := topTagRow, standIns := [], harness := (true, "d5b864b0cc6b7a75bb9d8a344169affa42bc3267e0835dd2e39c3c55818c3f51"), looks := true }, kinds := [], alts := [], laidByText := true, laidKinds := [.data, .data, .data, .data, .sentinel, .sentinel, .data, .data, .pinned], laidTests := true, laidLooks := .later }
def TopTagCardSaid : Prop := Claim7.holds Tryd.pinned (.plain (OpenSpec.ofChange topTagSpec)) topTagCard

/-- THE TIED CARD OF 'cratewatchlaw.InsideSays'. -/
def insideSaysCard : Claim7 := { stood := { row := insideSaysRow, standIns := [], harness := (true, "d5b864b0cc6b7a75bb9d8a344169affa42bc3267e0835dd2e39c3c55818c3f51"), looks := true }, kinds := [], alts := [], laidByText := true, laidKinds := [.data], laidTests := true, laidLooks := .later }
def InsideSaysCardSaid : Prop := Claim7.holds Tryd.pinned (.plain (OpenSpec.ofChange insideSaysSpec)) insideSaysCard

/-- THE TIED CARD OF 'cratewatchtop.TopInside'. -/
def topInsideCard : Claim7 := { stood := { row := topInsideRow, standIns := [], harness := (true, "d5b864b0cc6b7a75bb9d8a344169affa42bc3267e0835dd2e39c3c55818c3f51"), looks := true }, kinds := [], alts := [], laidByText := true, laidKinds := [.data], laidTests := true, laidLooks := .later }
def TopInsideCardSaid : Prop := Claim7.holds Tryd.pinned (.plain (OpenSpec.ofChange topInsideSpec)) topInsideCard

/-- THE SECOND FORM's CARD OF 'cratewatchlaw.Names'. -/
def namesUptoCard : Claim7 := { stood := { row := namesUptoRow, standIns := [], harness := (true, "d5b864b0cc6b7a75bb9d8a344169affa42bc3267e0835dd2e39c3c55818c3f51"), looks := true }, kinds := [], alts := [], laidByText := true, laidKinds := [.data, .data, .data], laidTests := true, laidLooks := .later }
def NamesUptoCardSaid : Prop := Claim7.holds Tryd.pinned (.plain (OpenSpec.upto namesSpec)) namesUptoCard

/-- THE SECOND FORM's CARD OF 'cratewatchlaw.TagSays'. -/
def tagSaysUptoCard : Claim7 := { stood := { row := tagSaysUptoRow, standIns := [], harness := (true, "d5b864b0cc6b7a75bb9d8a344169affa42bc3267e0835dd2e39c3c55818c3f51"), looks := true }, kinds := [], alts := [], laidByText := true, laidKinds := [.data, .data, .data, .data, .sentinel, .sentinel, .data, .data, .pinned], laidTests := true, laidLooks := .later }
def TagSaysUptoCardSaid : Prop := Claim7.holds Tryd.pinned (.plain (OpenSpec.upto tagSaysSpec)) tagSaysUptoCard

/-- THE SECOND FORM's CARD OF 'cratewatchtop.TopTag'. -/
def topTagUptoCard : Claim7 := { stood := { row := topTagUptoRow, standIns := [], harness := (true, "d5b864b0cc6b7a75bb9d8a344169affa42bc3267e0835dd2e39c3c55818c3f51"), looks := true }, kinds := [], alts := [], laidByText := true, laidKinds := [.data, .data, .data, .data, .sentinel, .sentinel, .data, .data, .pinned], laidTests := true, laidLooks := .later }
def TopTagUptoCardSaid : Prop := Claim7.holds Tryd.pinned (.plain (OpenSpec.upto topTagSpec)) topTagUptoCard

/-- THE SECOND FORM's CARD OF 'cratewatchlaw.InsideSays'. -/
def insideSaysUptoCard : Claim7 := { stood := { row := insideSaysUptoRow, standIns := [], harness := (true, "d5b864b0cc6b7a75bb9d8a344169affa42bc3267e0835dd2e39c3c55818c3f51"), looks := true }, kinds := [], alts := [], laidByText := true, laidKinds := [.data], laidTests := true, laidLooks := .later }
def InsideSaysUptoCardSaid : Prop := Claim7.holds Tryd.pinned (.plain (OpenSpec.upto insideSaysSpec)) insideSaysUptoCard

/-- THE SECOND FORM's CARD OF 'cratewatchtop.TopInside'. -/
def topInsideUptoCard : Claim7 := { stood := { row := topInsideUptoRow, standIns := [], harness := (true, "d5b864b0cc6b7a75bb9d8a344169affa42bc3267e0835dd2e39c3c55818c3f51"), looks := true }, kinds := [], alts := [], laidByText := true, laidKinds := [.data], laidTests := true, laidLooks := .later }
def TopInsideUptoCardSaid : Prop := Claim7.holds Tryd.pinned (.plain (OpenSpec.upto topInsideSpec)) topInsideUptoCard
end Rows
end Go.Proofs.YtblkbogoelfjlaaDoor
