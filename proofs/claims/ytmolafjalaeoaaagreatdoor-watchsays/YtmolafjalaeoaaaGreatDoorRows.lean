/-
  NARROWER THAN 'FOR EVERY INPUT', by the rows' own cells (each row's printed sentence says how): WatchSays: laid · TopChunks: laid · TopOrder: laid · TopAlerts: laid.
  DERIVED. THE GIVEN ROWS OF THIS SEAT. 4 by the template 'for every input the law returns true; each argument reads behind the call as it read before'; 0 by the template 'total and deterministic' (their statements: YtmolafjalaeoaaaGreatDoorTotals.lean).
  GIVEN WITH THE SEED: the statements are not yours to turn. If you find one false, say at which input.
  Laid BY PROGRAM, IN A SANDBOX (cutbox-rows.mjs): the forced cells as the released guide's own fill.sh prints them over the translation 83f204590ce15904… (all of the seat's roots in one cut). By AI agents, Wed Nov 11 2026. No macro, syntax, notation, axiom, sorry.
-/
import Derived.Test.YtmolafjalaeoaaaGreatDoorChecked
import GoSem.Claim
import GoSem.ClaimJoined
import GoSem.ClaimMapViews
import Derived.JoinedTies
import Derived.KernelRfl
namespace Go.Proofs.YtmolafjalaeoaaaGreatDoor
/- THE CELL 'sum', in the pinned program and in every row, IS THE sha256 OF THE DUMP (.gsa) THAT YtmolafjalaeoaaaGreatDoorProg.lean LOADS. Nothing in Lean hashes anything: it is a label: what it is worth is what the hold of that sum in a sandbox is worth. -/
noncomputable def Tryz.pinned : Pinned := { name := "ytmolafjalaeoaaagreatdoor", sum := "83f204590ce15904ea45de7b9545e98bbf904c80b4dafb8f55a0978e48762f42", checked := Tryz.checked }
namespace Rows
def none {H : Type} : Left H := { results := [], args := [] }

/- WHAT THE LISTED PACKAGE-LEVEL VARIABLES READ AS WHEN THE CALL BEGINS. Each datum BY PROGRAM (the guide's laid-datum.mjs) off the statement by which the dump's own 'gosem.cut.vars' lays the variable. In a bare row this is a premise. The card (YtmolafjalaeoaaaGreatDoorCards.lean) ties it to the program's text. -/
def laid_cratewatch_tag_splits {H : Type} : DataW H := .agg [.agg [.lit (.int .i64 20), .lit (.int .i64 6), .lit (.int .i64 6), .lit (.int .i64 1)], .agg [.lit (.int .i64 17), .lit (.int .i64 5), .lit (.int .i64 9), .lit (.int .i64 2)], .agg [.lit (.int .i64 14), .lit (.int .i64 4), .lit (.int .i64 12), .lit (.int .i64 3)], .agg [.lit (.int .i64 10), .lit (.int .i64 3), .lit (.int .i64 16), .lit (.int .i64 4)], .agg [.lit (.int .i64 7), .lit (.int .i64 2), .lit (.int .i64 19), .lit (.int .i64 5)], .agg [.lit (.int .i64 4), .lit (.int .i64 1), .lit (.int .i64 22), .lit (.int .i64 6)]]

/-- 'cratewatchlaw.WatchSays': WHATEVER THE INPUT: true; the input reads as it did. -/
def watchSaysSpec : ChangeSpec := { name := "watchSays", fn := fun _ => fun
  | [d1, d2, d3] => { results := [.lit (.bool true)], args := [d1, d2, d3] }
  | _ => none }
def watchSaysRow : OpenClaim := { program := "ytmolafjalaeoaaagreatdoor", sum := "83f204590ce15904ea45de7b9545e98bbf904c80b4dafb8f55a0978e48762f42", func := "cratewatch/cratewatchlaw.WatchSays", spec := "watchSays", inPlace := ["internal/bytealg.abigen_runtime_cmpstring"], unfollowed := true, recurses := true, named := ["cratewatch/tag.splits"], apart := false, laid := [("cratewatch/tag.splits", laid_cratewatch_tag_splits)] }
def WatchSaysSaid : Prop := watchSaysRow.holds Tryz.pinned (OpenSpec.ofChange watchSaysSpec)

/-- ITS FALSE NEIGHBOUR: 'it returns false'. Refute it at one input. -/
def watchSaysWrong : ChangeSpec := { name := "watchSays", fn := fun _ => fun
  | [d1, d2, d3] => { results := [.lit (.bool false)], args := [d1, d2, d3] }
  | _ => none }
def WatchSaysWrongFalsely : Prop := watchSaysRow.holds Tryz.pinned (OpenSpec.ofChange watchSaysWrong)

/-- 'cratewatchtop.TopChunks': WHATEVER THE INPUT: true; the input reads as it did. -/
def topChunksSpec : ChangeSpec := { name := "topChunks", fn := fun _ => fun
  | [d1, d2, d3, d4] => { results := [.lit (.bool true)], args := [d1, d2, d3, d4] }
  | _ => none }
def topChunksRow : OpenClaim := { program := "ytmolafjalaeoaaagreatdoor", sum := "83f204590ce15904ea45de7b9545e98bbf904c80b4dafb8f55a0978e48762f42", func := "cratewatch/cratewatchtop.TopChunks", spec := "topChunks", inPlace := ["internal/bytealg.abigen_runtime_cmpstring"], unfollowed := true, recurses := true, named := ["cratewatch/tag.splits"], apart := false, laid := [("cratewatch/tag.splits", laid_cratewatch_tag_splits)] }
def TopChunksSaid : Prop := topChunksRow.holds Tryz.pinned (OpenSpec.ofChange topChunksSpec)

/-- ITS FALSE NEIGHBOUR: 'it returns false'. Refute it at one input. -/
def topChunksWrong : ChangeSpec := { name := "topChunks", fn := fun _ => fun
  | [d1, d2, d3, d4] => { results := [.lit (.bool false)], args := [d1, d2, d3, d4] }
  | _ => none }
def TopChunksWrongFalsely : Prop := topChunksRow.holds Tryz.pinned (OpenSpec.ofChange topChunksWrong)

/-- 'cratewatchtop.TopOrder': WHATEVER THE INPUT: true; the input reads as it did. -/
def topOrderSpec : ChangeSpec := { name := "topOrder", fn := fun _ => fun
  | [d1, d2, d3] => { results := [.lit (.bool true)], args := [d1, d2, d3] }
  | _ => none }
def topOrderRow : OpenClaim := { program := "ytmolafjalaeoaaagreatdoor", sum := "83f204590ce15904ea45de7b9545e98bbf904c80b4dafb8f55a0978e48762f42", func := "cratewatch/cratewatchtop.TopOrder", spec := "topOrder", inPlace := ["internal/bytealg.abigen_runtime_cmpstring"], unfollowed := true, recurses := true, named := ["cratewatch/tag.splits"], apart := false, laid := [("cratewatch/tag.splits", laid_cratewatch_tag_splits)] }
def TopOrderSaid : Prop := topOrderRow.holds Tryz.pinned (OpenSpec.ofChange topOrderSpec)

/-- ITS FALSE NEIGHBOUR: 'it returns false'. Refute it at one input. -/
def topOrderWrong : ChangeSpec := { name := "topOrder", fn := fun _ => fun
  | [d1, d2, d3] => { results := [.lit (.bool false)], args := [d1, d2, d3] }
  | _ => none }
def TopOrderWrongFalsely : Prop := topOrderRow.holds Tryz.pinned (OpenSpec.ofChange topOrderWrong)

/-- 'cratewatchtop.TopAlerts': WHATEVER THE INPUT: true; the input reads as it did. -/
def topAlertsSpec : ChangeSpec := { name := "topAlerts", fn := fun _ => fun
  | [d1, d2, d3] => { results := [.lit (.bool true)], args := [d1, d2, d3] }
  | _ => none }
def topAlertsRow : OpenClaim := { program := "ytmolafjalaeoaaagreatdoor", sum := "83f204590ce15904ea45de7b9545e98bbf904c80b4dafb8f55a0978e48762f42", func := "cratewatch/cratewatchtop.TopAlerts", spec := "topAlerts", inPlace := ["internal/bytealg.abigen_runtime_cmpstring"], unfollowed := true, recurses := true, named := ["cratewatch/tag.splits"], apart := false, laid := [("cratewatch/tag.splits", laid_cratewatch_tag_splits)] }
def TopAlertsSaid : Prop := topAlertsRow.holds Tryz.pinned (OpenSpec.ofChange topAlertsSpec)

/-- ITS FALSE NEIGHBOUR: 'it returns false'. Refute it at one input. -/
def topAlertsWrong : ChangeSpec := { name := "topAlerts", fn := fun _ => fun
  | [d1, d2, d3] => { results := [.lit (.bool false)], args := [d1, d2, d3] }
  | _ => none }
def TopAlertsWrongFalsely : Prop := topAlertsRow.holds Tryz.pinned (OpenSpec.ofChange topAlertsWrong)

/- THE SECOND FORM. 'bulk': how many values and letters a reading holds, each counted each time it is reached (what is shared counts as often as it is met; a slice's spare places count too). A statement '..UptoSaid' is the law's where the arguments, and the package variables that the reading takes, are together of bulk at most 1048576: NARROWER than '..Said'. Prove '..Said' where nothing that the law and all that it calls make is longer than what came in: it says more and counts as full. Else prove '..UptoSaid'. A law counts once. -/
mutual
def uptoBulk {H : Type} : DataW H → Nat
  | .lit (.string bytes) => bytes.length + 1
  | .lit _ => 1
  | .nil => 1
  | .ptr d => uptoBulk d + 1
  | .slice elems spare => uptoBulkAll elems + uptoBulkAll spare + 1
  | .agg parts => uptoBulkAll parts + 1
  | .iface _ d => uptoBulk d + 1
  | .map entries => uptoBulkEntries entries + 1
  | .held _ => 1
def uptoBulkAll {H : Type} : List (DataW H) → Nat
  | [] => 0
  | d :: r => uptoBulk d + uptoBulkAll r
def uptoBulkEntries {H : Type} : List (Lit × DataW H) → Nat
  | [] => 0
  | x :: r => uptoBulkEntry x + uptoBulkEntries r
def uptoBulkEntry {H : Type} : Lit × DataW H → Nat
  | (.string bytes, d) => bytes.length + uptoBulk d + 1
  | (_, d) => uptoBulk d + 1
 end
def uptoSmall : (H : Type) → List (DataW H) → Bool := fun _ ds => decide (uptoBulkAll ds ≤ 1048576)
def OpenSpec.upto (s : _root_.Go.ChangeSpec) : _root_.Go.OpenSpec := { _root_.Go.OpenSpec.ofChange s with cond := some uptoSmall }

/-- 'cratewatchlaw.WatchSays', WHERE WHAT IT READS IS OF BULK AT MOST 1048576: true; the input reads as it did. -/
def watchSaysUptoRow : OpenClaim := { program := "ytmolafjalaeoaaagreatdoor", sum := "83f204590ce15904ea45de7b9545e98bbf904c80b4dafb8f55a0978e48762f42", func := "cratewatch/cratewatchlaw.WatchSays", spec := "watchSays", inPlace := ["internal/bytealg.abigen_runtime_cmpstring"], unfollowed := true, recurses := true, named := ["cratewatch/tag.splits"], apart := false, laid := [("cratewatch/tag.splits", laid_cratewatch_tag_splits)], narrowed := true }
def WatchSaysUptoSaid : Prop := watchSaysUptoRow.holds Tryz.pinned (OpenSpec.upto watchSaysSpec)

/-- 'cratewatchtop.TopChunks', WHERE WHAT IT READS IS OF BULK AT MOST 1048576: true; the input reads as it did. -/
def topChunksUptoRow : OpenClaim := { program := "ytmolafjalaeoaaagreatdoor", sum := "83f204590ce15904ea45de7b9545e98bbf904c80b4dafb8f55a0978e48762f42", func := "cratewatch/cratewatchtop.TopChunks", spec := "topChunks", inPlace := ["internal/bytealg.abigen_runtime_cmpstring"], unfollowed := true, recurses := true, named := ["cratewatch/tag.splits"], apart := false, laid := [("cratewatch/tag.splits", laid_cratewatch_tag_splits)], narrowed := true }
def TopChunksUptoSaid : Prop := topChunksUptoRow.holds Tryz.pinned (OpenSpec.upto topChunksSpec)

/-- 'cratewatchtop.TopOrder', WHERE WHAT IT READS IS OF BULK AT MOST 1048576: true; the input reads as it did. -/
def topOrderUptoRow : OpenClaim := { program := "ytmolafjalaeoaaagreatdoor", sum := "83f204590ce15904ea45de7b9545e98bbf904c80b4dafb8f55a0978e48762f42", func := "cratewatch/cratewatchtop.TopOrder", spec := "topOrder", inPlace := ["internal/bytealg.abigen_runtime_cmpstring"], unfollowed := true, recurses := true, named := ["cratewatch/tag.splits"], apart := false, laid := [("cratewatch/tag.splits", laid_cratewatch_tag_splits)], narrowed := true }
def TopOrderUptoSaid : Prop := topOrderUptoRow.holds Tryz.pinned (OpenSpec.upto topOrderSpec)

/-- 'cratewatchtop.TopAlerts', WHERE WHAT IT READS IS OF BULK AT MOST 1048576: true; the input reads as it did. -/
def topAlertsUptoRow : OpenClaim := { program := "ytmolafjalaeoaaagreatdoor", sum := "83f204590ce15904ea45de7b9545e98bbf904c80b4dafb8f55a0978e48762f42", func := "cratewatch/cratewatchtop.TopAlerts", spec := "topAlerts", inPlace := ["internal/bytealg.abigen_runtime_cmpstring"], unfollowed := true, recurses := true, named := ["cratewatch/tag.splits"], apart := false, laid := [("cratewatch/tag.splits", laid_cratewatch_tag_splits)], narrowed := true }
def TopAlertsUptoSaid : Prop := topAlertsUptoRow.holds Tryz.pinned (OpenSpec.upto topAlertsSpec)

end Rows
end Go.Proofs.YtmolafjalaeoaaaGreatDoor
