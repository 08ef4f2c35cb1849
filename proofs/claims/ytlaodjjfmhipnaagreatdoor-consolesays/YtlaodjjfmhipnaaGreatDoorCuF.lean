/-
  Part of it.
-/
import Derived.Test.YtlaodjjfmhipnaaGreatDoorRows
import Derived.Test.YtlaodjjfmhipnaaGreatDoorAa
set_option maxRecDepth 100000
set_option maxHeartbeats 8000000
set_option linter.all false
namespace Go.Proofs.YtlaodjjfmhipnaaGreatDoor
open Go.Proofs.Tryz
open Value renaming int→I,string→Z,pointer→Y,slice→M,tuple→Ψ
open Ending renaming returned→N
open Obj renaming cells→Δ
open Go renaming World→Ω,Calls→Φ
open IntKind renaming i64→Q
open Option renaming some→O,none→J
open RowKit renaming Below→B,Hid→H
theorem Uw:(Rows.consoleSaysRow.inPlace == prog.inPlace 3)=true:=kr
theorem Uy:(Rows.consoleSaysRow.unfollowed == prog.unfollowed 3)=true:=kr
theorem Uz:(Rows.consoleSaysRow.recurses == prog.recurses 3)=true:=kr
theorem UA:(Rows.consoleSaysRow.named == prog.varsNamed 3)=true:=kr
theorem UB:laidOutB prog=true:=kr
theorem Sm:joinedFacts prog 3 f3 Rows.consoleSaysSpec Rows.consoleSaysRow=true:=by
 unfold joinedFacts;rw[Uw,Uy,Uz,UA,UB]
 kernel_rfl
end Go.Proofs.YtlaodjjfmhipnaaGreatDoor
