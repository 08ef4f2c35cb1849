/-
  Part of it.
-/
import Derived.Test.YtlaodjjfmhipnaaGreatDoorSbc
set_option maxRecDepth 100000
set_option maxHeartbeats 8000000
set_option linter.all false
namespace Go.Proofs.YtlaodjjfmhipnaaGreatDoor
open Go.Proofs.Tryz
open Value renaming int→I,string→Z,pointer→Y,slice→M,tuple→Ψ
open Ending renaming returned→N
open Obj renaming cells→Δ
open Go renaming World→Ω,Calls→Φ
open IntKind renaming i64→Q
open Option renaming some→O,none→J
open RowKit renaming Below→B,Hid→H
section
open Go.ChangeShapes Go.WideShapes Go.ChangeAt Go.RowKit Go.Deep
def KN:Array Value:=(Go.Pinned.utf8FirstZ.map λ(n:Nat)=>I .u8 ((n:Nat):Int)).toArray
def AT:Obj->Obj
 |Δ _ t frozen=>Δ KN t frozen
 |o=>o
theorem T8(a:Os):laidMetH prog Rows.consoleSaysRow.laid ((({ World.doorLaid prog 2000 a with heap:=(World.doorLaid prog 2000 a).1.modify 7 AT } : Ω)).forCall (λ_ _=>0) ⟨#[],#[M J 0 0],[]⟩).memory:=
 laidMetH_of_parts3 (fuel:=8) (laidMet_of_run' 8 kr kr) kr kr
end
end Go.Proofs.YtlaodjjfmhipnaaGreatDoor
