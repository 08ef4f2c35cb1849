/-
  Part of it.
-/
import Derived.Test.YtlaodjjfmhipnaaGreatDoorCuC
set_option maxRecDepth 100000
set_option maxHeartbeats 8000000
set_option linter.all false
namespace Go.Proofs.YtlaodjjfmhipnaaGreatDoor
open Go.Proofs.Tryz
open Value renaming int→I,string→Z,pointer→Y,slice→M,tuple→Ψ
open Ending renaming returned→N
open Obj renaming cells→Δ
open Go renaming World→Ω,Calls→Φ
open IntKind renaming i64→Q
open Option renaming some→O,none→J
open RowKit renaming Below→B,Hid→H
section
open Go.ChangeShapes Go.WideShapes Go.ChangeAt Go.RowKit Go.Deep
theorem Tw(a:Os){H:Type}(enc:TypeId×Value->H):∃places ds,DataW.whole enc prog ((({ World.doorLaid prog 2000 a with heap:=(World.doorLaid prog 2000 a).1.modify 7 AT } : Ω)).forCall (λ_ _=>0) ⟨#[],#[M J 0 0],[]⟩).memory f3.params.toList Rows.consoleSaysSpec.vars false (#[M J 0 0]:Array Value).toList 8=O ([ds],[],places):=
 ⟨[],.nil,by kernel_rfl⟩
theorem Sl(c:Os)(a:c.Started)(H:Type)(enc:TypeId×Value->H)(F:Stop.Interp):
  ReturnsInHanded {} checked c 3 .any ((OpenSpec.ofChange Rows.consoleSaysSpec).preRow enc prog f3 Rows.consoleSaysRow.domain false Rows.consoleSaysRow.laid) (((OpenSpec.ofChange Rows.consoleSaysSpec).at F).post enc prog f3 false true false false):=by
 obtain⟨g,i,m⟩:=Tw c enc
 refine returnsInHanded_of_row (C:=checked) (s:=OpenSpec.ofChange Rows.consoleSaysSpec) Ui a kr func3
  (witness_row_atRef (enc:=enc) (C:=checked) false ({ World.doorLaid prog 2000 c with heap:=(World.doorLaid prog 2000 c).1.modify 7 AT } : Ω) #[M J 0 0] rfl kr kr kr
   (OpenSpec.preRow_of_cond 8 m kr (λk j=>by cases j) kr (T8 c))) ?_
 intro W d f i l b e n _ _ _ o h _;exact Px H enc W d f i l b e n o h
end
end Go.Proofs.YtlaodjjfmhipnaaGreatDoor
