/-
  PROVED: ConsoleSays returns true, whatever the lines; the argument reads as before; the package variables that its row lists are tied to the program's text (the card). No condition.
-/
import Derived.Test.YtlaodjjfmhipnaaGreatDoorCards
import Derived.Test.YtlaodjjfmhipnaaGreatDoorTie
import Derived.Test.YtlaodjjfmhipnaaGreatDoorCuD
import Derived.Test.YtlaodjjfmhipnaaGreatDoorCuF
set_option maxRecDepth 100000
set_option maxHeartbeats 8000000
set_option linter.all false
namespace Go.Proofs.YtlaodjjfmhipnaaGreatDoor
open Value renaming int→I,string→Z,pointer→Y,slice→M,tuple→Ψ
open Ending renaming returned→N
open Obj renaming cells→Δ
open Go renaming World→Ω,Calls→Φ
open IntKind renaming i64→Q
open Option renaming some→O,none→J
open RowKit renaming Below→B,Hid→H
open Go.ChangeShapes Go.WideShapes Go.ChangeAt Go.RowKit Go.Deep
theorem T9:Rows.ConsoleSaysSaid:=
 OpenClaim.holds_of_cond 3 Tryz.f3 rfl rfl rfl rfl rfl rfl rfl ⟨rfl,rfl,rfl,rfl,rfl⟩ rfl rfl rfl rfl rfl kr Tryz.func3 Sm
  (of_decide_eq_true kr) (by unfold Func.isWrapper;first|(rw[ak (by decide +kernel)];kernel_rfl)|(rw[ag (by decide +kernel)];exact⟨rfl,rfl⟩))
  (λd b a c _ F=>by rw[OpenClaim.pre_eq_preRow];exact Sl d b a c F)
theorem Tx(f:FuncId)(fn:Func)(d:Tryz.pinned.checked.prog.funcNamed "cratewatch/cratewatchlaw.ConsoleSays"=O f)(b:Tryz.pinned.checked.prog.funcs[f]?=O fn):
  true=Tryz.pinned.checked.prog.looks []/\∀ (j:Nat) t,fn.params[j]?=O t->Tryz.pinned.checked.prog.wantsStandIn t=false:=by
 obtain rfl:f=3:=np ((show Tryz.prog.funcNamed "cratewatch/cratewatchlaw.ConsoleSays"=O 3 by kernel_rfl).symm.trans d) |>.symm;obtain rfl:fn=Tryz.f3:=(np (Tryz.func3.symm.trans b)).symm;refine⟨by kernel_rfl,fun j t c=>?_⟩;rw[Tryz.params3]at c;have e:t ∈ [22]:=by simpa using Array.mem_of_getElem? c
 have a:([22].all fun u=>!Tryz.prog.wantsStandIn u)=true:=kr;exact(show Tryz.prog.wantsStandIn t=false by simpa using kQ.1 a t e)
theorem consoleSays_holds:Rows.ConsoleSaysCardSaid:=
 Claim7.holds_tied_plain_at .later [] _ _ _ _ T9 (λ_ h=>by cases h) kr (λ_ h=>by cases h) consoleSays_row_tie rfl ⟨rfl,rfl⟩ kr rfl Tx kr
#print axioms consoleSays_holds
end Go.Proofs.YtlaodjjfmhipnaaGreatDoor
