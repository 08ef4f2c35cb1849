/-
  PROVED: WatchSays returns true, whatever the configuration, the rules, the acts; the arguments read as before; the package variables that its row lists are tied to the program's text (the card). No condition.
-/
import Derived.Test.YtmolafjalaeoaaaGreatDoorCards
import Derived.Test.YtmolafjalaeoaaaGreatDoorTie
import Derived.Test.YtmolafjalaeoaaaGreatDoorQcc
import Derived.Deep.DeepHandedRow
import Derived.Deep.DeepWitnessRowRef
import Derived.Carry
import Derived.ChangeMaps5
set_option maxRecDepth 100000
set_option maxHeartbeats 8000000
namespace Go.Proofs.YtmolafjalaeoaaaGreatDoor
namespace WcWatchSays
open Go.ChangeShapes Go.WideShapes Go.ChangeAt Go.RowKit Go.Deep WaM WaW WaB WbA
open RuM (Rl)
theorem contract (H:Type) (enc:TypeId×Value->H) (W:World) (base:Nat) (args:Array Value) (ds gs:List (DataW H)) (before:List MemPlace)
  (hval0:∀ (j:Nat) t v,Tryz.f3.params[j]?=some t->args[j]?=some v->Value.okWide Tryz.prog W .any base t v)
  (hW:DataW.Whole enc Tryz.prog Tryz.f3.params.toList Rows.watchSaysSpec.vars false W args.toList ds gs before) (hL:laidMetH Tryz.prog Rows.watchSaysRow.laid W) (hsh:W.ShapedOpen Tryz.prog) :
  Calls Tryz.prog 3 args W fun e W'=>∃ v,e = .returned v/\Rows.watchSaysSpec.post enc Tryz.prog Tryz.f3 false true false false W args v W':=by
 have hval:=hval0;have hW':=hW;obtain ⟨p,q,hA0,hV,rfl,hfz,hnd⟩:=hW;have hA:DataW.TrodAll enc Tryz.prog W 0 (fun _=>true) true Tryz.f3.params.toList args.toList ds p:=hA0;rw[Tryz.params3] at hA hval;obtain ⟨v0,v1,v2,d0,d1,d2,p0,p1,p2,rfl,rfl,rfl,h0,h1,h2⟩:=trodAll_three hA;obtain ⟨rfl,rfl⟩:=trodVars_none hV;have hlt:=hW'.lt;have hlt0:∀ x ∈ p0,x.block<W.heap.size:=fun x hx=>hlt x (by simp[hx]);have k0:=h0;have hlt1:∀ x ∈ p1,x.block<W.heap.size:=fun x hx=>hlt x (by simp[hx]);have k1:=h1;have hlt2:∀ x ∈ p2,x.block<W.heap.size:=fun x hx=>hlt x (by simp[hx]);have k2:=h2;obtain ⟨fuel0,hf0⟩:=h0;obtain ⟨fuel1,hf1⟩:=h1;obtain ⟨fuel2,hf2⟩:=h2;obtain ⟨cs0,rfl,hsz0⟩:=okWide_struct Tryz.underlying25 (hval 0 25 _ rfl rfl);obtain ⟨x,hx⟩:=open_config (by simpa [Value.cells,cells25] using hsz0) hf0;obtain rfl:cs0=cfw x:=by simpa [Value.cells] using congrArg List.toArray hx
 obtain ⟨q,cap,rs,hcs1,hr⟩:=open_rules hf1;obtain rfl:=cells_slice (okWide_slice Tryz.underlying26 (hval 1 26 _ rfl rfl)) hcs1;obtain ⟨pa,capA,ac,hcs2,hac,hacl⟩:=open_acts hf2;obtain rfl:=cells_slice (okWide_slice Tryz.underlying27 (hval 2 27 _ rfl rfl)) hcs2;rw[MakeChecks.laidMetH_plain _ _ _ (by kernel_rfl)] at hL;obtain ⟨ps,hLV,_,_⟩:=hL;have hTT:TagA.Tabs W:=WcA.tabs_of hLV (by simp[Rows.watchSaysRow]) (WcA.heap1 hsh);refine (watchSays_any x rs q cap ac pa capA W hr hTT hac hacl).mono fun e W' ⟨he,hbel⟩=>?_;subst he
 exact ⟨_,rfl,_,_,_,[],(p0++(p1++(p2 ++ []))),[],hW',trodAll_mk1 (shut_bool Tryz.underlying4 _),
  trodAll_cons_mk (Below.trod laidOut (by kernel_rfl) (of_decide_eq_true (by kernel_rfl)) k0 hbel hlt0) (trodAll_cons_mk (Below.trod laidOut (by kernel_rfl) (of_decide_eq_true (by kernel_rfl)) k1 hbel hlt1) (trodAll_cons_mk (Below.trod laidOut (by kernel_rfl) (of_decide_eq_true (by kernel_rfl)) k2 hbel hlt2) (trodAll_mk0))),rfl,hbel.frame _,fun h=>by cases h⟩
def zeroC:Value:=.agg (Array.replicate 22 (.int .i64 0))
def zeroD {H:Type}:DataW H:=.agg [.lit (.int .i64 0),.lit (.int .i64 0),.lit (.int .i64 0),.lit (.int .i64 0),.lit (.int .i64 0),.lit (.int .i64 0),.agg (List.replicate 4 (.agg (List.replicate 4 (.lit (.int .i64 0)))))]
theorem laid (os:Os):laidMetH Tryz.prog Rows.watchSaysRow.laid ((World.doorLaid Tryz.prog 2000 os).forCall (fun _ _=>0) ⟨#[],#[zeroC,.slice none 0 0,.slice none 0 0],[]⟩).memory:=
 laidMetH_of_parts3 (fuel:=8) (laidMet_of_run' 8 (by kernel_rfl) (by kernel_rfl)) (by kernel_rfl) (by kernel_rfl)
theorem reads (os:Os) {H:Type} (enc:TypeId×Value->H):∃ places ds1 ds2,DataW.whole enc Tryz.prog ((World.doorLaid Tryz.prog 2000 os).forCall (fun _ _=>0) ⟨#[],#[zeroC,.slice none 0 0,.slice none 0 0],[]⟩).memory Tryz.f3.params.toList Rows.watchSaysSpec.vars false (#[zeroC,.slice none 0 0,.slice none 0 0]:Array Value).toList 8=some ([zeroD,ds1,ds2],[],places):=
 ⟨[],.nil,.nil,by kernel_rfl⟩
theorem lifted (os:Os) (started:os.Started) (H:Type) (enc:TypeId×Value->H) (F:Stop.Interp) :
  ReturnsInHanded {} Tryz.checked os 3 .any ((OpenSpec.ofChange Rows.watchSaysSpec).preRow enc Tryz.prog Tryz.f3 Rows.watchSaysRow.domain false Rows.watchSaysRow.laid) (((OpenSpec.ofChange Rows.watchSaysSpec).at F).post enc Tryz.prog Tryz.f3 false true false false):=by
 obtain ⟨places,ds1,ds2,hx⟩:=reads os enc
 refine returnsInHanded_of_row (C:=Tryz.checked) (s:=OpenSpec.ofChange Rows.watchSaysSpec) own started (by kernel_rfl) Tryz.func3
  (witness_row_atRef (enc:=enc) (C:=Tryz.checked) false (World.doorLaid Tryz.prog 2000 os) #[zeroC,.slice none 0 0,.slice none 0 0] rfl (by kernel_rfl) (by kernel_rfl) (by kernel_rfl)
   (OpenSpec.preRow_of_cond 8 hx (by kernel_rfl) (fun k hk=>by cases hk) (by kernel_rfl) (laid os))) ?_
 intro W base args ds gs before hval hW _ _ _ hL hsh _;exact contract H enc W base args ds gs before hval hW hL hsh
theorem said:Rows.WatchSaysSaid:=
 OpenClaim.holds_of_cond 3 Tryz.f3 rfl rfl rfl rfl rfl rfl rfl ⟨rfl,rfl,rfl,rfl,rfl⟩ rfl rfl rfl rfl rfl (by kernel_rfl) Tryz.func3 (by kernel_rfl)
  (of_decide_eq_true (by kernel_rfl)) (by unfold Func.isWrapper;first | (rw[if_pos (by decide +kernel)];kernel_rfl) | (rw[if_neg (by decide +kernel)];exact ⟨rfl,rfl⟩))
  (fun os started H enc _ F=>by rw[OpenClaim.pre_eq_preRow];exact lifted os started H enc F)
theorem plain (f:FuncId) (fn:Func) (hf:Tryz.pinned.checked.prog.funcNamed "cratewatch/cratewatchlaw.WatchSays"=some f) (hfn:Tryz.pinned.checked.prog.funcs[f]?=some fn) :
  true=Tryz.pinned.checked.prog.looks []/\∀ (j:Nat) t,fn.params[j]?=some t->Tryz.pinned.checked.prog.wantsStandIn t=false:=by
 obtain rfl:f=3:=Option.some.inj ((show Tryz.prog.funcNamed "cratewatch/cratewatchlaw.WatchSays"=some 3 by kernel_rfl).symm.trans hf) |>.symm;obtain rfl:fn=Tryz.f3:=(Option.some.inj (Tryz.func3.symm.trans hfn)).symm;refine ⟨by kernel_rfl,fun j t ht=>?_⟩;rw[Tryz.params3] at ht;have hm:t ∈ [25,26,27]:=by simpa using Array.mem_of_getElem? ht
 have hall:([25,26,27].all fun u=>!Tryz.prog.wantsStandIn u)=true:=by kernel_rfl
 exact (show Tryz.prog.wantsStandIn t=false by simpa using List.all_eq_true.1 hall t hm)
end WcWatchSays
theorem watchSays_holds:Rows.WatchSaysCardSaid:=
 Claim7.holds_tied_plain_at .later [] _ _ _ _ WcWatchSays.said (fun _ h=>by cases h) (by kernel_rfl) (fun _ h=>by cases h) watchSays_row_tie rfl ⟨rfl,rfl⟩ (by kernel_rfl) rfl WcWatchSays.plain (by kernel_rfl)
end Go.Proofs.YtmolafjalaeoaaaGreatDoor
