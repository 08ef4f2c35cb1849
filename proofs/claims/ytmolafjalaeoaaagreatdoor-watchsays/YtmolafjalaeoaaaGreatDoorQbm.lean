/-
  WbM WcA EpG EpH EpI EpJ EqA FrmL
-/
import Derived.Test.YtmolafjalaeoaaaGreatDoorQbl
import Derived.Test.YtmolafjalaeoaaaGreatDoorRows
import Derived.LaidMore
import Derived.Lib.LaidTab
import Derived.Lib.SmallJoins
set_option maxRecDepth 100000
set_option maxHeartbeats 8000000
namespace Go.Proofs.YtmolafjalaeoaaaGreatDoor
open Go.Proofs.Tryz
namespace WbA
open Go.ChangeShapes Go.WideShapes Go.ChangeAt Go.RowKit Go.Deep TkW WaM WaW WaB
section
variable {H : Type} {enc : TypeId × Value → H} {w : World} {base : Nat} {spare : Nat → Bool} {held : Bool}
theorem open_row4 {fuel:Nat} {cs:List Value} {x:DataW H×List MemPlace} (hlen:cs.length=4) (h:DataW.trod enc prog w base spare held fuel 22 cs=some x):∃ f:Nat->Int,cs = [.int .i64 (f 0),.int .i64 (f 1),.int .i64 (f 2),.int .i64 (f 3)]:=by
 match cs,hlen with
 | [v0,v1,v2,v3],_=>
  obtain ⟨xs,n,_,hx,_,hl,he⟩:=DataW.trod_array underlying22 h;have key:∀ i,i<4->∃ z:Int,([v0,v1,v2,v3].drop i).take 1 = [.int .i64 z]:=fun i hi=>by have e:=he i hi;rw[cells3,Nat.mul_one] at e;have hi':i<xs.length:=(by omega);rw[List.getElem?_eq_getElem hi'] at e;obtain ⟨z,q,_,_⟩:=DataW.trod_int underlying3 e;exact ⟨z,q⟩
  obtain ⟨a0,q0⟩:=key 0 (by omega);obtain ⟨a1,q1⟩:=key 1 (by omega);obtain ⟨a2,q2⟩:=key 2 (by omega);obtain ⟨a3,q3⟩:=key 3 (by omega);simp at q0 q1 q2 q3;subst q0 q1 q2 q3;exact ⟨fun i=>if i=0 then a0 else if i=1 then a1 else if i=2 then a2 else a3,rfl⟩
theorem open_where {fuel:Nat} {cs:List Value} {x:DataW H×List MemPlace} (hlen:cs.length=16) (h:DataW.trod enc prog w base spare held fuel 23 cs=some x):∃ pl:Nat->Nat->Int,cs=(plw pl).toList:=by
 obtain ⟨xs,n,_,hx,_,hl,he⟩:=DataW.trod_array underlying23 h
 have key:∀ i,i<4->∃ f:Nat->Int,(cs.drop (i*4)).take 4 = [.int .i64 (f 0),.int .i64 (f 1),.int .i64 (f 2),.int .i64 (f 3)]:=fun i hi=>by
  have e:=he i hi;rw[cells22] at e;have hi':i<xs.length:=by omega
  rw[List.getElem?_eq_getElem hi'] at e;exact open_row4 (by rw[List.length_take,List.length_drop];omega) e
 obtain ⟨f0,q0⟩:=key 0 (by omega);obtain ⟨f1,q1⟩:=key 1 (by omega);obtain ⟨f2,q2⟩:=key 2 (by omega);obtain ⟨f3,q3⟩:=key 3 (by omega);refine ⟨fun i=>if i=0 then f0 else if i=1 then f1 else if i=2 then f2 else f3,?_⟩
 have e0:cs=(cs.drop 0).take 4++((cs.drop 4).take 4++((cs.drop 8).take 4++(cs.drop 12).take 4)):=by
  have h1:cs=cs.take 4++cs.drop 4:=(List.take_append_drop 4 cs).symm;have h2:cs.drop 4=(cs.drop 4).take 4++cs.drop 8:=by have:=(List.take_append_drop 4 (cs.drop 4)).symm;rw[List.drop_drop] at this;exact this
  have h3:cs.drop 8=(cs.drop 8).take 4++cs.drop 12:=by have:=(List.take_append_drop 4 (cs.drop 8)).symm;rw[List.drop_drop] at this;exact this
  have h4:(cs.drop 12).take 4=cs.drop 12:=List.take_of_length_le (by rw[List.length_drop];omega);rw[h4,<- h3,<- h2,List.drop_zero];exact h1
 have q0':(cs.drop 0).take 4 = _:=q0;have q1':(cs.drop 4).take 4 = _:=q1;have q2':(cs.drop 8).take 4 = _:=q2;have q3':(cs.drop 12).take 4 = _:=q3;rw[e0,q0',q1',q2',q3'];rfl
theorem open_config {fuel:Nat} {cs:List Value} {x:DataW H×List MemPlace} (hlen:cs.length=22) (h:DataW.trod enc prog w base spare held fuel 25 cs=some x):∃ y:Ci,cs=(cfw y).toList:=by
 obtain ⟨xs,n,_,hx,_,hl,he⟩:=DataW.trod_struct underlying25 h;have hl7:xs.length=7:=hl;have gi:∀ i,i<7->xs[i]?=some (xs[i]?.getD default):=fun i hi=>by rw[List.getElem?_eq_getElem (by omega)];rfl
 have e0:DataW.trod enc prog w base spare held n 3 ((cs.drop 0).take (prog.cellsOf 3))=xs[0]?:=he 0 _ rfl;have e1:DataW.trod enc prog w base spare held n 3 ((cs.drop 1).take (prog.cellsOf 3))=xs[1]?:=he 1 _ rfl;have e2:DataW.trod enc prog w base spare held n 3 ((cs.drop 2).take (prog.cellsOf 3))=xs[2]?:=he 2 _ rfl;have e3:DataW.trod enc prog w base spare held n 3 ((cs.drop 3).take (prog.cellsOf 3))=xs[3]?:=he 3 _ rfl;have e4:DataW.trod enc prog w base spare held n 3 ((cs.drop 4).take (prog.cellsOf 3))=xs[4]?:=he 4 _ rfl;have e5:DataW.trod enc prog w base spare held n 3 ((cs.drop 5).take (prog.cellsOf 3))=xs[5]?:=he 5 _ rfl;have e6:DataW.trod enc prog w base spare held n 23 ((cs.drop 6).take (prog.cellsOf 23))=xs[6]?:=he 6 _ rfl;rw[List.getElem?_eq_getElem (by omega)] at e0 e1 e2 e3 e4 e5 e6;rw[cells3] at e0 e1 e2 e3 e4 e5;rw[cells23] at e6;obtain ⟨a0,q0,_,_⟩:=DataW.trod_int underlying3 e0;obtain ⟨a1,q1,_,_⟩:=DataW.trod_int underlying3 e1;obtain ⟨a2,q2,_,_⟩:=DataW.trod_int underlying3 e2;obtain ⟨a3,q3,_,_⟩:=DataW.trod_int underlying3 e3;obtain ⟨a4,q4,_,_⟩:=DataW.trod_int underlying3 e4;obtain ⟨a5,q5,_,_⟩:=DataW.trod_int underlying3 e5;obtain ⟨pl,q6⟩:=open_where (by rw[List.length_take,List.length_drop];omega) e6;refine ⟨⟨a0,a1,a2,a3,a4,a5,pl⟩,?_⟩;have step:∀ k,(cs.drop k)=(cs.drop k).take 1++cs.drop (k+1):=fun k=>by have:=(List.take_append_drop 1 (cs.drop k)).symm;rw[List.drop_drop] at this;exact this
 have e:cs=(cs.drop 0).take 1++((cs.drop 1).take 1++((cs.drop 2).take 1++((cs.drop 3).take 1++((cs.drop 4).take 1++((cs.drop 5).take 1++(cs.drop 6).take 16))))):=by have h6:(cs.drop 6).take 16=cs.drop 6:=List.take_of_length_le (by rw[List.length_drop];omega);rw[h6,<- step 5,<- step 4,<- step 3,<- step 2,<- step 1,<- step 0,List.drop_zero]
 rw[e,q0,q1,q2,q3,q4,q5,q6];rfl
end
end WbA
namespace WcA
open Go.RowKit TagM
theorem laid_at {P:Program} {w:World}:∀ {l:List (String×DataW Unit)} {ps:List MemPlace},DataW.LaidVars P w l ps->∀ n d,(n,d) ∈ l ->
  ∃ g t cs fuel p,P.globalNamed n=some g/\(P.globals[g]?).map (·.type)=some t/\w.var? P n=some cs/\DataW.trod (fun _=>()) P w 0 (fun _=>true) false fuel t cs.toList=some (d,p)
 | [],_,_,n,d,h=>by cases h
 | (m,x)::r,ps,hl,n,d,h=>by
  obtain ⟨g,t,cs,fuel,p,q,h1,h2,h3,h4,h5,h6⟩:=hl;rcases List.mem_cons.1 h with e | e
  ·cases e;exact ⟨g,t,cs,fuel,p,h1,h2,h3,h4⟩
  ·exact laid_at h5 n d e
section
variable {P : Program} {w : World} {base : Nat} {spare : Nat → Bool} {held : Bool} {fuel : Nat}
theorem arr_elem {t e:TypeId} {n i:Nat} {cs:List Value} {ds:List (DataW Unit)} {d:DataW Unit} {p:List MemPlace} (ht:P.underlying t=some (.array n e))
  (h:DataW.trod (fun _=>()) P w base spare held fuel t cs=some (.agg ds,p)) (hi:i<n) (hd:ds[i]?=some d) :
  ∃ m q,DataW.trod (fun _=>()) P w base spare held m e ((cs.drop (i*P.cellsOf e)).take (P.cellsOf e))=some (d,q):=by
 obtain ⟨xs,m,_,hx,_,hl,he⟩:=DataW.trod_array ht h;simp only[Prod.mk.injEq,DataW.agg.injEq] at hx;obtain ⟨rfl,_⟩:=hx;rw[List.getElem?_map] at hd;obtain ⟨y,hy,rfl⟩:=Option.map_eq_some_iff.1 hd;exact ⟨m,y.2,by rw[he i hi,hy]⟩
theorem struct_elem {t:TypeId} {fs:Array Field} {f:Field} {i:Nat} {cs:List Value} {ds:List (DataW Unit)} {d:DataW Unit} {p:List MemPlace} (ht:P.underlying t=some (.struct fs))
  (h:DataW.trod (fun _=>()) P w base spare held fuel t cs=some (.agg ds,p)) (hf:fs[i]?=some f) (hd:ds[i]?=some d) :
  ∃ m q,DataW.trod (fun _=>()) P w base spare held m f.type ((cs.drop f.offset).take (P.cellsOf f.type))=some (d,q):=by
 obtain ⟨xs,m,_,hx,_,hl,he⟩:=DataW.trod_struct ht h;simp only[Prod.mk.injEq,DataW.agg.injEq] at hx;obtain ⟨rfl,_⟩:=hx;rw[List.getElem?_map] at hd;obtain ⟨y,hy,rfl⟩:=Option.map_eq_some_iff.1 hd;exact ⟨m,y.2,by rw[he i f hf,hy]⟩
theorem int_elem {t:TypeId} {k:IntKind} {cs:List Value} {z:Int} {p:List MemPlace} (ht:P.underlying t=some (.int k))
  (h:DataW.trod (fun _=>()) P w base spare held fuel t cs=some (.lit (.int k z),p)):cs = [.int k z]:=by
 obtain ⟨n,rfl,hx,_⟩:=DataW.trod_int ht h;simp only[Prod.mk.injEq,DataW.lit.injEq,Lit.int.injEq,true_and] at hx;rw[hx.1]
end
theorem pick1 {l:List Value} {a b j:Nat} {x:Value} (h:(((l.drop a).take b).drop j).take 1 = [x]):l[a+j]?=some x:=by
 have:=congrArg (·[0]?) h;simp only[List.getElem?_take,List.getElem?_drop,Nat.add_zero,List.getElem?_cons_zero] at this;revert this;simp only[Nat.lt_one_iff,if_true];intro h2;split at h2
 ·exact h2
 ·cases h2
theorem c3:prog.cellsOf 3=1:=by kernel_rfl
theorem cSp:prog.cellsOf 149=4:=by kernel_rfl
theorem gSp:prog.globalNamed "cratewatch/tag.splits"=some 0:=by kernel_rfl
theorem tySp:(prog.globals[0]?).map (·.type)=some 150:=by kernel_rfl
def rowD (k:Nat):DataW Unit:=.agg [.lit (.int .i64 (cbits k)),.lit (.int .i64 (cdig k)),.lit (.int .i64 (rbits k)),.lit (.int .i64 (rdig k))]
theorem splitsD:(Rows.laid_cratewatch_tag_splits:DataW Unit) = .agg [rowD 0,rowD 1,rowD 2,rowD 3,rowD 4,rowD 5]:=rfl
theorem tabs_of {W:World} {ps:List MemPlace} {l:List (String×DataW Unit)} (h:DataW.LaidVars prog W l ps)
  (m0:("cratewatch/tag.splits",Rows.laid_cratewatch_tag_splits) ∈ l) (hsz : 1<=W.heap.size):TagA.Tabs W:=by
 have hsp:∀ k j:Nat,k<6->∀ (f:Field) (z:Int),(match prog.underlying 149 with | some (.struct fs)=>fs[j]? | _=>none)=some f->f.type=3->f.offset=j->(match rowD k with | .agg ds=>ds[j]? | _=>none)=some (.lit (.int .i64 z))->W.cell? ⟨0,k*4+j,none⟩=some (.int .i64 z):=by
  intro k j hk f z hf hft hfo hz;obtain ⟨g,t,cs,fuel,p,hg,ht,hv,hd⟩:=laid_at h _ _ m0;obtain rfl:=Option.some.inj (gSp.symm.trans hg);obtain rfl:=Option.some.inj (tySp.symm.trans ht);rw[splitsD] at hd
  have hrow:([rowD 0,rowD 1,rowD 2,rowD 3,rowD 4,rowD 5]:List (DataW Unit))[k]?=some (rowD k):=by
   match k,hk with
   | 0,_ | 1,_ | 2,_ | 3,_ | 4,_ | 5,_=>rfl
  obtain ⟨m,q,he⟩:=arr_elem underlying150 hd hk hrow;rw[cSp] at he;unfold rowD at he hz;rw[underlying149] at hf;obtain ⟨m',q',he'⟩:=struct_elem underlying149 he hf hz;rw[hft,hfo,c3] at he';have:=pick1 (int_elem underlying3 he');rw[World.var?_cell hg hv];simpa using this
 refine ⟨hsz,?_,?_,?_,?_⟩
 ·intro k hk;exact hsp k 0 hk _ _ (by rw[underlying149];rfl) rfl rfl rfl
 ·intro k hk;exact hsp k 1 hk _ _ (by rw[underlying149];rfl) rfl rfl rfl
 ·intro k hk;exact hsp k 2 hk _ _ (by rw[underlying149];rfl) rfl rfl rfl
 ·intro k hk;exact hsp k 3 hk _ _ (by rw[underlying149];rfl) rfl rfl rfl
theorem row0:(((begin prog (fun _ _=>0) default).world.heap[0]?).bind Obj.row?).isSome=true:=by kernel_rfl
theorem glob1 : 0<prog.globals.size:=of_decide_eq_true (by kernel_rfl)
theorem heap1 {W:World} (h:W.ShapedOpen prog) : 1<=W.heap.size:=by
 obtain ⟨⟨z,t⟩,hz⟩:=Option.isSome_iff_exists.1 row0;obtain ⟨cs,hc,_⟩:=h.1 0 z t glob1 hz;rcases Nat.lt_or_ge 0 W.heap.size with h | h
 ·omega
 ·rw[Array.getElem?_eq_none h] at hc;cases hc
end WcA
namespace EpA
open TkM (Sg)
open Go.RowKit EpM EpW TkW Go.Maps
theorem bytesLess_eq:∀ a b:List UInt8,Op.bytesLess a b=decide (Lib.compareBytes a b<0)
 | [],[]=>by simp[Op.bytesLess,Lib.compareBytes]
 | [],_ :: _=>by simp[Op.bytesLess,Lib.compareBytes]
 | _ :: _,[]=>by simp[Op.bytesLess,Lib.compareBytes]
 | a::x,b::y=>by
  have ih:=bytesLess_eq x y;unfold Op.bytesLess Lib.compareBytes;by_cases h1:a<b
  ·simp[h1]
  ·by_cases h2:b<a
   ·have h3:¬ a=b:=fun e=>UInt8.lt_irrefl b (e ▸ h2);simp[h1,h2,h3]
   ·have h3:a=b:=UInt8.le_antisymm (UInt8.not_lt.1 h2) (UInt8.not_lt.1 h1);simp[h3,ih,UInt8.lt_irrefl]
theorem lt_tag {x y:Sg} (h:¬ x.g.data.toList=y.g.data.toList):lt x y=Op.bytesLess x.g.data.toList y.g.data.toList:=by have hz:Lib.compareBytes x.g.data.toList y.g.data.toList≠0:=fun e=>h (bytes_zero e);rw[bytesLess_eq];unfold lt cf lex;simp only[if_pos hz]
theorem int_lt (a b:Int):decide (Lib.compareInt a b<0)=decide (a<b):=by
 unfold Lib.compareInt;by_cases h:a<b
 ·simp[h]
 ·by_cases h2:a>b<;>simp[h,h2]
theorem int_ne {a b:Int} (h:a≠b):Lib.compareInt a b≠0:=fun e=>h (int_zero e)
theorem int_eq (a:Int):Lib.compareInt a a=0:=by simp[Lib.compareInt]
theorem bytes_eq (a:List UInt8):Lib.compareBytes a a=0:=by have:=bytes_neg a a;omega
theorem lt_time {x y:Sg} (h:x.g.data.toList=y.g.data.toList) (ht:x.t≠y.t):lt x y=decide (x.t<y.t):=by rw[<- int_lt];unfold lt cf lex;simp only[h,bytes_eq,ne_eq,not_true_eq_false,if_false,int_ne ht,not_false_eq_true,if_true]
theorem lt_place {x y:Sg} (h:x.g.data.toList=y.g.data.toList) (ht:x.t=y.t) (hp:x.p≠y.p):lt x y=decide (x.p<y.p):=by rw[<- int_lt];unfold lt cf lex;simp only[h,ht,bytes_eq,int_eq,ne_eq,not_true_eq_false,if_false,int_ne hp,not_false_eq_true,if_true]
theorem lt_strength {x y:Sg} (h:x.g.data.toList=y.g.data.toList) (ht:x.t=y.t) (hp:x.p=y.p):lt x y=decide (x.s<y.s):=by rw[<- int_lt];unfold lt cf lex;simp only[h,ht,hp,bytes_eq,int_eq,ne_eq,not_true_eq_false,if_false]
theorem ahead_any (x y:Sg) (w:World) :
  Calls prog 117 #[.agg #[.int .i64 x.p,.int .i64 x.s,.int .i64 x.t,.string x.g],.agg #[.int .i64 y.p,.int .i64 y.s,.int .i64 y.t,.string y.g]] w fun e w'=>e = .returned (.bool (lt x y))/\Below w.heap.size w w':=by
 have HB:Hid (∀ o o',Below w.heap.size w ((w.alloc o).alloc o')):=fun o o'=>((Below.refl _ w).alloc (Nat.le_refl _) o).alloc (by simp) o';obtain ⟨R,hR⟩:∃ R,R=lt x y:=⟨_,rfl⟩;have HR:Hid (R=lt x y):=hR;rw[<- hR];clear hR;obtain ⟨xp,xs,xt,xg⟩:=x;obtain ⟨yp,ys,yt,yg⟩:=y;go_enter func117,ntmps117;go_wp2
 ·rename_i h1;go_ret;refine ⟨?_,HB.out _ _⟩;rw[HR.out,lt_tag (by simpa [ByteArray.toList_eq] using h1)];simp[ByteArray.toList_eq]
 ·rename_i h1 _ _ h2;go_ret;refine ⟨?_,HB.out _ _⟩;rw[HR.out,lt_time (by simpa [ByteArray.toList_eq] using h1) (by simpa using h2)];rfl
 ·rename_i h1 h2 _ _ h3;go_ret;refine ⟨?_,HB.out _ _⟩;rw[HR.out,lt_place (by simpa [ByteArray.toList_eq] using h1) (by simpa using h2) (by simpa using h3)];rfl
 ·rename_i h1 h2 h3;go_ret;refine ⟨?_,HB.out _ _⟩;rw[HR.out,lt_strength (by simpa [ByteArray.toList_eq] using h1) (by simpa using h2) (by simpa using h3)];rfl
end EpA
namespace EpA
open TkM (Sg)
open Go.RowKit EpM EpW TkW Go.Maps
theorem btw_no {n lo hi:Int} (h:btw n lo hi=false):decide (n<lo)=true\/(decide (n<lo)=false/\decide (hi<n)=true):=by simp[btw] at h ⊢;omega
theorem btw_yes {n lo hi:Int} (h:btw n lo hi=true):decide (n<lo)=false/\decide (hi<n)=false:=by simp[btw] at h ⊢;omega
theorem okS_btw (now:Nat) (x:Sg):okS now x=(btw x.p 0 7&&btw x.s 0 255&&btw x.t 0 now&&decide (x.g.size=8)):=rfl
def SgBad (now:Nat) (x:Sg):Prop:=
 decide (x.p<0)=true
 \/ (decide (x.p<0)=false/\decide (7<x.p)=true)
 \/ (decide (x.p<0)=false/\decide (7<x.p)=false/\decide (x.s<0)=true)
 \/ (decide (x.p<0)=false/\decide (7<x.p)=false/\decide (x.s<0)=false/\decide (255<x.s)=true)
 \/ (decide (x.p<0)=false/\decide (7<x.p)=false/\decide (x.s<0)=false/\decide (255<x.s)=false/\decide (x.t<0)=true)
 \/ (decide (x.p<0)=false/\decide (7<x.p)=false/\decide (x.s<0)=false/\decide (255<x.s)=false/\decide (x.t<0)=false/\decide ((now:Int)<x.t)=true)
 \/ (decide (x.p<0)=false/\decide (7<x.p)=false/\decide (x.s<0)=false/\decide (255<x.s)=false/\decide (x.t<0)=false/\decide ((now:Int)<x.t)=false/\((x.g.size:Int) != 8)=true)
theorem sgBad {now:Nat} {x:Sg} (h:okS now x=false):SgBad now x:=by
 rw[okS_btw] at h;cases h1:btw x.p 0 7 with
 | false=>
  rcases btw_no h1 with h | ⟨h,h'⟩
  ·exact Or.inl h
  ·exact Or.inr (Or.inl ⟨h,h'⟩)
 | true=>
  obtain ⟨a0,a1⟩:=btw_yes h1;cases h2:btw x.s 0 255 with
  | false=>
   rcases btw_no h2 with h | ⟨h,h'⟩
   ·exact Or.inr (Or.inr (Or.inl ⟨a0,a1,h⟩))
   ·exact Or.inr (Or.inr (Or.inr (Or.inl ⟨a0,a1,h,h'⟩)))
  | true=>
   obtain ⟨s0,s1⟩:=btw_yes h2;cases h3:btw x.t 0 now with
   | false=>
    rcases btw_no h3 with h | ⟨h,h'⟩
    ·exact Or.inr (Or.inr (Or.inr (Or.inr (Or.inl ⟨a0,a1,s0,s1,h⟩))))
    ·exact Or.inr (Or.inr (Or.inr (Or.inr (Or.inr (Or.inl ⟨a0,a1,s0,s1,h,h'⟩)))))
   | true=>
    obtain ⟨g0,g1⟩:=btw_yes h3;refine Or.inr (Or.inr (Or.inr (Or.inr (Or.inr (Or.inr ⟨a0,a1,s0,s1,g0,g1,?_⟩)))));simp[h1,h2,h3] at h;simp;omega
theorem sgGood {now:Nat} {x:Sg} (h:okS now x=true):decide (x.p<0)=false/\decide (7<x.p)=false/\decide (x.s<0)=false/\decide (255<x.s)=false/\decide (x.t<0)=false/\decide ((now:Int)<x.t)=false/\((x.g.size:Int) != 8)=false:=by have ok:=okS_iff.1 h;have:=ok.p0;have:=ok.p1;have:=ok.s0;have:=ok.s1;have:=ok.t0;have:=ok.t1;have:=ok.g;simp;omega
end EpA
namespace EpA
open TkM (Sg)
open Go.RowKit EpM EpW TkW Go.Maps
theorem info93:(prog.info? 221).map (fun i=>(i.zero,i.size,i.bytes))=some (some (.agg #[.int .i64 0,.int .i64 0,.int .i64 0,.string ⟨#[]⟩,.int .i64 0]),5,48):=by kernel_rfl
end EpA
namespace EpA
open TkM (Sg)
open Go.RowKit EpM EpW TkW Go.Maps
structure RsAt (w:World) (b o:Nat) (x:Sg) (k:Nat):Prop where
 c0:w.cell? ⟨b,o,none⟩=some (.int .i64 x.p)
 c1:w.cell? ⟨b,o+1,none⟩=some (.int .i64 x.s)
 c2:w.cell? ⟨b,o+1+1,none⟩=some (.int .i64 x.t)
 c3:w.cell? ⟨b,o+1+1+1,none⟩=some (.string x.g)
 c4:w.cell? ⟨b,o+4,none⟩=some (.int .i64 (k:Int))
theorem RsAt.keep {w w':World} {b o:Nat} {x:Sg} {k:Nat} (h:RsAt w b o x k) (e:w'.heap[b]?=w.heap[b]?):RsAt w' b o x k where
 c0:=by rw[World.cell?_of_block (w:=w) e];exact h.c0
 c1:=by rw[World.cell?_of_block (w:=w) e];exact h.c1
 c2:=by rw[World.cell?_of_block (w:=w) e];exact h.c2
 c3:=by rw[World.cell?_of_block (w:=w) e];exact h.c3
 c4:=by rw[World.cell?_of_block (w:=w) e];exact h.c4
theorem own_rs {V:World} {v:Value} {size:Nat} {xs:List Sg} (h:V.ownsRow 0 221 5 v xs.length (rscs size xs)):∃ p cap,v = .slice p xs.length cap/\(xs≠[]->∃ b,p=some ⟨b,0,none⟩/\b<V.heap.size/\∀ k x,xs[k]?=some x->RsAt V b (k*5) x (epo size x)):=by
 by_cases hne:xs = []
 ·subst hne;rcases h.2 with ⟨rfl,h0⟩ | ⟨g,cap,cur,hv,_⟩
  ·exact ⟨none,0,rfl,fun h=>absurd rfl h⟩
  ·exact ⟨_,cap,hv,fun h=>absurd rfl h⟩
 ·obtain ⟨g,cap,rfl,h1,h2⟩:=h.form (List.length_pos_iff.2 hne);refine ⟨_,cap,rfl,fun _=>⟨g,rfl,h2,fun k x hx=>?_⟩⟩;have hc:∀ j u,j<5->(rsc size x)[j]?=some u->V.cell? ⟨g,k*5+j,none⟩=some u:=by intro j u hj hu;have:=h.cells (g:=g) rfl (k*5+j) u (by rw[rscs_at size xs k j x hx hj];exact hu);rw[addr_add] at this;exact this
  exact ⟨hc 0 _ (by omega) rfl,hc 1 _ (by omega) rfl,hc 2 _ (by omega) rfl,hc 3 _ (by omega) rfl,hc 4 _ (by omega) rfl⟩
theorem own_put {V:World} {base g n cap j:Nat} {A B:List Sg} {y:Sg} (x:Sg) (h:V.ownsRow base 43 4 (.slice (some ⟨g,0,none⟩) n cap) n (sgcs (A++y::B))) (hA:A.length=j) :
  ((((V.setCell ⟨g,j*4,none⟩ (.int .i64 x.p)).setCell ⟨g,j*4+1,none⟩ (.int .i64 x.s)).setCell ⟨g,j*4+1+1,none⟩ (.int .i64 x.t)).setCell ⟨g,j*4+1+1+1,none⟩ (.string x.g)).ownsRow base 43 4 (.slice (some ⟨g,0,none⟩) n cap) n (sgcs (A++x::B)):=by
 have h4:=((((h.stored (j*4) (.int .i64 x.p)).1.stored (j*4+1) (.int .i64 x.s)).1.stored (j*4+1+1) (.int .i64 x.t)).1.stored (j*4+1+1+1) (.string x.g)).1
 have e:((((sgcs (A++y::B)).set (j*4) (.int .i64 x.p)).set (j*4+1) (.int .i64 x.s)).set (j*4+1+1) (.int .i64 x.t)).set (j*4+1+1+1) (.string x.g)=sgcs (A++x::B):=by
  have hl:(sgcs A).length=j*4:=by rw[sgcs_len,hA]
  rw[sgcs_append,sgcs_append];show (((((sgcs A++(sgc y++sgcs B)).set _ _).set _ _).set _ _).set _ _)=sgcs A++(sgc x++sgcs B);rw[List.set_append_right _ _ (by omega),List.set_append_right _ _ (by omega),List.set_append_right _ _ (by omega),List.set_append_right _ _ (by omega),hl];rw[show j*4-j*4=0 by omega,show j*4+1-j*4=1 by omega,show j*4+1+1-j*4=2 by omega,show j*4+1+1+1-j*4=3 by omega];rfl
 rw[e] at h4;exact h4
end EpA
namespace EqA
open TkM (Sg)
open Go.RowKit EpM TkW Go.Maps EpW
open EpA
def dob (X:Array Value) (size late now:Nat) (v:Value):Obj:=.cells ((((X.setIfInBounds 35 (.int .i64 (size:Int))).setIfInBounds 36 (.int .i64 (late:Int))).setIfInBounds 37 (.int .i64 (now:Int))).setIfInBounds 38 v) 67
structure RefIn (w:World) (rb:Nat) (X:Array Value) (v:Value) (F:Nat->Prop) (size late now:Nat) (all:List Sg):Prop where
 cells:w.heap[rb]?=some (dob X size late now v)
 xs:X.size=46
 own:w.ownsRow 0 221 5 v all.length (rscs size all)
 fd:F rb
 fr:∀ b,v.ownBlock=some b->F b
structure RefAt (w:World) (rb:Nat) (X:Array Value) (F:Nat->Prop) (size late now:Nat) (all:List Sg):Prop where
 out:∃ v,RefIn w rb X v F size late now all
section
variable {w : World} {rb : Nat} {X : Array Value} {v : Value} {F : Nat → Prop} {size late now : Nat} {all : List Sg}
theorem dob_c0 (hx:X.size=46) (h:w.heap[rb]?=some (dob X size late now v)):w.cell? ⟨rb,35,none⟩=some (.int .i64 (size:Int)):=by simp[World.cell?,h,dob,hx]
theorem dob_c1 (hx:X.size=46) (h:w.heap[rb]?=some (dob X size late now v)):w.cell? ⟨rb,36,none⟩=some (.int .i64 (late:Int)):=by simp[World.cell?,h,dob,hx]
theorem dob_c2 (hx:X.size=46) (h:w.heap[rb]?=some (dob X size late now v)):w.cell? ⟨rb,37,none⟩=some (.int .i64 (now:Int)):=by simp[World.cell?,h,dob,hx]
theorem dob_c3 (hx:X.size=46) (h:w.heap[rb]?=some (dob X size late now v)):w.cell? ⟨rb,38,none⟩=some v:=by simp[World.cell?,h,dob,hx]
theorem dob_fz (h:w.heap[rb]?=some (dob X size late now v)) (i:Nat):w.frozen? ⟨rb,i,none⟩=false:=by simp[World.frozen?,h,dob]
theorem cells_set {A:Array Value} {t:TypeId} (h:w.heap[rb]?=some (.cells A t)) (i:Nat) (u:Value):(w.setCell ⟨rb,i,none⟩ u).heap[rb]?=some (.cells (A.setIfInBounds i u) t):=by simp[World.setCell,Array.getElem?_modify,h]
theorem dob_set3 (_hx:X.size=46) (h:w.heap[rb]?=some (dob X size late now v)) (u:Value):(w.setCell ⟨rb,38,none⟩ u).heap[rb]?=some (dob X size late now u):=by unfold dob at h ⊢;rw[cells_set h,Array.setIfInBounds_setIfInBounds]
theorem dob_set2 (_hx:X.size=46) (h:w.heap[rb]?=some (dob X size late now v)) (m:Nat):(w.setCell ⟨rb,37,none⟩ (.int .i64 (m:Int))).heap[rb]?=some (dob X size late m v):=by unfold dob at h ⊢;rw[cells_set h,Array.setIfInBounds_comm _ _ (by decide),Array.setIfInBounds_setIfInBounds]
theorem RefIn.c0 (d:RefIn w rb X v F size late now all):w.cell? ⟨rb,35,none⟩=some (.int .i64 (size:Int)):=dob_c0 d.xs d.cells
theorem RefIn.c1 (d:RefIn w rb X v F size late now all):w.cell? ⟨rb,36,none⟩=some (.int .i64 (late:Int)):=dob_c1 d.xs d.cells
theorem RefIn.c2 (d:RefIn w rb X v F size late now all):w.cell? ⟨rb,37,none⟩=some (.int .i64 (now:Int)):=dob_c2 d.xs d.cells
theorem RefIn.c3 (d:RefIn w rb X v F size late now all):w.cell? ⟨rb,38,none⟩=some v:=dob_c3 d.xs d.cells
theorem RefIn.fz (d:RefIn w rb X v F size late now all) (i:Nat):w.frozen? ⟨rb,i,none⟩=false:=dob_fz d.cells i
theorem RefIn.lt (d:RefIn w rb X v F size late now all):rb<w.heap.size:=(Array.getElem?_eq_some_iff.1 d.cells).1
theorem RefIn.ne (d:RefIn w rb X v F size late now all) {b:Nat} (hb:v.ownBlock=some b):b≠rb:=by intro e;obtain ⟨cur,hc⟩:=own_tag d.own hb;rw[e,d.cells] at hc;simp[dob] at hc
theorem RefIn.move {w':World} (d:RefIn w rb X v F size late now all) (hk:∀ k,k<w.heap.size->F k->w'.heap[k]?=w.heap[k]?):RefIn w' rb X v F size late now all where
 cells:=by rw[hk rb d.lt d.fd];exact d.cells
 xs:=d.xs
 own:=own_keep d.own (fun b hb=>hk b (own_lt d.own hb) (d.fr b hb))
 fd:=d.fd
 fr:=d.fr
theorem RefIn.mono {G:Nat->Prop} (d:RefIn w rb X v F size late now all) (hG:∀ k,k<w.heap.size->F k->G k):RefIn w rb X v G size late now all:=⟨d.cells,d.xs,d.own,hG _ d.lt d.fd,fun b hb=>hG b (own_lt d.own hb) (d.fr b hb)⟩
theorem RefAt.move {w':World} (d:RefAt w rb X F size late now all) (hk:∀ k,k<w.heap.size->F k->w'.heap[k]?=w.heap[k]?):RefAt w' rb X F size late now all:=by obtain ⟨v,d⟩:=d.out;exact ⟨v,d.move hk⟩
theorem RefAt.mono {G:Nat->Prop} (d:RefAt w rb X F size late now all) (hG:∀ k,k<w.heap.size->F k->G k):RefAt w rb X G size late now all:=by obtain ⟨v,d⟩:=d.out;exact ⟨v,d.mono hG⟩
theorem RefAt.below {w':World} (d:RefAt w rb X F size late now all) (hb:Below w.heap.size w w'):RefAt w' rb X F size late now all:=d.move (fun k h1 _=>hb.block k h1)
theorem RefAt.lt (d:RefAt w rb X F size late now all):rb<w.heap.size:=by obtain ⟨v,d⟩:=d.out;exact d.lt
theorem RefIn.tick (d:RefIn w rb X v F size late now all) (m:Nat) {z:Int} (hz:z=(m:Int)):RefIn (w.setCell ⟨rb,37,none⟩ (.int .i64 z)) rb X v F size late m all where
 cells:=by subst hz;exact dob_set2 d.xs d.cells m
 xs:=d.xs
 own:=own_keep d.own (fun b hb=>Below.heap_setCell _ _ _ _ (d.ne hb))
 fd:=d.fd
 fr:=d.fr
end
section
variable {w : World} {rb : Nat} {X : Array Value} {F : Nat → Prop} {size late now : Nat} {all : List Sg}
theorem rclosed_is {c:Nat} (hc:c=closedN size late now) (d:RefAt w rb X F size late now all) (h0 : 0<size) (h1:size<=50) (h2:late<=50) (h3:now<=1000) :
  Calls prog 80 #[.pointer (some ⟨rb,35,none⟩)] w fun e w'=>e = .returned (.int .i64 (c:Int))/\∃ q,w'=w.drewN q:=by
 obtain ⟨v,d⟩:=d.out;have mixed:prog.follows .mixedOrders=true:=by kernel_rfl
 have c0:=d.c0;have c1:=d.c1;have c2:=d.c2;clear d;have hc9:c<=1000:=by rw[hc];exact Nat.le_trans closedN_le h3
 have HC:Hid (c=closedN size late now):=hc;clear hc;go_enter func80,ntmps80;go_wp2;go_loopw [3] (fun i V=>∃ k q:Nat,k<=c/\i = .int .i64 (k:Int)/\V=w.drewN q) (fun i _=>c-(intOf i).toNat)
 case atStart=>exact ⟨0,0,Nat.zero_le _,rfl,rfl⟩
 case round=>
  obtain ⟨k,q,hk,rfl,rfl⟩:=hrel;have hiff:k<c↔(k+1)*size+late<=now:=by rw[HC.out];exact closedN_lt h0
  obtain ⟨M,hM⟩:∃ M,M=(k+1)*size:=⟨_,rfl⟩;rw[<- hM] at hiff;have hM9:M<=50050:=by rw[hM];have:=Nat.mul_le_mul (show k+1<=1001 by omega) h1;omega
  have hMI:((k:Int)+1)*(size:Int)=(M:Int):=by rw[hM];simp
  clear hM;by_cases hlt:k<c
  case pos=>
   have h1:=hiff.1 hlt;have h2:(M:Int)+late<=now:=(by omega);clear hiff;go_wp2;go_quiet (fail);go_wp2;go_roundw
   case rel=>exact ⟨k+1,_,by omega,by go_num,rfl⟩
   case measure=>simp[intOf];omega
  case neg=>have h1:¬ M+late<=now:=fun h=>hlt (hiff.2 h);have h2:¬ (M:Int)+late<=now:=(by omega);have hkc:k=c:=(by omega);subst hkc;clear hiff hlt;go_wp2;go_quiet (fail);go_wp2;go_ret;exact ⟨rfl,_,World.drewN_drewN _ _ _⟩
theorem radd_bad (x:Sg) (d:RefAt w rb X F size late now all) (hx:okS now x=false) (ht:x.g.size<=maxLen) :
  Calls prog 88 #[.pointer (some ⟨rb,35,none⟩),.agg #[.int .i64 x.p,.int .i64 x.s,.int .i64 x.t,.string x.g]] w fun e w'=>e = .returned (.int .i64 1)/\Below w.heap.size w w':=by
 have mixed:prog.follows .mixedOrders=true:=by kernel_rfl
 obtain ⟨v,d⟩:=d.out;have c2:=d.c2;have hrb:=d.lt;have hbad:=sgBad hx;clear d hx;obtain ⟨xp,xs,xt,xg⟩:=x;simp only[SgBad] at hbad ht ⊢;have HB:Hid (∀ q,Below w.heap.size w ((w.alloc (.cells #[.int .i64 xp,.int .i64 xs,.int .i64 xt,.string xg] 43)).drewN q)):=fun q=>((Below.refl _ w).alloc (Nat.le_refl _) _).trans ((drewN_below _ q).mono (by simp));rcases hbad with h0 | ⟨h0,h1⟩ | ⟨h0,h1,h2⟩ | ⟨h0,h1,h2,h3⟩ | ⟨h0,h1,h2,h3,h4⟩ | ⟨h0,h1,h2,h3,h4,h5⟩ | ⟨h0,h1,h2,h3,h4,h5,h6⟩
 all_goals
  go_enter func88,ntmps88;go_wp2;go_quiet (fail);go_wp2;go_ret;exact ⟨rfl,HB.out _⟩
theorem radd_late (x:Sg) (d:RefAt w rb X F size late now all) (h0 : 0<size) (h1:size<=50) (h2:late<=50) (h3:now<=1000) (hx:okS now x=true) (hl:epo size x<closedN size late now) :
  Calls prog 88 #[.pointer (some ⟨rb,35,none⟩),.agg #[.int .i64 x.p,.int .i64 x.s,.int .i64 x.t,.string x.g]] w fun e w'=>e = .returned (.int .i64 6)/\Below w.heap.size w w':=by
 have mixed:prog.follows .mixedOrders=true:=by kernel_rfl
 have ok:=okS_iff.1 hx;obtain ⟨T,hT⟩:∃ T:Nat,x.t=(T:Int):=⟨x.t.toNat,by have:=ok.t0;omega⟩;have hT9:T<=1000:=by have:=ok.t1;omega
 obtain ⟨k,hk⟩:∃ k,k=epo size x:=⟨_,rfl⟩;obtain ⟨c,hc⟩:∃ c,c=closedN size late now:=⟨_,rfl⟩;have hkT:((T:Int)/(size:Int))=(k:Int):=by rw[hk];unfold epo;rw[hT];simp
 rw[<- hk,<- hc] at hl;have hc9:c<=1000:=by rw[hc];exact Nat.le_trans closedN_le h3
 have hlI:(k:Int)<c:=by omega
 have hk9:(k:Int)<=1000:=by omega
 have HC:Hid (c=closedN size late now):=hc;obtain ⟨g0,g1,g2,g3,g4,g5,g6⟩:=sgGood hx;have HD:Hid (RefAt w rb X F size late now all):=d;obtain ⟨v,d⟩:=d.out;have c0:=d.c0;have c2:=d.c2;have hrb:=d.lt;clear d hk hc hx ok;obtain ⟨xp,xs,xt,xg⟩:=x;simp only at hT g0 g1 g2 g3 g4 g5 g6 ⊢;subst hT;have g4':¬ (T:Int)<0:=by omega
 have g5':¬ now<T:=by simp at g5;omega
 have g5'':decide (now<T)=false:=by simpa using g5'
 have g6':((xg.size:Int) == 8)=true:=by simp at g6 ⊢;omega
 have hn:((size:Int) == 0)=false:=by simp;omega
 have HB:Hid (∀ q,Below w.heap.size w ((w.alloc (.cells #[.int .i64 xp,.int .i64 xs,.int .i64 (T:Int),.string xg] 43)).drewN q)):=fun q=>((Below.refl _ w).alloc (Nat.le_refl _) _).trans ((drewN_below _ q).mono (by simp));go_enter func88,ntmps88;go_wp2;go_quiet (fail);obtain ⟨W,hW⟩:∃ W,W=(w.alloc (.cells #[.int .i64 xp,.int .i64 xs,.int .i64 (T:Int),.string xg] 43)).drewN nq:=⟨_,rfl⟩;have hbW:Below w.heap.size w W:=by rw[hW];exact HB.out _
 have HBW:Hid (Below w.heap.size w W):=hbW;have b2:W.cell? ⟨w.heap.size,2,none⟩=some (.int .i64 (T:Int)):=by rw[hW];show (w.alloc _).cell? _ = _;simp
 have r0:W.cell? ⟨rb,35,none⟩=some (.int .i64 (size:Int)):=by rw[hbW.cell hrb];exact c0
 have HDW:Hid (RefAt W rb X F size late now all):=HD.out.below hbW;have HCL:Hid (∀ n,Calls prog 80 #[.pointer (some ⟨rb,35,none⟩)] (W.drewN n) fun e w'=>e = .returned (.int .i64 (c:Int))/\∃ m,w'=W.drewN m):=fun n=>(rclosed_is HC.out (HDW.out.below (drewN_below _ n)) h0 h1 h2 h3).mono (fun _ _ h=>⟨h.1,by obtain ⟨q,hq⟩:=h.2;exact ⟨n+q,by rw[hq,World.drewN_drewN]⟩⟩);clear hbW;show Exit.then _ _ _ _ ((w.alloc (.cells #[.int .i64 xp,.int .i64 xs,.int .i64 (T:Int),.string xg] 43)).drewN nq);rw[<- hW];clear hW c0 c2;go_wp2;go_big_quiet (with_reducible exact HCL.out _);go_wp2;go_ret;exact ⟨rfl,HBW.out.trans ((drewN_below _ _).mono HBW.out.size)⟩
end
end EqA
namespace FrmA
open Go.RowKit FrmM
theorem cell_regrown {w:World} {a:Addr} {v:Value} (h:w.cell? a=some v) (d:Nat) (os:Array Obj):(Go.Sort.grow (redrawn w d) os).cell? a=some v:=by
 have hlt:a.block<w.heap.size:=by
  rcases Nat.lt_or_ge a.block w.heap.size with h1 | h1
  ·exact h1
  ·simp[World.cell?,Array.getElem?_eq_none h1] at h
 rw[(below_regrown w d os).cell hlt];exact h
def AtPost (s:ByteArray) (w:World) (e:Ending) (w':World):Prop:=
 ∃ v,e = .returned (.tuple #[.agg #[.int .i64 (frontF s.data.toList).ty,v,.int .i64 (frontF s.data.toList).wm],.int .i64 (frontN s.data.toList:Int)])/\ReadsOwn w' w.heap.size v (frontF s.data.toList).rs/\Below w.heap.size w w'
theorem atPost_none {s:ByteArray} {w w':World} {e:Ending} (h:front s.data.toList=none) (he:e = .returned (.tuple #[.agg #[.int .i64 0,.slice none 0 0,.int .i64 0],.int .i64 0])) (hb:Below w.heap.size w w'):AtPost s w e w':=by unfold AtPost frontF frontN;rw[h];exact ⟨_,he,ReadsOwn.nil _ _,hb⟩
theorem atPost_some {s:ByteArray} {w w':World} {e:Ending} {f:Fr} {v:Value} {N:Int} (h:front s.data.toList=some f) (he:e = .returned (.tuple #[.agg #[.int .i64 f.ty,v,.int .i64 f.wm],.int .i64 N])) (hN:N=(enc f).length) (hr:ReadsOwn w' w.heap.size v f.rs) (hb:Below w.heap.size w w'):AtPost s w e w':=by unfold AtPost frontF frontN;rw[h];subst hN;exact ⟨_,he,hr,hb⟩
def NoFront (s:ByteArray):Prop:=
 (s.size:Int)<4
 \/ (∃ _h4 : 4<=s.size,((s[0].toNat:Int) != 165)=true)
 \/ (∃ _h4 : 4<=s.size,((s[0].toNat:Int) != 165)=false/\(44:Int)<s[1].toNat)
 \/ (∃ _h4 : 4<=s.size,((s[0].toNat:Int) != 165)=false/\decide ((44:Int)<s[1].toNat)=false/\(s.size:Int)<4+s[1].toNat)
theorem span_of {s:ByteArray} (h2 : 2<=s.size):span s.data.toList=if s.data.toList.length<2\/s[0]≠165\/44<s[1].toNat then 0 else 4+s[1].toNat:=by unfold span;rw[byte_at (by omega),byte_at (by omega)]
theorem fronts (s:ByteArray):(NoFront s/\front s.data.toList=none)\/∃ h4 : 4<=s.size,((s[0].toNat:Int) != 165)=false/\s[1].toNat<=44/\4+s[1].toNat<=s.size/\span s.data.toList=4+s[1].toNat:=by
 by_cases h4 : 4<=s.size
 case neg=>
  refine Or.inl ⟨Or.inl (by omega),?_⟩;unfold front;rw[if_pos];rw[len_list];by_cases h2 : 2<=s.size
  ·rw[span_of h2];split
   ·exact Or.inl rfl
   ·right;omega
  ·left;unfold span;rw[len_list,if_pos (Or.inl (by omega))]
 have hsp:=span_of (s:=s) (by omega);by_cases h0:s[0]=165
 case neg=>
  refine Or.inl ⟨Or.inr (Or.inl ⟨h4,?_⟩),?_⟩
  ·have:s[0].toNat≠165:=fun h=>h0 (UInt8.toNat_inj.1 h);simp;omega
  ·unfold front;rw[if_pos];left;rw[hsp,if_pos (Or.inr (Or.inl h0))]
 have h0I:((s[0].toNat:Int) != 165)=false:=by rw[h0];rfl
 by_cases h1 : 44<s[1].toNat
 case pos=>refine Or.inl ⟨Or.inr (Or.inr (Or.inl ⟨h4,h0I,by omega⟩)),?_⟩;unfold front;rw[if_pos];left;rw[hsp,if_pos (Or.inr (Or.inr h1))]
 have hsp2:span s.data.toList=4+s[1].toNat:=by
  rw[hsp,if_neg];rw[len_list];rintro (h | h | h)
  ·omega
  ·exact h h0
  ·omega
 by_cases h5 : 4+s[1].toNat<=s.size
 ·exact Or.inr ⟨h4,h0I,by omega,h5,hsp2⟩
 ·refine Or.inl ⟨Or.inr (Or.inr (Or.inr ⟨h4,h0I,by simp;omega,by omega⟩)),?_⟩;unfold front;rw[if_pos];right;rw[len_list,hsp2];omega
theorem fa_no (s:ByteArray) (w:World) (hs:s.size<=100000) (h:NoFront s) (hf:front s.data.toList=none) :
  Calls prog 85 #[.string s] w (AtPost s w):=by
 have HF:Hid (front s.data.toList=none):=hf;clear hf;rcases h with h | ⟨h4,h⟩ | ⟨h4,h0,h⟩ | ⟨h4,h0,h1,h⟩
 ·go_enter func85,ntmps85;go_wp2;refine bodyPost_ret (v:=.tuple #[.agg #[.int .i64 0,.slice none 0 0,.int .i64 0],.int .i64 0]) (by simp[results,results85,go_sem]) rfl ?_;exact atPost_none HF.out rfl ((Below.refl _ w).alloc (Nat.le_refl _) _)
 ·have a0:(0:Int)<s.size:=by omega
  have a4:decide ((s.size:Int)<4)=false:=by simp;omega
  go_enter func85,ntmps85;go_wp2;refine bodyPost_ret (v:=.tuple #[.agg #[.int .i64 0,.slice none 0 0,.int .i64 0],.int .i64 0]) (by simp[results,results85,go_sem]) rfl ?_;exact atPost_none HF.out rfl ((Below.refl _ w).alloc (Nat.le_refl _) _)
 ·have a0:(0:Int)<s.size:=by omega
  have a1:(1:Int)<s.size:=by omega
  have a4:decide ((s.size:Int)<4)=false:=by simp;omega
  go_enter func85,ntmps85;go_wp2;refine bodyPost_ret (v:=.tuple #[.agg #[.int .i64 0,.slice none 0 0,.int .i64 0],.int .i64 0]) (by simp[results,results85,go_sem]) rfl ?_;exact atPost_none HF.out rfl ((Below.refl _ w).alloc (Nat.le_refl _) _)
 ·have a0:(0:Int)<s.size:=by omega
  have a1:(1:Int)<s.size:=by omega
  have a4:decide ((s.size:Int)<4)=false:=by simp;omega
  have hx:=s[1].toNat_lt;go_enter func85,ntmps85;go_wp2;refine bodyPost_ret (v:=.tuple #[.agg #[.int .i64 0,.slice none 0 0,.int .i64 0],.int .i64 0]) (by simp[results,results85,go_sem]) rfl ?_;exact atPost_none HF.out rfl ((Below.refl _ w).alloc (Nat.le_refl _) _)
end FrmA
end Go.Proofs.YtmolafjalaeoaaaGreatDoor
