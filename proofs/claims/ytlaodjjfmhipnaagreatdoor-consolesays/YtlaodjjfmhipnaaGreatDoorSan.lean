/-
  Part of it.
-/
import Derived.Test.YtlaodjjfmhipnaaGreatDoorSab
import Derived.Test.YtlaodjjfmhipnaaGreatDoorSal
import Derived.Test.YtlaodjjfmhipnaaGreatDoorSaa
import Derived.Test.YtlaodjjfmhipnaaGreatDoorShelfE
import Derived.Shelf.SlSortCmp.NoneTotal
set_option maxRecDepth 100000
set_option maxHeartbeats 8000000
set_option linter.all false
namespace Go.Proofs.YtlaodjjfmhipnaaGreatDoor
open Go.Proofs.Tryz
open Value renaming int→I,string→Z,pointer→Y,slice→M,tuple→Ψ
open Ending renaming returned→N
open Obj renaming cells→Δ
open Go renaming World→Ω,Calls→Φ
open IntKind renaming i64→Q
open Option renaming some→O,none→J
open RowKit renaming Below→B,Hid→H
section
open Go Go.Sort
structure qG {α:Type} (c:α->α->Int):Prop where
 a:∀x y,c y x =-c x y
 b:∀x y z,c x y<=0->c y z<=0->c x z<=0
def nM{α:Type}(c d:α->α->Int)(x y:α):Int:=if c x y≠0 then c x y else d x y
theorem qG.f{α:Type}{c:α->α->Int}(h:qG c){x y z:α}(d:c x y<=0)(e:c y z<=0)(g:c x z=0):c x y=0/\c y z=0:=by have i:=h.a x z;have j:=h.a x y;have k:=h.a y z;have a:=h.b z x y om d;have b:=h.b y z x e om;constructor<;>omega
theorem qG.e{α:Type}{c d:α->α->Int}(h:qG c)(k:qG d):qG (nM c d) where
 a:=λx y=>by have l:=h.a x y;have m:=k.a x y;unfold nM;split<;>split<;>omega
 b:=λx y z i j=>by
  unfold nM at *;have a:c x y<=0:=by split at i<;>omega
  have b:c y z<=0:=by split at j<;>omega
  have e:=h.b x y z a b;by_cases g:c x z=0
  ·obtain⟨p,q⟩:=h.f a b g;simp[g,p,q]at *;exact k.b x y z i j
  simp[g];exact e
theorem qG.d{α β:Type}{c:β->β->Int}(h:qG c)(f:α->β):qG (λx y=>c (f x) (f y)):=⟨λ_ _=>h.a _ _,λ_ _ _=>h.b _ _ _⟩
theorem Aa:qG Lib.compareInt where
 a:=λx y=>by unfold Lib.compareInt;repeat' split;all_goals omega
 b:=λx y z c d=>by
  unfold Lib.compareInt at *;have a:¬x>y:=λh=>by have:¬x<y:=om;simp[this,h]at c
  have b:¬y>z:=λh=>by have:¬y<z:=om;simp[this,h]at d
  repeat' split
  all_goals omega
theorem w9:∀x y:List UInt8,Lib.compareBytes y x =-Lib.compareBytes x y
 |[],[]=>rfl
 |[],_::_=>rfl
 |_::_,[]=>rfl
 |a::x,b::y=>by
  unfold Lib.compareBytes;have h:=w9 x y;by_cases c:a<b
  ·have d:¬b<a:=UInt8.lt_asymm c;simp[c,d]
  by_cases d:b<a
  ·simp[c,d]
  simp[c,d,h]
theorem ui:∀{x y:List UInt8},Lib.compareBytes x y<=0->x<=y
 |[],_,_=>List.nil_le _
 |_::_,[],h=>by unfold Lib.compareBytes at h;omega
 |a::x,b::y,h=>by
  unfold Lib.compareBytes at h;rw[List.cons_le_cons_iff];by_cases c:a<b
  ·exact af c
  by_cases d:b<a
  ·simp[c,d]at h
  simp[c,d]at h;have:a=b:=UInt8.le_antisymm (UInt8.not_lt.1 d) (UInt8.not_lt.1 c);exact ah ⟨this,ui h⟩
theorem Eg:∀{x y:List UInt8},x<=y->Lib.compareBytes x y<=0
 |[],[],_=>by unfold Lib.compareBytes;omega
 |[],_::_,_=>by unfold Lib.compareBytes;omega
 |_::_,[],h=>by simp at h
 |a::x,b::y,h=>by
  unfold Lib.compareBytes;rw[List.cons_le_cons_iff]at h;rcases h with h|⟨rfl,h⟩
  ·simp[h]
  have c:¬a<a:=UInt8.lt_irrefl a;simp[c];exact Eg h
theorem yY:qG Lib.compareBytes where
 a:=w9
 b:=λ_ _ _ c d=>Eg (List.le_trans (ui c) (ui d))
theorem CT{x y:List UInt8}(h:Lib.compareBytes x y=0):x=y:=
 List.le_antisymm (ui om) (ui (by rw[w9];omega))
theorem xq{x y:Int}(h:Lib.compareInt x y=0):x=y:=by
 unfold Lib.compareInt at h;split at h
 ·omega
 split at h<;>omega
def oI:ai->ai->Int:=
 nM (λx y=>Lib.compareBytes x.a.1.toList y.a.1.toList) (nM (λx y=>Lib.compareInt x.d y.d) (nM (λx y=>Lib.compareInt x.c y.c) (λx y=>Lib.compareInt x.b y.b)))
theorem ul:qG oI:=
 qG.e (yY.d λx:ai=>x.a.1.toList) (qG.e (Aa.d λx:ai=>x.d) (qG.e (Aa.d λx:ai=>x.c) (Aa.d λx:ai=>x.b)))
def fg(x y:ai):Bool:=decide (oI x y<0)
theorem A3{x y:ai}:fg x y=false↔oI y x<=0:=by unfold fg;have:=ul.a x y;simp only[decide_eq_false_iff_not];omega
theorem sV:SWO fg where
 irrefl:=λx=>by rw[A3];have:=ul.a x x;omega
 trans:=λx y z c d=>by
  unfold fg at *;simp only[kO]at *;have a:=ul.b x y z om om;rcases Int.lt_or_eq_of_le a with h|h
  ·exact h
  have:=ul.f (x:=x) (y:=y) (z:=z) om om h;omega
 ntrans:=λx y z c d=>by rw[A3]at *;exact ul.b z y x d c
theorem Ac{α:Type}{c d:α->α->Int}{x y:α}(h:nM c d x y=0):c x y=0/\d x y=0:=by
 unfold nM at h;split at h
 ·omega
 constructor<;>omega
theorem PK{x y:ai}(h:oI x y=0):x=y:=by obtain⟨g,h⟩:=Ac h;obtain⟨i,h⟩:=Ac h;obtain⟨e,f⟩:=Ac h;cases x;cases y;have a:=CT g;have b:=xq i;have d:=xq e;have c:=xq f;simp only at a b d c;subst b d c;congr 1;exact ke (nU.1 a)
theorem Gt(x y:ai)(b:fg x y=false)(c:fg y x=false):x=y:=by rw[A3]at *;have:=ul.a x y;exact PK om
def iT(x y:ai):Bool:=!fg y x
def bE(l:List ai):List ai:=l.mergeSort iT
theorem vw(x y z:ai)(a:iT x y=true)(b:iT y z=true):iT x z=true:=by unfold iT at *;simp only[Bool.not_eq_true']at *;exact sV.ntrans _ _ _ b a
theorem Ab(x y:ai):(iT x y||iT y x)=true:=by
  unfold iT;cases h:fg x y with
 |false=>simp
 |true=>
   cases h2:fg y x with
  |false=>simp
  |true=>
    have:=sV.trans x y x h h2;rw[sV.irrefl]at this;cases this
theorem PL(x y:ai)(a:iT x y=true)(b:iT y x=true):x=y:=by unfold iT at *;simp only[Bool.not_eq_true']at *;exact Gt x y b a
theorem Dw{l m:List ai}(a:m.Perm l)(b:m.Pairwise λx y=>iT x y=true):m=bE l:=by refine List.Perm.eq_of_pairwise (le:=λx y=>iT x y=true) (λx y _ _=>PL x y) b ?_ (a.trans (tu l iT).symm);exact List.pairwise_mergeSort vw Ab l
theorem lZ(l:List ai):(bE l).length=l.length:=List.length_mergeSort l
theorem yZ{l:List ai}{x:ai}:x∈bE l↔x∈l:=List.mem_mergeSort
theorem xo(l:List ai)(x:ai)(k:Nat)(q:∀y∈(bE l).drop k,fg x y=true)(r:k=0\/∃y,(bE l)[k-1]?=O y/\fg x y=false):
  (bE l).take k++x::(bE l).drop k=bE (l++[x]):=by
 have h:(bE l).Pairwise λx y=>iT x y=true:=List.pairwise_mergeSort vw Ab l;refine Dw ?_ ?_
 ·refine(List.perm_middle (a:=x)).trans ?_;rw[rN];exact((tu l iT).cons x).trans (List.perm_append_singleton x l).symm
 rw[List.pairwise_append]
 have o:∀y∈(bE l).drop k,iT x y=true:=λy j=>by
  have a:=q y j;unfold iT;rw[Bool.not_eq_true'];cases d:fg y x with
 |false=>rfl
 |true=>
   have:=sV.trans x y x a d;rw[sV.irrefl]at this;cases this
 refine⟨h.sublist (List.take_sublist _ _),List.pairwise_cons.2 ⟨o,h.sublist (List.drop_sublist _ _)⟩,?_⟩;intro a n b d
 have f:iT a x=true:=by
  rcases r with rfl|⟨y,j,hl⟩
  ·simp at n
  have g:iT y x=true:=(by unfold iT;rw[hl];rfl);obtain⟨i,p,c⟩:=List.getElem_of_mem n;rw[fj]at p;rw[List.getElem_take]at c;obtain⟨m,e⟩:=gD.1 j;rcases gQ i (k-1) with hlt|hge
  ·have:=List.pairwise_iff_getElem.1 h i (k-1) om m hlt;rw[c,e]at this;exact vw _ _ _ this g
  have:i=k-1:=om;subst this;rw[<-c,e];exact g
 rcases jN.1 d with rfl|d
 ·exact f
 exact vw _ _ _ f (o b d)
def bD(size late now:Nat):Nat:=(now-late)/size
theorem CU{a b c k:Nat}(d:0<a):k<bD a b c↔(k+1)*a+b<=c:=by unfold bD;rw[<-Nat.succ_le_iff,Nat.le_div_iff_mul_le d];have:1*a<=(k+1)*a:=Nat.mul_le_mul_right _ om;show (k+1)*a<=c-b↔_;omega
theorem kU{c b a:Nat}:bD c b a<=a:=by unfold bD;exact aP (Nat.div_le_self _ _) (Nat.sub_le _ _)
theorem tB{b a c now':Nat}(h:c<=now'):bD b a c<=bD b a now':=by unfold bD;exact Nat.div_le_div_right om
def eY(now:Nat)(x:ai):Bool:=decide (0<=x.c)&&decide (x.c<=7)&&(decide (0<=x.b)&&decide (x.b<=255))&&(decide (0<=x.d)&&decide (x.d<=now))&&decide (x.a.size=8)
structure TE (now:Nat) (x:ai):Prop where
 d:0<=x.c
 e:x.c<=7
 f:0<=x.b
 h:x.b<=255
 b:0<=x.d
 c:x.d<=now
 a:x.a.size=8
theorem mf{h:Nat}{x:ai}:eY h x=true↔TE h x:=by
 unfold eY;simp only[jo,kO];constructor
 ·rintro⟨⟨⟨⟨a,b⟩,c,d⟩,e,f⟩,g⟩;exact⟨a,b,c,d,e,f,g⟩
 rintro⟨a,b,c,d,e,f,g⟩;exact⟨⟨⟨⟨a,b⟩,c,d⟩,e,f⟩,g⟩
def bR(size:Nat)(x:ai):Nat:=x.d.toNat/size
def ey(size late now:Nat)(x:ai):Nat:=if eY now x then (if bR size x<bD size late now then 6 else 0) else 1
def aR(size:Nat)(all:List ai)(k:Nat):List ai:=all.filter λx=>decide (bR size x=k)
theorem yD{a:Nat}(b:List ai)(x:ai):aR a (b++[x]) (bR a x)=aR a b (bR a x)++[x]:=by unfold aR;rw[List.filter_append];simp
theorem wu{a:Nat}(b:List ai)(x:ai){k:Nat}(h:k≠bR a x):aR a (b++[x]) k=aR a b k:=by unfold aR;rw[List.filter_append];have:¬bR a x=k:=λe=>h e.symm;simp[this]
theorem tM(a:Nat)(b:List ai)(k:Nat):(aR a b k).length<=b.length:=List.length_filter_le _ _
def di(size:Nat)(all:List ai)(a b:Nat):List (Nat×List ai):=(List.range' a (b-a)).map λk=>(k,bE (aR size all k))
theorem y7{c:Nat}(d:List ai){a b:Nat}(h:a<=b):di c d a (b+1)=di c d a b++[(b,bE (aR c d b))]:=by unfold di;rw[show b+1-a=(b-a)+1 by omega,List.range'_concat,iY,show a+1*(b-a)=b by omega];rfl
theorem zB{c:Nat}(d:List ai){a b:Nat}(h:b<=a):di c d a b=[]:=by unfold di;rw[show b-a=0 by omega];rfl
end
section
open Go.RowKit Go.Maps
theorem qo{V:Ω}{d:Nat}{v:Value}{xs:List ai}(h:V.ownsRow d 156 4 v xs.length (bL xs)):∃p a,v=M p xs.length a/\cZ V p xs:=by
 by_cases b:xs=[]
 ·subst b;rcases h.2 with ⟨rfl,h0⟩|⟨g,a,cur,hv,_⟩
  ·exact⟨J,0,rfl,cZ.c⟩
  exact⟨_,a,hv,cZ.c⟩
 obtain⟨g,a,rfl,n,i⟩:=h.form (jl.2 b);refine⟨_,a,rfl,⟨λ_=>⟨g,0,rfl,i,λk x l=>?_⟩⟩⟩;have e:∀j u,j<4->(jg x)[j]?=O u->V.cell? ⟨g,0+k*4+j,J⟩=O u:=by intro j u m f;have:=h.cells (g:=g) rfl (k*4+j) u (by rw[vz xs k j x l m];exact f);rw[dD]at this;rw[dj];exact this
 exact⟨e 0 _ om rfl,e 1 _ om rfl,e 2 _ om rfl,e 3 _ om rfl⟩
def mw(e:Nat×List ai)(pc:Option Addr×Nat):List Value:=[I Q (e.1:Int),M pc.1 e.2.length pc.2]
def lN:List (Nat×List ai)->List (Option Addr×Nat)->List Value
 |e::es,pc::ps=>mw e pc++lN es ps
 |_,_=>[]
theorem Dx:∀(es:List (Nat×List ai)) (ps:List (Option Addr×Nat)) (e:Nat×List ai) (pc:Option Addr×Nat),ps.length=es.length->lN (es++[e]) (ps++[pc])=lN es ps++mw e pc
 |[],[],e,pc,_=>by simp[lN]
 |x::es,y::ps,e,pc,h=>by show mw x y++lN (es++[e]) (ps++[pc])=mw x y++lN es ps++mw e pc;rw[Dx es ps e pc (by simpa using h),lY]
 |[],_::_,_,_,h=>by simp at h
 |_::_,[],_,_,h=>by simp at h
theorem xG:∀(es:List (Nat×List ai)) (ps:List (Option Addr×Nat)) (k j:Nat) (e:Nat×List ai) (pc:Option Addr×Nat),es[k]?=O e->ps[k]?=O pc->j<2->(lN es ps)[k*2+j]?=(mw e pc)[j]?
 |x::es,y::ps,0,j,f,pc,hf,hp,hj=>by simp at hf hp;subst hf hp;show (mw x y++lN es ps)[0*2+j]?=_;rw[gO (by show 0*2+j<2;omega)];congr 1;omega
 |x::es,y::ps,k+1,j,f,pc,hf,hp,hj=>by show (mw x y++lN es ps)[(k+1)*2+j]?=_;have a:(mw x y).length=2:=rfl;rw[jb (by rw[a];omega),a,show (k+1)*2+j-2=k*2+j by omega];exact xG es ps k j f pc (by simpa using hf) (by simpa using hp) hj
 |[],_,_,_,_,_,hf,_,_=>by simp at hf
 |_::_,[],_,_,_,_,_,hp,_=>by simp at hp
structure eN (V:Ω) (base:Nat) (G:Nat->Prop) (v:Value) (es:List (Nat×List ai)):Prop where
 a:∃ps:List (Option Addr×Nat),ps.length=es.length/\V.ownsRow base 124 2 v es.length (lN es ps)/\∀(k:Nat)(e:Nat×List ai)(pc:Option Addr×Nat),es[k]?=O e->ps[k]?=O pc->cZ V pc.1 e.2/\(e.2≠[]->∃b o,pc.1=O ⟨b,o,J⟩/\G b/\v.ownBlock≠O b)
theorem eN.f(V:Ω)(a:Nat)(G:Nat->Prop):eN V a G (M J 0 0) []:=⟨[],rfl,fH _ _ _ _,λk f b h=>by simp at h⟩
theorem eN.j{V V':Ω}{e:Nat}{G:Nat->Prop}{v:Value}{s:List (Nat×List ai)}(h:eN V e G v s)(u:V.1.size<=V'.1.size)(q:∀k,k<V.1.size->(e<=k\/G k)->V'.1[k]?=V.1[k]?):eN V' e G v s:=by
 obtain⟨z,y,n,C⟩:=h.a;refine⟨z,y,aS n (λk l=>q k (aU n l) (af (n.lt k l).1)),λk f t w A=>?_⟩;obtain⟨l,r⟩:=C k f t w A;refine⟨?_,r⟩;by_cases i:f.2=[]
 ·rw[i];exact cZ.c
 obtain⟨b,o,x,p,_⟩:=r i;refine l.d u (λD E g m=>q D m (ah ?_));rw[x]at g;simp at g;rw[<-g.1];exact p
theorem eN.i{V:Ω}{c:Nat}{G G':Nat->Prop}{v:Value}{g:List (Nat×List ai)}(h:eN V c G v g)(j:∀k,G k->G' k):eN V c G' v g:=by obtain⟨r,p,u,t⟩:=h.a;refine⟨r,p,u,λk f l m s=>?_⟩;obtain⟨w,x⟩:=t k f l m s;refine⟨w,λd=>?_⟩;obtain⟨b,o,n,e,q⟩:=x d;exact⟨b,o,n,j b e,q⟩
theorem eN.c{V V':Ω}{a:Nat}{G:Nat->Prop}{v:Value}{d:List (Nat×List ai)}(h:eN V a G v d)(b:B V.1.size V V'):eN V' a G v d:=h.j b.size (λk e _=>b.block k e)
theorem eN.d{V:Ω}{a:Nat}{G:Nat->Prop}{v:Value}{b:List (Nat×List ai)}(h:eN V a G v b)(o:Obj):eN (V.alloc o) a G v b:=h.c ((aj _ V).l nl o)
theorem eN.g{V w:Ω}{m g cap:Nat}{G:Nat->Prop}{v:Value}{i:List (Nat×List ai)}{f:Nat×List ai}{p:Option Addr}{c:Nat}{ps:List (Option Addr×Nat)}(z:ps.length=i.length)
  (S:∀(k:Nat)(e:Nat×List ai)(pc:Option Addr×Nat),i[k]?=O e->ps[k]?=O pc->cZ V pc.1 e.2/\(e.2≠[]->∃b o,pc.1=O ⟨b,o,J⟩/\G b/\v.ownBlock≠O b))
  (T:w.ownsRow m 124 2 (M (O ⟨g,0,J⟩) (i.length+1) cap) (i.length+1) (lN i ps++mw f (p,c)))(D:V.grownBy w v.ownBlock)(j:v.ownBlock=O g\/g=V.1.size)
  (L:cZ V p f.2)(P:f.2≠[]->∃b o,p=O ⟨b,o,J⟩/\G b/\v.ownBlock≠O b):eN w m G (M (O ⟨g,0,J⟩) (i.length+1) cap) (i++[f]):=by
 have u:∀(q:Option Addr)(s:List ai),cZ V q s->(s≠[]->∃b o,q=O ⟨b,o,J⟩/\G b/\v.ownBlock≠O b)->cZ w q s/\(s≠[]->∃b o,q=O ⟨b,o,J⟩/\G b/\(M (O ⟨g,0,J⟩) (i.length+1) cap).ownBlock≠O b):=by
  intro q s y A;by_cases n:s=[]
  ·subst n;exact⟨cZ.c,λh=>absurd rfl h⟩
  obtain⟨b,o,rfl,F,C⟩:=A n;obtain⟨R,K,E,t,_⟩:=y.a n;simp at E;obtain⟨rfl,rfl⟩:=E;refine⟨y.d D.size (λR K l t=>?_),λ_=>⟨b,o,rfl,F,?_⟩⟩
  ·simp at l;obtain⟨rfl,rfl⟩:=l;exact D.block b t (λe=>C e.symm)
  show O g≠O b;rcases j with j|j
  ·rw[<-j];exact C
  intro e;simp at e;omega
 refine⟨ps++[(p,c)],by simp[z],?_,?_⟩
 ·rw[bU,Dx i ps f (p,c) z];exact T
 intro k x pc r l;rcases gQ k i.length with hk|hk
 ·rw[gO hk]at r;rw[gO om]at l;obtain⟨y,A⟩:=S k x pc r l;exact u pc.1 x.2 y A
 rw[jb hk]at r;rw[jb om]at l
 obtain rfl:k=i.length:=by
  rcases gQ i.length k with h|h
  ·rw[iV (by simp;omega)]at r;cases r
  omega
 simp at r;rw[z]at l;simp at l;subst r l;exact u p f.2 L P
def rB:Value:=M J 0 0
structure iL (w:Ω) (db mb n:Nat) (D:DataW Value) (h:Nat->Value) (F:Nat->Prop) (size late now:Nat) (all:List ai) (lo:Nat):Prop where
 c:w.1[db]?=O (Δ #[I Q (size:Int),I Q (late:Int),I Q (now:Int),.map (O mb)] 218)
 f:w.ownsMap prog 3 cB mb n D
 m:n<=all.length
 j:F db
 e:F mb
 l:∀k,lo<=k->D.atKey (.int Q (k:Int)) (.held rB)=.held (h k)
 a:∀k,lo<=k->w.ownsRow 0 156 4 (h k) (aR size all k).length (bL (aR size all k))
 d:∀k b,lo<=k->(h k).ownBlock=O b->F b
 g:∀k k',lo<=k->lo<=k'->k≠k'->∀b,(h k).ownBlock=O b->(h k').ownBlock≠O b
structure cG (w:Ω) (db:Nat) (F:Nat->Prop) (size late now:Nat) (all:List ai) (lo:Nat):Prop where
 a:∃(mb n:Nat) (D:DataW Value) (h:Nat->Value),iL w db mb n D h F size late now all lo
section
variable {w:Ω}{db mb n:Nat}{D:DataW Value}{h:Nat->Value}{F:Nat->Prop}{size late now:Nat}{all:List ai}{lo:Nat}
theorem iL.r(d:iL w db mb n D h F size late now all lo):w.cell? ⟨db,0,J⟩=O (I Q (size:Int)):=by simp[World.cell?,d.c]
theorem iL.u(d:iL w db mb n D h F size late now all lo):w.cell? ⟨db,1,J⟩=O (I Q (late:Int)):=by simp[World.cell?,d.c]
theorem iL.p(d:iL w db mb n D h F size late now all lo):w.cell? ⟨db,2,J⟩=O (I Q (now:Int)):=by simp[World.cell?,d.c]
theorem iL.t(d:iL w db mb n D h F size late now all lo):w.cell? ⟨db,3,J⟩=O (.map (O mb)):=by simp[World.cell?,d.c]
theorem iL.x(d:iL w db mb n D h F size late now all lo)(i:Nat):w.frozen? ⟨db,i,J⟩=false:=by simp[World.frozen?,d.c]
theorem iL.o(d:iL w db mb n D h F size late now all lo):db<w.1.size:=(bP.1 d.c).1
theorem iL.s(d:iL w db mb n D h F size late now all lo):mb<w.1.size:=d.f.lt
theorem iL.q(d:iL w db mb n D h F size late now all lo):mb≠db:=by intro e;obtain⟨g,a,b,_⟩:=d.f;rw[e,d.c]at b;cases b
theorem iL.i(d:iL w db mb n D h F size late now all lo){k b:Nat}(m:lo<=k)(o:(h k).ownBlock=O b):b≠db/\b≠mb:=by
 obtain⟨l,g⟩:=lK (d.a k m) o;constructor
 ·intro e;rw[e,d.c]at g;simp at g
 intro e;obtain⟨q,j,p,_⟩:=d.f;rw[e,p]at g;cases g
theorem iL.z{w':Ω}(d:iL w db mb n D h F size late now all lo)(q:∀k,k<w.1.size->F k->w'.1[k]?=w.1[k]?):iL w' db mb n D h F size late now all lo where
 c:=by rw[q db d.o d.j];exact d.c
 f:=by obtain⟨u,i,p,r⟩:=d.f;exact⟨u,i,by rw[q mb d.s d.e];exact p,r⟩
 m:=d.m
 j:=d.j
 e:=d.e
 l:=d.l
 a:=λk t=>aS (d.a k t) (λb p=>q b (aU (d.a k t) p) (d.d k b t p))
 d:=d.d
 g:=d.g
theorem iL.y{G:Nat->Prop}(d:iL w db mb n D h F size late now all lo)(i:∀k,k<w.1.size->F k->G k):iL w db mb n D h G size late now all lo where
 c:=d.c
 f:=d.f
 m:=d.m
 j:=i _ d.o d.j
 e:=i _ d.s d.e
 l:=d.l
 a:=d.a
 d:=λk b p q=>i b (aU (d.a k p) q) (d.d k b p q)
 g:=d.g
theorem cG.b{w':Ω}(d:cG w db F size late now all lo)(c:∀k,k<w.1.size->F k->w'.1[k]?=w.1[k]?):cG w' db F size late now all lo:=by obtain⟨e,n,D,h,d⟩:=d.a;exact⟨e,n,D,h,d.z c⟩
theorem cG.d{G:Nat->Prop}(d:cG w db F size late now all lo)(b:∀k,k<w.1.size->F k->G k):cG w db G size late now all lo:=by obtain⟨c,n,D,h,d⟩:=d.a;exact⟨c,n,D,h,d.y b⟩
theorem cG.c{w':Ω}(d:cG w db F size late now all lo)(e:B w.1.size w w'):cG w' db F size late now all lo:=d.b (λk a _=>e.block k a)
theorem cG.e(d:cG w db F size late now all lo):db<w.1.size:=by obtain⟨b,n,D,h,d⟩:=d.a;exact d.o
theorem iL.γ(d:iL w db mb n D h F size late now all lo)(m:Nat){z:Int}(r:z=(m:Int)):iL (w.setCell ⟨db,2,J⟩ (I Q z)) db mb n D h F size late m all lo where
 c:=by subst r;simp[World.setCell,dU,d.c]
 f:=d.f.setCell d.q _
 m:=d.m
 j:=d.j
 e:=d.e
 l:=d.l
 a:=λk o=>aS (d.a k o) (λb p=>bN _ _ _ _ (d.i o p).1)
 d:=d.d
 g:=d.g
end
def sX(size:Nat)(x:ai):List Value:=[I Q x.c,I Q x.b,I Q x.d,Z x.a,I Q (bR size x:Int)]
def jW(size:Nat)(xs:List ai):List Value:=xs.flatMap (sX size)
theorem Dy(e:Nat)(xs:List ai)(x:ai):jW e (xs++[x])=jW e xs++[I Q x.c,I Q x.b,I Q x.d,Z x.a,I Q (bR e x:Int)]:=by simp[jW,sX]
theorem Fh(a:Nat):∀(xs:List ai)(k j:Nat)(x:ai),xs[k]?=O x->j<5->(jW a xs)[k*5+j]?=(sX a x)[j]?
 |y::xs,0,j,x,hx,hj=>by simp at hx;subst hx;show (sX a y++jW a xs)[0*5+j]?=_;rw[gO (by show 0*5+j<5;omega)];congr 1;omega
 |y::xs,k+1,j,x,hx,hj=>by show (sX a y++jW a xs)[(k+1)*5+j]?=_;have b:(sX a y).length=5:=rfl;rw[jb (by rw[b];omega),b,show (k+1)*5+j-5=k*5+j by omega];exact Fh a xs k j x (by simpa using hx) hj
 |[],_,_,_,hx,_=>by simp at hx
end
section
open Go.RowKit
def xI:bf:=⟨0,[],0⟩
def iK(S:List UInt8):bf:=match cO S with|some f=>f|none=>xI
def jR(S:List UInt8):Nat:=match cO S with|some f=>(aJ f).length|none=>0
theorem Ce(l:List UInt8):∀r∈jd l,r.c.size<=maxLen:=by
 intro r a;unfold jd at a;obtain⟨k,_,rfl⟩:=iH.1 a;unfold fK uF;have:((⟨(((l.drop (11*k)).drop 3).take 8).toArray⟩:ByteArray)).size<=8:=by show (((l.drop (11*k)).drop 3).take 8).toArray.size<=8;simp;omega
 unfold maxLen;simp only at *;omega
theorem Jj(l:List UInt8):∀r∈(kz l).a,r.c.size<=maxLen:=by
 intro r b;unfold kz at b;simp only at b;split at b
 ·exact Ce _ r b
 cases b
structure mo (w:Ω) (r:Nat):Prop where
 e:w.cell? ⟨r,0,J⟩=O (I Q 0)
 f:w.cell? ⟨r,1,J⟩=O (M J 0 0)
 g:w.cell? ⟨r,2,J⟩=O (I Q 0)
 b:w.frozen? ⟨r,0,J⟩=false
 c:w.frozen? ⟨r,1,J⟩=false
 d:w.frozen? ⟨r,2,J⟩=false
theorem mo.a{i r:Nat}{w w':Ω}(h:mo w r)(k:B i w w')(j:r<i):mo w' r:=
 ⟨dC k j h.e,dC k j h.f,dC k j h.g,nv k j h.b,nv k j h.c,nv k j h.d⟩
theorem Rj{w b:Ω}{t:TypeId}(c:B (w.alloc (Δ #[I Q 0,M J 0 0,I Q 0] t)).1.size (w.alloc (Δ #[I Q 0,M J 0 0,I Q 0] t)) b):mo b w.1.size:=
 mo.a (w:=w.alloc (Δ #[I Q 0,M J 0 0,I Q 0] t)) ⟨by go_simp,by go_simp,by go_simp,by go_simp,by go_simp,by go_simp⟩ c sm
theorem tz{a:Nat}{w w':Ω}{c:Nat}{e:TypeId}{b:Nat}{v:Value}{n:Nat}{xs:List Value}(h:w.ownsRow c e b v n xs)(i:B a w w')(k:w.1.size<=a):w'.ownsRow c e b v n xs:=by
 obtain⟨f,d⟩:=h;refine⟨f,?_⟩;rcases d with d|⟨g,cap,cur,hv,hg,hh,r⟩
 ·exact af d
 refine ah ⟨g,cap,cur,hv,hg,?_,r⟩
 have j:g<w.1.size:=by
  rcases gQ g w.1.size with h|h
  ·exact h
  rw[j8 h]at hh;cases hh
 rw[i.block g om];exact hh
theorem J7(s:ByteArray)(w:Ω)(hs:s.size<=100000):
  Φ prog 179 #[Z s] w λe w'=>∃v,e=N (Ψ #[.agg #[I Q (iK s.1.toList).b,v,I Q (iK s.1.toList).c],I Q (jR s.1.toList:Int)])/\eU w' w.1.size v (iK s.1.toList).a/\B w.1.size w w':=by
 obtain⟨F,hF⟩:∃F,F=iK s.1.toList:=⟨_,rfl⟩;obtain⟨g,hN⟩:∃g,g=jR s.1.toList:=⟨_,rfl⟩;obtain⟨n,hn⟩:∃n,n=da s.1.toList:=⟨_,rfl⟩;have hn48:n<=48:=by rw[hn];exact Ei _
 have HF:=hid hF;have X:=hid hN;have D:=hid hn;rw[<-hF,<-hN];clear hF hN hn;by_cases y:n=0\/s.size<n
 ·have R:cO s.1.toList=J:=by unfold cO;rw[ak];rw[dQ,<-D.o];exact y
  obtain rfl:F=xI:=by rw[HF.o];unfold iK;rw[R]
  obtain rfl:g=0:=by rw[X.o];unfold jR;rw[R]
  have HA:=hid y;by_cases h0:n=0
  ·subst h0;clear y;go_enter func179,ntmps179;go_wp2_with fail;refine(vj _ _ hs).m ?_;rintro e w1 ⟨rfl,rfl⟩;rw[<-D.o];go_wp2;refine bK (v:=Ψ #[.agg #[I Q 0,M J 0 0,I Q 0],I Q 0]) (by simp[results,results179,go_sem]) rfl ⟨_,rfl,eU.c _ _,?_⟩;exact(aj _ w).l nl _
  have hlt:s.size<n:=om;have h0I:((n:Int) == 0)=false:=(by simp;omega);have hltI:(s.size:Int)<n:=om;clear y h0;go_enter func179,ntmps179;go_wp2_with fail;refine(vj _ _ hs).m ?_;rintro e w1 ⟨rfl,rfl⟩;rw[<-D.o];go_wp2;refine bK (v:=Ψ #[.agg #[I Q 0,M J 0 0,I Q 0],I Q 0]) (by simp[results,results179,go_sem]) rfl ⟨_,rfl,eU.c _ _,?_⟩;exact(aj _ w).l nl _
 have h0:n≠0:=λh=>y (af h);have hge:=Nat.le_of_not_lt λh=>y (ah h);have h0I:((n:Int) == 0)=false:=by simp;omega
 have hgeI:¬(s.size:Int)<n:=om;have hgeI2:(n:Int)<=s.size:=om;have hgeD:decide ((s.size:Int)<n)=false:=by simp;omega
 have h4:4<=n:=by have:=D.o;unfold da at this;split at this<;>omega
 obtain⟨f,V⟩:∃f,f=s.extract 0 n:=⟨_,rfl⟩;have S:f.size=n:=by rw[V,pM];omega
 have T:f.1.toList=s.1.toList.take n:=by rw[V,kP];rfl
 have HBl:=hid T;have HBe:=hid V;have r:=hid S;have HFR:H (cO s.1.toList=if ch (kz f.1.toList)=0/\aJ (kz f.1.toList)=f.1.toList then O (kz f.1.toList) else J):=by show _=_;unfold cO;rw[ag,<-D.o,<-HBl.o];rw[dQ,<-D.o];exact y
 clear y V S T;go_enter func179,ntmps179;go_wp2_with fail;refine(vj _ _ hs).m ?_;rintro e w1 ⟨rfl,rfl⟩;rw[<-D.o];go_wp2_with fail;rw[<-HBe.o];refine(zb f _ (by rw[r.o];omega)).m ?_;rintro e w2 ⟨rfl,A⟩;have HZ2:=hid (Rj A);have HB2:=hid (((aj _ w).l nl _).t (A.m sm));have hs2:w.1.size<w2.1.size:=by have:=A.size;simp at this;omega
 go_wp2_with fail;refine(J5 f _ (by rw[r.o];omega) (by rw[r.o];omega)).m ?_;rintro e U ⟨v,rfl,x,u⟩;obtain⟨p,j,rfl,q⟩:=x.e (Jj _);have HZ3:=hid (HZ2.o.a u hs2);have HB3:=hid (HB2.o.t (u.m om));have hs3:w.1.size<U.1.size:=by have:=u.size;omega
 obtain⟨G,hG⟩:∃G,G=kz f.1.toList:=⟨_,rfl⟩;rw[<-hG]at x q⊢;have HG:=hid hG;have HRO:=hid x;have HRN:=hid q;clear hG x q u;have C:H (cO s.1.toList=if ch G=0/\aJ G=f.1.toList then O G else J):=by show _=_;rw[HG.o];exact HFR.o
 go_wp2_with fail;refine(CX G p j _ (HRN.o.e _)).m ?_;rintro e W ⟨rfl,k⟩;have d0:W.cell? ⟨U.1.size,0,J⟩=O (I Q G.b):=dC k sm (by go_simp);have d1:W.cell? ⟨U.1.size,1,J⟩=O (M p G.a.length j):=dC k sm (by go_simp);have d2:W.cell? ⟨U.1.size,2,J⟩=O (I Q G.c):=dC k sm (by go_simp);have hz4:=(HZ3.o.a ((aj _ U).l nl (Δ #[I Q G.b,M p G.a.length j,I Q G.c] 105)) hs3).a k (by simp;omega);obtain⟨z0,z1,z2,y0,y1,y2⟩:=hz4;have E:=hid ((HB3.o.l om _).t (k.m (by simp;omega)));have P:H (eU W w2.1.size (M p G.a.length j) G.a):=⟨tz (HRO.o.a.alloc (Δ #[I Q G.b,M p G.a.length j,I Q G.c] 105)) k nl⟩;by_cases K:ch G=0
 ·have he:k9 (ch G)=.nilIface:=(by rw[K];rfl);have hbv:mg G=aM (aJ G):=(by unfold mg;rw[ak K]);rw[he,hbv];by_cases L:aJ G=f.1.toList
  ·have z:((aM (aJ G)).toList == f.toList)=true:=(by rw[cY,cY,ny,L];simp);have hq2:((aM (aJ G)).toList != f.toList)=false:=(by rw[bne,z];rfl);have i:cO s.1.toList=O G:=(by rw[C.o,ak ⟨K,L⟩]);obtain rfl:F=G:=(by rw[HF.o];unfold iK;rw[i]);have hNn:g=n:=(by rw[X.o];unfold jR;rw[i];show (aJ F).length=n;rw[L,dQ,r.o]);subst hNn;clear L i K;go_wp2;refine bK (v:=Ψ #[.agg #[I Q F.b,M p F.a.length j,I Q F.c],I Q g]) (by simp[results,results179,go_sem,z0,z1,z2]) rfl ⟨_,rfl,?_,?_⟩
   ·exact(((P.o.b (by show w.1.size<_;omega) _).b (by show w.1.size<_;omega) _).b (by show w.1.size<_;omega) _).d om
   exact((E.o.c nl _).c nl _).c nl _
  have z:((aM (aJ G)).toList == f.toList)=false:=(by rw[cY,cY,ny];simpa using L);have hq2:((aM (aJ G)).toList != f.toList)=true:=(by rw[bne,z];rfl);have i:cO s.1.toList=J:=(by rw[C.o,ag (λh=>L h.2)]);obtain rfl:F=xI:=(by rw[HF.o];unfold iK;rw[i]);obtain rfl:g=0:=(by rw[X.o];unfold jR;rw[i]);go_wp2;refine bK (v:=Ψ #[.agg #[I Q 0,M J 0 0,I Q 0],I Q 0]) (by simp[results,results179,go_sem,z0,z1,z2]) rfl ⟨_,rfl,eU.c _ _,?_⟩;exact((E.o.c nl _).c nl _).c nl _
 rw[xc K];have i:cO s.1.toList=J:=(by rw[C.o,ag (λh=>K h.1)]);obtain rfl:F=xI:=(by rw[HF.o];unfold iK;rw[i]);obtain rfl:g=0:=(by rw[X.o];unfold jR;rw[i]);generalize mg G=bv at *;go_wp2;refine bK (v:=Ψ #[.agg #[I Q 0,M J 0 0,I Q 0],I Q 0]) (by simp[results,results179,go_sem,z0,z1,z2]) rfl ⟨_,rfl,eU.c _ _,?_⟩;exact((E.o.c nl _).c nl _).c nl _
end
section
open Go.RowKit
def kX(f:bf)(pc:Option Addr×Nat):List Value:=[I Q f.b,M pc.1 f.a.length pc.2,I Q f.c]
def iI:List bf->List (Option Addr×Nat)->List Value
 |f::fs,pc::ps=>kX f pc++iI fs ps
 |_,_=>[]
theorem BW:∀(fs:List bf) (ps:List (Option Addr×Nat)) (f:bf) (pc:Option Addr×Nat),ps.length=fs.length->iI (fs++[f]) (ps++[pc])=iI fs ps++kX f pc
 |[],[],f,pc,_=>by simp[iI]
 |x::fs,y::ps,f,pc,h=>by show kX x y++iI (fs++[f]) (ps++[pc])=kX x y++iI fs ps++kX f pc;rw[BW fs ps f pc (by simpa using h),lY]
 |[],_::_,_,_,h=>by simp at h
 |_::_,[],_,_,h=>by simp at h
theorem wF:∀(fs:List bf) (ps:List (Option Addr×Nat)) (k j:Nat) (f:bf) (pc:Option Addr×Nat),fs[k]?=O f->ps[k]?=O pc->j<3->(iI fs ps)[k*3+j]?=(kX f pc)[j]?
 |x::fs,y::ps,0,j,f,pc,hf,hp,hj=>by simp at hf hp;subst hf hp;show (kX x y++iI fs ps)[0*3+j]?=_;rw[gO (by show 0*3+j<3;omega)];congr 1;omega
 |x::fs,y::ps,k+1,j,f,pc,hf,hp,hj=>by show (kX x y++iI fs ps)[(k+1)*3+j]?=_;have a:(kX x y).length=3:=rfl;rw[jb (by rw[a];omega),a,show (k+1)*3+j-3=k*3+j by omega];exact wF fs ps k j f pc (by simpa using hf) (by simpa using hp) hj
 |[],_,_,_,_,_,hf,_,_=>by simp at hf
 |_::_,[],_,_,_,_,_,hp,_=>by simp at hp
structure gu (V:Ω) (base rb:Nat) (v:Value) (fs:List bf):Prop where
 c:∃ps:List (Option Addr×Nat),ps.length=fs.length/\V.ownsRow base 105 3 v fs.length (iI fs ps)/\∀(k:Nat)(f:bf)(pc:Option Addr×Nat),fs[k]?=O f->ps[k]?=O pc->de V pc.1 f.a/\(f.a≠[]->∃b o,pc.1=O ⟨b,o,J⟩/\rb<=b/\v.ownBlock≠O b)
theorem gu.g(V:Ω)(a rb:Nat):gu V a rb (M J 0 0) []:=⟨[],rfl,fH _ _ _ _,λk f b h=>by simp at h⟩
theorem de.f{V V':Ω}{p:Option Addr}{rs:List dr}(h:de V p rs)(l:V.1.size<=V'.1.size)(j:∀b o,p=O ⟨b,o,J⟩->b<V.1.size->V'.1[b]?=V.1[b]?):de V' p rs where
 d:=h.d
 c:=λg=>by obtain⟨b,o,rfl,e,i⟩:=h.c g;exact⟨b,o,rfl,bg e l,λk r m=>(i k r m).a (j b o rfl e)⟩
theorem de.g{V V':Ω}{p:Option Addr}(h:de V p []):de V' p []:=⟨h.d,λa=>absurd rfl a⟩
theorem Lv{V V':Ω}{a:Nat}{e:TypeId}{b:Nat}{v:Value}{n:Nat}{xs:List Value}(h:V.ownsRow a e b v n xs)(f:∀k,k<V.1.size->a<=k->V'.1[k]?=V.1[k]?):V'.ownsRow a e b v n xs:=by
 obtain⟨i,c⟩:=h;refine⟨i,?_⟩;rcases c with c|⟨g,cap,cur,hv,hg,hh,r⟩
 ·exact af c
 refine ah ⟨g,cap,cur,hv,hg,?_,r⟩
 have d:g<V.1.size:=by
  rcases gQ g V.1.size with h|h
  ·exact h
  rw[j8 h]at hh;cases hh
 rw[f g d hg];exact hh
theorem gu.d{V V':Ω}{e rb:Nat}{v:Value}{p:List bf}(h:gu V e rb v p)(s:V.1.size<=V'.1.size)(q:∀k,k<V.1.size->(e<=k\/rb<=k)->V'.1[k]?=V.1[k]?):gu V' e rb v p:=by
 obtain⟨x,w,A,z⟩:=h.c;refine⟨x,w,Lv A (λk l m=>q k l (af m)),λk f r t y=>?_⟩;obtain⟨l,m⟩:=z k f r t y;refine⟨?_,m⟩;by_cases j:f.a=[]
 ·rw[j]at l⊢;exact l.g
 obtain⟨b,o,u,D,_⟩:=m j;refine l.f s (λC E i n=>q C n (ah ?_));rw[u]at i;simp at i;omega
theorem gu.e{V V':Ω}{a rb:Nat}{v:Value}{b:List bf}(h:gu V a rb v b)(c:B V.1.size V V'):gu V' a rb v b:=h.d c.size (λk f _=>c.block k f)
theorem gu.a{V:Ω}{b rb:Nat}{v:Value}{c:List bf}(h:gu V b rb v c)(o:Obj):gu (V.alloc o) b rb v c:=h.e ((aj _ V).l nl o)
theorem gu.h{V w:Ω}{l rb g cap:Nat}{v:Value}{d:List bf}{f:bf}{p:Option Addr}{c:Nat}{ps:List (Option Addr×Nat)}(y:ps.length=d.length)
  (P:∀(k:Nat)(f:bf)(pc:Option Addr×Nat),d[k]?=O f->ps[k]?=O pc->de V pc.1 f.a/\(f.a≠[]->∃b o,pc.1=O ⟨b,o,J⟩/\rb<=b/\v.ownBlock≠O b))
  (R:w.ownsRow l 105 3 (M (O ⟨g,0,J⟩) (d.length+1) cap) (d.length+1) (iI d ps++kX f (p,c)))(D:V.grownBy w v.ownBlock)(i:v.ownBlock=O g\/g=V.1.size)
  (G:de V p f.a)(K:f.a≠[]->∃b o,p=O ⟨b,o,J⟩/\rb<=b/\v.ownBlock≠O b):gu w l rb (M (O ⟨g,0,J⟩) (d.length+1) cap) (d++[f]):=by
 have u:∀(q:Option Addr)(r:List dr),de V q r->(r≠[]->∃b o,q=O ⟨b,o,J⟩/\rb<=b/\v.ownBlock≠O b)->de w q r/\(r≠[]->∃b o,q=O ⟨b,o,J⟩/\rb<=b/\(M (O ⟨g,0,J⟩) (d.length+1) cap).ownBlock≠O b):=by
  intro q r t z;by_cases m:r=[]
  ·subst m;exact⟨t.g,λh=>absurd rfl h⟩
  obtain⟨b,o,rfl,E,A⟩:=z m;obtain⟨L,F,C,s,_⟩:=t.c m;simp at C;obtain⟨rfl,rfl⟩:=C;refine⟨t.f D.size (λL F j s=>?_),λ_=>⟨b,o,rfl,E,?_⟩⟩
  ·simp at j;obtain⟨rfl,rfl⟩:=j;exact D.block b s (λe=>A e.symm)
  show O g≠O b;rcases i with i|i
  ·rw[<-i];exact A
  intro e;simp at e;omega
 refine⟨ps++[(p,c)],by simp[y],?_,?_⟩
 ·rw[bU,BW d ps f (p,c) y];exact R
 intro k x pc n j;rcases gQ k d.length with hk|hk
 ·rw[gO hk]at n;rw[gO om]at j;obtain⟨t,z⟩:=P k x pc n j;exact u pc.1 x.a t z
 rw[jb hk]at n;rw[jb om]at j
 obtain rfl:k=d.length:=by
  rcases gQ d.length k with h|h
  ·rw[iV (by simp;omega)]at n;cases n
  omega
 simp at n;rw[y]at j;simp at j;subst n j;exact u p f.a G K
structure qH where
 a:Nat
 d:Array Value
 e:TypeId
 c:a+1<d.size
def qH.b(L:qH)(rest:ByteArray)(lost:Nat):Obj:=Δ ((L.d.setIfInBounds L.a (Z rest)).setIfInBounds (L.a+1) (I Q (lost:Int))) L.e
structure dK (w:Ω) (lb:Nat) (L:qH) (rest:ByteArray) (lost:Nat):Prop where
 a:w.1[lb]?=O (L.b rest lost)
section
variable {w w':Ω}{lb:Nat}{L:qH}{rest:ByteArray}{lost:Nat}
theorem dK.b(h:dK w lb L rest lost):w.cell? ⟨lb,L.a,J⟩=O (Z rest):=by have:=L.c;have e:L.a<L.d.size:=om;simp[World.cell?,h.a,qH.b,e]
theorem dK.g(h:dK w lb L rest lost):w.cell? ⟨lb,L.a+1,J⟩=O (I Q (lost:Int)):=by have:=L.c;simp[World.cell?,h.a,qH.b,this]
theorem dK.c(h:dK w lb L rest lost)(i:Nat):w.frozen? ⟨lb,i,J⟩=false:=by simp[World.frozen?,h.a,qH.b]
theorem dK.e(h:dK w lb L rest lost):lb<w.1.size:=by obtain⟨b,_⟩:=bP.1 h.a;exact b
theorem dK.d(h:dK w lb L rest lost)(e:w'.1[lb]?=w.1[lb]?):dK w' lb L rest lost:=⟨e.trans h.a⟩
theorem dK.f(h:dK w lb L rest lost)(r:ByteArray):dK (w.setCell ⟨lb,L.a,J⟩ (Z r)) lb L r lost:=by
 refine⟨?_⟩;simp only[World.setCell,dU,h.a,qH.b,iP,kS,ie,iq,fL];congr 2;apply pQ;intro i;simp only[oP,Array.size_setIfInBounds];have:=L.c;by_cases d:L.a=i
 ·subst d;simp
 simp[d]
theorem dK.h(h:dK w lb L rest lost)(m:Nat){z:Int}(d:z=(m:Int)):dK (w.setCell ⟨lb,L.a+1,J⟩ (I Q z)) lb L rest m:=by
 refine⟨?_⟩;subst d;simp only[World.setCell,dU,h.a,qH.b,iP,kS,ie,iq,fL];congr 2;apply pQ;intro i;simp only[oP,Array.size_setIfInBounds];by_cases c:L.a+1=i
 ·subst c;simp
 simp[c]
end
structure f7 (B lb:Nat) (w w':Ω):Prop where
 d:w'.os=w.os
 g:w'.tape=w.tape
 e:w'.output=w.output
 a:w.1.size<=w'.1.size
 c:∀k,k<B->k≠lb->w'.1[k]?=w.1[k]?
theorem f7.h(a lb:Nat)(w:Ω):f7 a lb w w:=⟨rfl,rfl,rfl,aa _,λ_ _ _=>rfl⟩
theorem f7.b{f lb:Nat}{a b c:Ω}(h:f7 f lb a b)(k:f7 f lb b c):f7 f lb a c:=
 ⟨k.d.trans h.d,k.g.trans h.g,k.e.trans h.e,aP h.a k.a,λi j l=>(k.c i j l).trans (h.c i j l)⟩
theorem oZ{c:Nat}{a b:Ω}(h:B c a b)(lb:Nat):f7 c lb a b:=⟨h.os,h.tape,h.output,h.size,λk d _=>h.block k d⟩
theorem f7.f{c lb:Nat}{a b:Ω}(h:f7 c lb a b)(i:Nat)(v:Value):f7 c lb a (b.setCell ⟨lb,i,J⟩ v):=
 h.b ⟨rfl,rfl,rfl,by simp[World.setCell],λk _ d=>bN _ _ _ _ d⟩
end
section
open Go.RowKit Go.Maps
def ly(k:Nat)(r:Nat):Prop:=k<=r/\r<8
theorem PY{a:Nat}{c:Nat->Nat}{s:Nat->Int}{k:Nat}{b:Int}(h:jB a c s (ly (k+1)) b)(g:c k<a):jB a c s (ly k) b:=by
 rcases h with ⟨rfl,h⟩|⟨q,rfl,⟨hq1,hq2⟩,hn,h⟩
 ·refine af ⟨rfl,λp d=>?_⟩;by_cases e:p=k
  ·rw[e];exact g
  exact h p ⟨by have:=d.1;omega,d.2⟩
 refine ah ⟨q,rfl,⟨om,hq2⟩,hn,λp d f=>?_⟩;by_cases e:p=k
 ·rw[e]at f;omega
 exact h p ⟨by have:=d.1;omega,d.2⟩ f
theorem NA{a:Nat}{c:Nat->Nat}{s:Nat->Int}{k:Nat}(f:k<8)(h:jB a c s (ly (k+1)) (-1))(d:a<=c k):jB a c s (ly k) (k:Int):=by
 rcases h with ⟨_,h⟩|⟨q,hq,_⟩
 ·refine ah ⟨k,rfl,⟨aa _,f⟩,d,λp b g=>?_⟩;by_cases e:p=k
  ·rw[e];omega
  have:=h p ⟨by have:=b.1;omega,b.2⟩;omega
 omega
theorem Fm{a:Nat}{c:Nat->Nat}{s:Nat->Int}{k q:Nat}(g:k<8)(h:jB a c s (ly (k+1)) (q:Int))(f:a<=c k)(i:c q<c k\/(c k=c q/\s q<=s k)):jB a c s (ly k) (k:Int):=by
 rcases h with ⟨hq,_⟩|⟨q',hq,⟨hq1,hq2⟩,hn,h⟩
 ·omega
 obtain rfl:q=q':=om;refine ah ⟨k,rfl,⟨aa _,g⟩,f,λp b d=>?_⟩;by_cases e:p=k
 ·rw[e];omega
 have:=h p ⟨by have:=b.1;omega,b.2⟩ d;have:=b.1;omega
theorem Fk{a:Nat}{c:Nat->Nat}{s:Nat->Int}{k q:Nat}(h:jB a c s (ly (k+1)) (q:Int))(f:¬(c q<c k\/(c k=c q/\s q<=s k))):jB a c s (ly k) (q:Int):=by
 rcases h with ⟨hq,_⟩|⟨q',hq,⟨hq1,hq2⟩,hn,h⟩
 ·omega
 obtain rfl:q=q':=om;refine ah ⟨q,rfl,⟨om,hq2⟩,hn,λp d b=>?_⟩;by_cases e:p=k
 ·rw[e];omega
 exact h p ⟨by have:=d.1;omega,d.2⟩ b
theorem vE(c:Nat->Nat)(s:Nat->Int)(k:Nat):∀q:Nat,(k:Int)=(q:Int)->(c k:Int)=(c q:Int)/\s k=s q:=λq a=>by obtain rfl:k=q:=om;exact⟨rfl,rfl⟩
theorem Rp{d:Nat}{c:Nat->Nat}{s:Nat->Int}{b:Int}(h:jB d c s (ly 0) b):b=gc d c s 8:=by
 refine jB.a h ?_;rcases uv d c s 8 with ⟨hb,h⟩|⟨q,hb,hq,hn,h⟩
 ·exact af ⟨hb,λp e=>h p e.2⟩
 exact ah ⟨q,hb,⟨aX _,hq⟩,hn,λp e=>h p e.2⟩
section
variable {w:Ω}{rb W need:Nat}{p:Option Addr}{cap:Nat}{E:List (List ai)}
theorem Ro(g:ByteArray)(e:Nat)(d:mB w rb W need p cap E)(he:e<E.length)(hW:W<=8):
  Φ prog 87 #[Y (O ⟨rb,0,J⟩),Z g,I Q (e:Int)] w λx L=>x=N (I Q (aI g (al E) W need e))/\B w.1.size w L:=by
 have K:H (∀(V:Ω)(k:Nat),B w.1.size w V->Φ prog 117 #[Y (O ⟨rb,0,J⟩),Z g,I Q (k:Int),I Q (e:Int)] V λx L=>x=N (Ψ #[I Q (kL g (al E) W e k:Int),I Q (lx g (al E) W e k)])/\B V.1.size V L):=λV k r=>Ka g k e (d.e r) he hW;have HD:H (mB w rb W need p cap E):=d;unfold aI;generalize kL g (al E) W e=c at *;generalize lx g (al E) W e=s at *;clear d;go_enter func87,ntmps87;go_wp2;go_loopw [7,8,9,10,11,12] (λb m t i _ _ V=>∃(k:Nat) (l A C:Int),k<=8/\i=I Q ((k:Int)-1)/\b=I Q l/\m=I Q A/\t=I Q C/\jB need c s (ly k) l/\(∀q:Nat,l=(q:Int)->A=(c q:Int)/\C=s q)/\B w.1.size w V) (λ_ _ _ i _ _ _=>(intOf i+1).toNat)
 case atStart=>exact⟨8,-1,0,0,aa _,rfl,rfl,rfl,rfl,af ⟨rfl,λp X=>by have h1:=X.1;have D:=X.2;omega⟩,λq hq=>by omega,aj _ _⟩
 obtain⟨k,l,A,C,hk,rfl,rfl,rfl,rfl,n,v,y⟩:=hrel;have F:H (B w.1.size w wr):=y;clear y;cases k with
 |zero=>
  have HE:H (l=gc need c s 8):=Rp n;clear n v;go_wp2;go_ret;exact⟨by rw[<-HE.o];rfl,F.o⟩
 |succ k=>
  have U:(((k+1:Nat):Int)-1)=(k:Int):=om;rw[U];have u:k<8:=om;have a:H (jB need c s (ly (k+1)) l):=n;have h:H (∀q:Nat,l=(q:Int)->A=(c q:Int)/\C=s q):=v;clear n v U;go_wp2_with fail;refine(K.o _ k F.o).m ?_;rintro x w1 ⟨rfl,z⟩;have j:H (B w.1.size w w1):=F.o.t (z.m F.o.size);have k1:=(HD.o.e j.o).g;clear z;by_cases h1:c k<need
  ·have G:(c k:Int)<need:=om;go_wp2;go_roundw
   case rel=>exact⟨k,l,A,C,om,by go_num,rfl,rfl,rfl,PY a.o h1,h.o,j.o⟩
   simp[intOf]
  have G:¬(c k:Int)<need:=om;by_cases D:l<0
  ·have T:decide (l<0)=true:=by simpa using D
   have f:H (jB need c s (ly k) (k:Int)):=by
    have r:=a.o
    have:l=-1:=by
     rcases r with ⟨r,_⟩|⟨q,r,_⟩
     ·exact r
     omega
    rw[this]at r;exact NA u r om
   clear a h D;go_wp2;go_roundw
   case rel=>exact⟨k,k,c k,s k,om,by go_num,rfl,rfl,rfl,f.o,vE c s k,j.o⟩
   simp[intOf]
  have T:decide (l<0)=false:=(by simpa using D);obtain⟨q,rfl⟩:∃q:Nat,l=(q:Int):=⟨l.toNat,om⟩;obtain⟨rfl,rfl⟩:=h.o q rfl;clear D;by_cases h3:c q<c k
  ·have R:decide ((c q:Int)<c k)=true:=(by simp;omega);have f:H (jB need c s (ly k) (k:Int)):=Fm u a.o om (af h3);clear a h;go_wp2;go_roundw
   case rel=>exact⟨k,k,c k,s k,om,by go_num,rfl,rfl,rfl,f.o,vE c s k,j.o⟩
   simp[intOf]
  have R:decide ((c q:Int)<c k)=false:=(by simp;omega);by_cases P:c k=c q
  ·have S:((c k:Int) == c q)=true:=(by simp;omega);by_cases h5:s q<=s k
   ·have f:H (jB need c s (ly k) (k:Int)):=Fm u a.o om (ah ⟨P,h5⟩);have H4:H (c k=c q):=P;clear a h P;go_wp2;go_roundw
    case rel=>exact⟨k,k,c k,s k,om,by go_num,rfl,(by first|rfl|rw[H4.out]),rfl,f.o,vE c s k,j.o⟩
    simp[intOf]
   have f:H (jB need c s (ly k) (q:Int)):=Fk a.o om;clear a h;go_wp2;go_roundw
   case rel=>exact⟨k,q,c q,s q,om,by go_num,rfl,rfl,rfl,f.o,vE c s q,j.o⟩
   simp[intOf]
  have S:((c k:Int) == c q)=false:=(by simp;omega);have f:H (jB need c s (ly k) (q:Int)):=Fk a.o om;clear a h;go_wp2;go_roundw
  case rel=>exact⟨k,q,c q,s q,om,by go_num,rfl,rfl,rfl,f.o,vE c s q,j.o⟩
  simp[intOf]
end
end
section
open Go.RowKit Go.Maps
def my(g:ByteArray)(e:Nat):List UInt8:=g.1.toList++([64]++aK e)
theorem Hf:∀{d d' a a':List UInt8},(∀x,x∈d->x≠64)->(∀x,x∈d'->x≠64)->d++64::a=d'++64::a'->d=d'/\a=a'
 |[],[],_,_,_,_,h=>⟨rfl,by simpa using h⟩
 |[],y::d',_,_,_,h2,h=>by simp at h;exact absurd h.1.symm (h2 y sm)
 |x::d,[],_,_,h1,_,h=>by simp at h;exact absurd h.1 (h1 x sm)
 |x::d,y::d',_,_,h1,h2,h=>by simp only[ni,List.cons.injEq]at h;obtain⟨c,e⟩:=Hf (λz b=>h1 z (by simp[b])) (λz b=>h2 z (by simp[b])) h.2;exact⟨by rw[h.1,c],e⟩
theorem Gu(n:Nat):∀x,x∈(aK n).reverse->x≠64:=λx a e=>by have:=og n x (List.mem_reverse.1 a);rw[e]at this;exact absurd this.2 dc
theorem NC{g c:ByteArray}{e a:Nat}(h:my g e=my c a):g=c/\e=a:=by unfold my at h;have b:=congrArg List.reverse h;simp only[List.reverse_append,List.reverse_cons,j9,lY,ni]at b;obtain⟨f,i⟩:=Hf (Gu e) (Gu a) b;have d:bF e=bF a:=List.reverse_inj.1 f;refine⟨pW (List.reverse_inj.1 i),?_⟩;rw[<-xD e,d,xD]
def gM(l:List ai)(pc:Option Addr×Nat):Value:=M pc.1 l.length pc.2
structure jX (w:Ω) (rb fb m:Nat) (v:Value) (Df:DataW Value) (ps:List (Option Addr×Nat)) (F:Nat->Prop) (W need q:Nat) (E:List (List ai)):Prop where
 a:w.1[rb]?=O (Δ #[I Q (W:Int),I Q (need:Int),v,.map (O fb)] 42)
 f:ps.length=E.length
 c:w.ownsRow 0 122 1 v E.length (List.zipWith gM E ps)
 p:∀(k:Nat)(l:List ai)(pc:Option Addr×Nat),E[k]?=O l->ps[k]?=O pc->cZ w pc.1 l/\(l≠[]->∃b o,pc.1=O ⟨b,o,J⟩/\F b/\v.ownBlock≠O b/\b≠rb)
 d:w.ownsMap prog 9 (plainElem prog 3) fb m Df
 y:m<=q
 x:∀(g:ByteArray)(e:Nat),e<E.length->(∀zd:DataW Value,Df.atKey (.string (my g e)) zd=zd)\/(∀zd:DataW Value,Df.atKey (.string (my g e)) zd=.lit (.int Q (aI g (al E) W need e)))
 h:F rb
 r:F fb
 j:∀b,v.ownBlock=O b->F b
 i:∀b,F b->b<w.1.size
 n:sP E=true
 t:∀l,l∈E->l.all dm=true
structure aO (w:Ω) (rb:Nat) (F:Nat->Prop) (W need q:Nat) (E:List (List ai)):Prop where
 b:∃(fb m:Nat) (v:Value) (Df:DataW Value) (ps:List (Option Addr×Nat)),jX w rb fb m v Df ps F W need q E
section
variable {w:Ω}{rb fb m:Nat}{v:Value}{Df:DataW Value}{ps:List (Option Addr×Nat)}{F:Nat->Prop}{W need q:Nat}{E:List (List ai)}
theorem jX.γ(d:jX w rb fb m v Df ps F W need q E):w.cell? ⟨rb,3,J⟩=O (.map (O fb)):=by simp[World.cell?,d.a]
theorem jX.z(d:jX w rb fb m v Df ps F W need q E):w.cell? ⟨rb,2,J⟩=O v:=by simp[World.cell?,d.a]
theorem jX.u(d:jX w rb fb m v Df ps F W need q E):rb<w.1.size:=d.i _ d.h
theorem jX.ζ(d:jX w rb fb m v Df ps F W need q E):fb≠rb:=by intro e;obtain⟨f,b,c,_⟩:=d.d;rw[e,d.a]at c;cases c
theorem jX.s(d:jX w rb fb m v Df ps F W need q E){b:Nat}(i:v.ownBlock=O b):b≠rb/\b≠fb:=by
 obtain⟨h,f⟩:=lK d.c i;constructor
 ·intro e;rw[e,d.a]at f;simp at f
 intro e;obtain⟨k,g,j,_⟩:=d.d;rw[e,j]at f;cases f
theorem ND{w:Ω}{b o:Nat}{x:ai}(h:mV w b o x):∃c t f,w.1[b]?=O (Δ c t f):=by
 have a:=h.d;unfold World.cell? at a;simp only at a;split at a
 ·rename_i c t f hb;exact⟨c,t,f,hb⟩
 cases a
theorem jX.η(d:jX w rb fb m v Df ps F W need q E){k:Nat}{l:List ai}{pc:Option Addr×Nat}(u:E[k]?=O l)(y:ps[k]?=O pc)(j:l≠[]){b o:Nat}(s:pc.1=O ⟨b,o,J⟩):b≠fb:=by
 intro e;obtain⟨C,A,g,_,r⟩:=(d.p k l pc u y).1.a j;rw[s]at g;simp at g
 obtain⟨x,h,rfl⟩:∃x h,l=x::h:=by
  cases l with
 |nil=>exact absurd rfl j
 |cons x h=>exact⟨x,h,rfl⟩
 obtain⟨c,t,f,n⟩:=ND (r 0 x rfl);obtain⟨D,i,z,_⟩:=d.d;rw[<-g.1,e,z]at n;cases n
theorem jX.δ{w':Ω}(d:jX w rb fb m v Df ps F W need q E)(C:w.1.size<=w'.1.size)(s:∀k,k<w.1.size->F k->w'.1[k]?=w.1[k]?):jX w' rb fb m v Df ps F W need q E where
 a:=by rw[s rb d.u d.h];exact d.a
 f:=d.f
 c:=aS d.c (λb g=>s b (aU d.c g) (d.j b g))
 p:=λk l K P R=>by
  obtain⟨T,A⟩:=d.p k l K P R;refine⟨?_,A⟩;by_cases D:l=[]
  ·rw[D];exact cZ.c
  obtain⟨b,o,L,G,_⟩:=A D;refine T.d C (λS U e z=>s S z ?_);rw[L]at e;simp at e;rw[<-e.1];exact G
 d:=ki d.d (s fb (d.i _ d.r) d.r)
 y:=d.y
 x:=d.x
 h:=d.h
 r:=d.r
 j:=d.j
 i:=λb g=>bg (d.i b g) C
 n:=d.n
 t:=d.t
theorem aO.d{w':Ω}(d:aO w rb F W need q E)(g:w.1.size<=w'.1.size)(f:∀k,k<w.1.size->F k->w'.1[k]?=w.1[k]?):aO w' rb F W need q E:=by obtain⟨e,m,v,c,a,d⟩:=d.b;exact⟨e,m,v,c,a,d.δ g f⟩
theorem aO.c{w':Ω}(d:aO w rb F W need q E)(a:B w.1.size w w'):aO w' rb F W need q E:=d.d a.size (λk b _=>a.block k b)
theorem aO.f(d:aO w rb F W need q E){b:Nat}(h:F b):b<w.1.size:=by obtain⟨e,m,v,c,a,d⟩:=d.b;exact d.i b h
theorem aO.e(d:aO w rb F W need q E):sP E=true:=by obtain⟨f,m,v,c,a,d⟩:=d.b;exact d.n
theorem FX:∀(E:List (List ai)) (ps:List (Option Addr×Nat)) (k:Nat) (l:List ai),ps.length=E.length->E[k]?=O l->∃a,ps[k]?=O a/\(List.zipWith gM E ps)[k]?=O (gM l a)
 |x::E,y::ps,0,l,_,h=>by simp at h;subst h;exact⟨y,rfl,rfl⟩
 |x::E,y::ps,k+1,l,hl,h=>by obtain⟨a,b,c⟩:=FX E ps k l (by simpa using hl) (by simpa using h);exact⟨a,by simpa using b,by simpa using c⟩
 |[],_,_,_,_,h=>by simp at h
 |_::_,[],_,_,h,_=>by simp at h
theorem jX.ε(d:jX w rb fb m v Df ps F W need q E):∃p b,v=M p E.length b/\mB w rb W need p b E:=by
 have e:∃p b,v=M p E.length b/\vZ w p E:=by
  by_cases j:E=[]
  ·subst j;rcases d.c.2 with ⟨rfl,h0⟩|⟨g,b,cur,e,_⟩
   ·exact⟨J,0,rfl,⟨λh=>absurd rfl h⟩⟩
   exact⟨_,b,e,⟨λh=>absurd rfl h⟩⟩
  obtain⟨g,b,e,A,z⟩:=d.c.form (jl.2 j);refine⟨_,b,e,⟨λ_=>⟨g,0,rfl,z,λk l s=>?_⟩⟩⟩;obtain⟨r,y,x⟩:=FX E ps k l d.f s;refine⟨r.1,r.2,?_,(d.p k l r s y).1⟩;have i:=d.c;rw[e]at i;have:=i.cells (g:=g) rfl k _ x;rw[dD]at this;rw[dj];exact this
 obtain⟨p,b,e,o⟩:=e;refine⟨p,b,e,?_,?_,?_,o,d.u,d.n,d.t⟩
 ·simp[World.cell?,d.a]
 ·simp[World.cell?,d.a]
 simp[World.cell?,d.a,e]
theorem aO.g(d:aO w rb F W need q E):∃p a,mB w rb W need p a E:=by obtain⟨f,m,v,e,c,d⟩:=d.b;obtain⟨p,a,_,h⟩:=d.ε;exact⟨p,a,h⟩
theorem IM(W a:Nat)(w:Ω):
  Φ prog 27 #[I Q (W:Int),I Q (a:Int)] w λe c=>e=N (Y (O ⟨w.1.size+1,0,J⟩))/\c.1.size=w.1.size+2/\aO c (w.1.size+1) (λb=>w.1.size<=b/\b<w.1.size+2) W a 0 []/\B w.1.size w c:=by
 have d:=@run_makeMap prog;have f:H (aO ((w.alloc (.map #[] 0)).alloc (Δ #[I Q (W:Int),I Q (a:Int),M J 0 0,.map (O w.1.size)] 42)) (w.1.size+1) (λb=>w.1.size<=b/\b<w.1.size+2) W a 0 []):=by refine⟨w.1.size,0,M J 0 0,.map [],[],?_⟩;refine⟨?_,rfl,fH _ _ _ _,λk l i h=>by simp at h,(oU w prog 9 _).alloc _,aa _,λg e h=>by simp at h,om,om,λb h=>by simp[Value.ownBlock]at h,λb h=>by simp;omega,rfl,λl h=>by simp at h⟩;have:=bn (w.alloc (.map #[] 0)) (Δ #[I Q (W:Int),I Q (a:Int),M J 0 0,.map (O w.1.size)] 42);simpa using this
 go_enter func27,ntmps27;go_wp2;go_ret;exact⟨rfl,by simp,f.o,ba.l sm _⟩
end
end
section
open Go.RowKit Go.Maps
theorem Gv(w:Ω):(zeroValue 3).run prog w=.ok (I Q 0) w:=kr
section
variable {w:Ω}{rb:Nat}{F:Nat->Prop}{W need q:Nat}{E:List (List ai)}
theorem NE{V:Ω}{d m:Nat}{e:DataW Value}(h:V.ownsMap prog 9 (plainElem prog 3) d m e){k:ByteArray}(i:k.size<=maxLen){x:Int}(f:∀zd:DataW Value,e.atKey (.string k.1.toList) zd=.lit (.int Q x)):
  (Instr.lookup 40 (.map (O d)) (Z k) true).run prog V=.ok (Ψ #[I Q x,.bool true]) V:=by
 obtain⟨u,j,a,g⟩:=h.look_ok ju underlying40 (Gv V) (plainElem_int underlying3 dc) (lM i);rw[f]at g;obtain⟨c,rfl,b,_⟩:=plainElem_int_inv underlying3 g;simp at b;rw[has_true_of_atKey f]at a;rw[b.1];exact a
theorem LB{V:Ω}{d m:Nat}{e:DataW Value}(h:V.ownsMap prog 9 (plainElem prog 3) d m e){k:ByteArray}(i:k.size<=maxLen)(f:∀zd:DataW Value,e.atKey (.string k.1.toList) zd=zd):
  (Instr.lookup 40 (.map (O d)) (Z k) true).run prog V=.ok (Ψ #[I Q 0,.bool false]) V:=by
 obtain⟨u,j,a,g⟩:=h.look_ok ju underlying40 (Gv V) (plainElem_int underlying3 dc) (lM i);rw[f]at g;obtain⟨c,rfl,b,_⟩:=plainElem_int_inv underlying3 g;simp at b;rw[has_false_of_atKey f]at a;rw[b.1];exact a
theorem jX.θ{K:Ω}{A m:Nat}{v:Value}{G:DataW Value}{ps:List (Option Addr×Nat)}{g:ByteArray}{e:Nat}(d:jX w rb A m v G ps F W need q E)(he:e<E.length)(o:w.grownBy K (O A))
  (ho:K.ownsMap prog 9 (plainElem prog 3) A (m+1) (G.put (.string (my g e)) (.lit (.int Q (aI g (al E) W need e))))):jX K rb A (m+1) v (G.put (.string (my g e)) (.lit (.int Q (aI g (al E) W need e)))) ps F W need (q+1) E where
 a:=by rw[o.block rb d.u (λe=>d.ζ (by simpa using e.symm))];exact d.a
 f:=d.f
 c:=aS d.c (λb z=>o.block b (aU d.c z) (λe=>(d.s z).2 (by simpa using e)))
 p:=λk l pc T U=>by
  obtain⟨r1,r2⟩:=d.p k l pc T U;refine⟨?_,r2⟩;by_cases R:l=[]
  ·rw[R];exact cZ.c
  exact r1.d o.size (λb' o' C D=>o.block b' D (λe=>d.η T U R C (by simpa using e)))
 d:=ho
 y:=by have:=d.y;omega
 x:=λV X L=>by
  have h25:=(kY.1 d.n).1;by_cases P:my V X=my g e
  ·obtain⟨rfl,rfl⟩:=NC P;exact ah (λS=>by rw[rL d.d.isMap (uw _)])
  rcases d.x V X L with h|h
  ·exact af (λS=>by rw[qV (λe=>P (by simpa using e)),h])
  exact ah (λS=>by rw[qV (λe=>P (by simpa using e)),h])
 h:=d.h
 r:=d.r
 j:=d.j
 i:=λb z=>bg (d.i b z) o.size
 n:=d.n
 t:=d.t
theorem aO.a{e:Nat}(d:aO w rb F W need q E)(h:q<=e):aO w rb F W need e E:=by obtain⟨l,m,v,k,g,d⟩:=d.b;exact⟨l,m,v,k,g,d.a,d.f,d.c,d.p,d.d,aP d.y h,d.x,d.h,d.r,d.j,d.i,d.n,d.t⟩
theorem FY(g:ByteArray)(ep:Nat->List ai)(W a e:Nat):(Lit.int Q (aI g ep W a e)).wf=true:=by have h:=@zj a (kL g ep W e) (lx g ep W e) 8;exact pO (n:=aI g ep W a e) (by unfold aI;omega)
theorem vF(g:ByteArray)(e:Nat)(d:aO w rb F W need q E)(V:e<E.length)(hW:W<=8)(hg:g.size<=100000)(hq:q<=10000000000000):
  Φ prog 61 #[Y (O ⟨rb,0,J⟩),Z g,I Q (e:Int)] w λx w'=>x=N (I Q (aI g (al E) W need e))/\aO w' rb F W need (q+1) E/\ax F w w':=by
 have HD:=hid d;have h25:=(kY.1 d.e).1;have R:=hid V;have X:e<1000:=om;have hd4:=iu (d:=3) om om
 have i:H ((g++⟨#[64]⟩++⟨(aK e).toArray⟩:ByteArray).1.toList=my g e/\(g++⟨#[64]⟩++⟨(aK e).toArray⟩:ByteArray).size<=100010):=by
  have h1:(g++⟨#[64]⟩++⟨(aK e).toArray⟩:ByteArray).1.toList=my g e:=by simp[my]
  refine⟨h1,?_⟩;have h2:(g++⟨#[64]⟩++⟨(aK e).toArray⟩:ByteArray).size=(my g e).length:=by rw[<-h1,Array.length_toList];rfl
  rw[h2];unfold my;have h3:g.1.toList.length=g.size:=by simp
  simp[h3];omega
 obtain⟨r,T⟩:∃r,r=aI g (al E) W need e:=⟨_,rfl⟩;have D:=hid T;rw[<-T];clear d V T;go_enter func61,ntmps61;go_wp2_with fail;refine(jM e _ om).m ?_;rintro x w1 ⟨rfl,L⟩;have j:=hid L;obtain⟨fb,m,v,Df,ps,A⟩:=(HD.o.c j.o).b;have c3:=A.γ;have t:=hid A;have h:=A.x g e R.o;rw[<-i.o.1]at h;have n:(g++⟨#[64]⟩++⟨(aK e).toArray⟩:ByteArray).size<=maxLen:=by have:=i.o.2;unfold maxLen;omega
 rcases h with hm|hm
 ·have s:=LB A.d n hm;go_wp2_with fail;obtain⟨p,cap,_,hv⟩:=t.o.ε;have u:=Ro g e hv R.o hW;rw[<-D.o]at u;refine u.m ?_;rintro x w2 ⟨rfl,l⟩;have f:=t.o.δ l.size (λk G _=>l.block k G);have U:=hid ((bH j.o F).a (bH l F));have c3':=f.γ;obtain⟨w3,K,z,C⟩:=f.d.update (val:=I Q r) (d:=.lit (.int Q r)) (ps:=[]) ju underlying40 (by have:=f.y;unfold maxLen;omega) (lM (g:=g++⟨#[64]⟩++⟨(aK e).toArray⟩) (by have:=i.o.2;unfold maxLen;omega)) (plainElem_int underlying3 (by rw[D.o];exact FY _ _ _ _ _));rw[i.o.1,D.o]at z;have P:H (aO w3 rb F W need (q+1) E/\ax F w w3):=⟨⟨fb,m+1,v,_,ps,f.θ R.o C z⟩,U.o.a (eV C (λk G=>by simp at G;rw[<-G];exact f.r))⟩;go_wp2;go_ret;exact⟨rfl,P.o⟩
 rw[<-D.o]at hm;have s:=NE A.d n hm;have S:H (aO w1 rb F W need (q+1) E/\ax F w w1):=⟨(HD.o.c j.o).a om,bH j.o F⟩;go_wp2;go_ret;exact⟨rfl,S.o⟩
theorem C1(g:ByteArray)(e:Int)(d:aO w rb F W need q E)(S:W<=8)(V:g.size<=100000)(U:q<=10000000000000):
  Φ prog 40 #[Y (O ⟨rb,0,J⟩),Z g,I Q e] w λx h=>x=N (Ψ #[I Q (bV E.length (aG g E) e (aI g (al E) W need e.toNat)).1,I Q ((bV E.length (aG g E) e (aI g (al E) W need e.toNat)).2:Int)])/\aO h rb F W need (q+1) E/\ax F w h:=by
 have K:=hid d;obtain⟨p,L,C⟩:=d.g;have i:=(kY.1 d.e).1;have v:=hid (Nz g C);have D:H (∀k:Nat,k<E.length->Φ prog 61 #[Y (O ⟨rb,0,J⟩),Z g,I Q (k:Int)] w λx h=>x=N (I Q (aI g (al E) W need k))/\aO h rb F W need (q+1) E/\ax F w h):=λk T=>vF g k K.o T S V U;have P:=C.a;have f:H (aO w rb F W need (q+1) E/\ax F w w):=⟨K.o.a om,ax.j _ _⟩;obtain⟨b,A⟩:∃b,b=E.length:=⟨_,rfl⟩;rw[<-A]at P v D i⊢;clear A;unfold bV;by_cases z:e<0
 ·have s:decide (e<0)=true:=by simpa using z
  rw[ag om];go_enter func40,ntmps40;go_wp2;go_ret2;exact⟨rfl,f.o⟩
 have s:decide (e<0)=false:=by simpa using z
 by_cases G:(b:Int)<=e
 ·have u:decide ((b:Int)<=e)=true:=(by simpa using G);rw[ag om];go_enter func40,ntmps40;go_wp2;go_ret2;exact⟨rfl,f.o⟩
 have u:decide ((b:Int)<=e)=false:=(by simpa using G);obtain⟨k,rfl⟩:∃k:Nat,e=(k:Int):=⟨e.toNat,om⟩;rw[ak om,ir];have n:=hid (D.o k om);generalize aI g (al E) W need k=r at *;generalize aG g E=t at *;cases t with
 |false=>
  rw[ag sm];go_enter func40,ntmps40;go_wp2_with fail;refine v.o.m ?_;rintro x R ⟨rfl,c⟩;subst c;go_wp2;go_ret2;exact⟨rfl,f.o⟩
 |true=>
  rw[ak rfl];go_enter func40,ntmps40;go_wp2_with fail;refine v.o.m ?_;rintro x R ⟨rfl,c⟩;subst c;go_wp2_with fail;refine n.o.m ?_;rintro x X ⟨rfl,y⟩;have l:=hid y;go_wp2;go_ret2;exact⟨rfl,l.o⟩
end
end
section
open Go.RowKit Go.Maps
theorem Eo{n:Nat}{t:Bool}{p e v:Int}(h:iR n t p e v=true):(0<=e/\e<(n:Int))/\t=true/\0<=p/\v=p:=by
 unfold iR bV at h;simp only[jo,kO]at h;obtain⟨⟨a,d⟩,b⟩:=h;by_cases c:0<=e/\e<(n:Int)
 ·simp only[ak c]at a b;cases t with
 |false=>simp at a
 |true=>simp at b;exact⟨c,rfl,d,b⟩
 simp only[ag c]at a;cases a
theorem Rq{n:Nat}{p e v:Int}(b:0<=e/\e<(n:Int))(a:0<=p):iR n true p e v=decide (v=p):=by unfold iR bV;simp[b,a]
theorem PZ{n:Nat}{t:Bool}{p e v:Int}(a:¬(0<=e/\e<(n:Int))):iR n t p e v=false:=by unfold iR bV;rw[ag a];simp
section
variable {w:Ω}{rb:Nat}{F:Nat->Prop}{W need q:Nat}{E:List (List ai)}
theorem Kc(g:ByteArray)(p e:Int)(d:aO w rb F W need q E)(T:W<=8)(U:g.size<=100000)(hq:q<=9000000000000):
  Φ prog 86 #[Y (O ⟨rb,0,J⟩),Z g,I Q p,I Q e] w λx l=>x=N (.bool (mp E.length (aG g E) p e (λe=>aI g (al E) W need e.toNat)))/\aO l rb F W need (q+2) E/\ax F w l:=by
 have h25:=(kY.1 d.e).1;have j:=hid (C1 g e d T U om);have S:H (∀(V:Ω)(k:Nat),aO V rb F W need (q+1) E->k<E.length->Φ prog 61 #[Y (O ⟨rb,0,J⟩),Z g,I Q (k:Int)] V λx l=>x=N (I Q (aI g (al E) W need k))/\aO l rb F W need (q+2) E/\ax F V l):=λV k K v=>vF g k K v T U om;obtain⟨f,A⟩:∃f:Int->Int,f=λe=>aI g (al E) W need e.toNat:=⟨_,rfl⟩;have X:H (∀k:Nat,aI g (al E) W need k=f (k:Int)):=λk=>by rw[A];simp
 have e1:aI g (al E) W need e.toNat=f e:=by rw[A]
 rw[e1]at j;rw[<-A];cases hA:iR E.length (aG g E) p e (f e) with
 |true=>
  obtain⟨z,D,hp,R⟩:=Eo hA;have u:bV E.length (aG g E) e (f e)=(p,0):=by unfold bV;rw[ak z,D,ak rfl,R]
  rw[u]at j;simp only at j;have hpd:decide (p<0)=false:=by simp;omega
  have hpe:(p != p)=false:=by simp
  by_cases P:e=0
  ·subst P;have r:mp E.length (aG g E) p 0 f=true:=(by unfold mp;rw[hA,PZ om];rfl);rw[r];go_enter func86,ntmps86;go_wp2_with fail;refine j.o.m ?_;rintro x c ⟨rfl,b,i⟩;have n:H (aO c rb F W need (q+2) E/\ax F w c):=⟨b.a om,i⟩;go_wp2;go_ret;exact⟨rfl,n.o⟩
  obtain⟨k,v⟩:∃k:Nat,e-1=(k:Int):=⟨(e-1).toNat,om⟩;have s:k<E.length:=om;have h0d:(e == 0)=false:=(by simpa using P);have r:mp E.length (aG g E) p e f=!(f (k:Int) == p):=(by unfold mp;rw[hA,D,v,Rq om hp,Bool.true_and];congr 1);have G:H (∀(V:Ω),aO V rb F W need (q+1) E->Φ prog 61 #[Y (O ⟨rb,0,J⟩),Z g,I Q (e-1)] V λx l=>x=N (I Q (f (k:Int)))/\aO l rb F W need (q+2) E/\ax F V l):=λV K=>(by rw[v,<-X.o k];exact S.o V k K s);rw[r];have heI:e<=1000:=om;have heJ:=z.1;clear r hA u D R S X v s z;generalize f (k:Int)=fk at *;have hbn:(fk != p)=!(fk == p):=rfl;go_enter func86,ntmps86;go_wp2_with fail;refine j.o.m ?_;rintro x c ⟨rfl,b,i⟩;have t:H (aO c rb F W need (q+1) E/\ax F w c):=⟨b,i⟩;go_wp2_with fail;refine(G.o _ t.o.1).m ?_;rintro x L ⟨rfl,b,i⟩;have C:H (aO L rb F W need (q+2) E/\ax F w L):=⟨b,t.o.2.a i⟩;go_wp2;go_ret;exact⟨rfl,C.o⟩
 |false=>
  have r:mp E.length (aG g E) p e f=false:=by unfold mp;rw[hA];rfl
  rw[r]
  have y:0<(bV E.length (aG g E) e (f e)).2\/((bV E.length (aG g E) e (f e)).2=0/\p<0)\/((bV E.length (aG g E) e (f e)).2=0/\0<=p/\(bV E.length (aG g E) e (f e)).1≠p):=by
   unfold iR at hA;by_cases b:(bV E.length (aG g E) e (f e)).2=0
   ·by_cases i:0<=p
    ·have h3:¬(bV E.length (aG g E) e (f e)).1=p:=λh=>(by simp[b,i,h]at hA);exact ah (ah ⟨b,i,h3⟩)
    exact ah (af ⟨b,om⟩)
   exact af om
  generalize bV E.length (aG g E) e (f e)=a at *;obtain⟨x,k⟩:=a;simp only at j y;rcases y with h|⟨rfl,h⟩|⟨rfl,h,h'⟩
  ·have hI:(0:Int)<(k:Int):=om;go_enter func86,ntmps86;go_wp2_with fail;refine j.o.m ?_;rintro x c ⟨rfl,b,i⟩;have n:H (aO c rb F W need (q+2) E/\ax F w c):=⟨b.a om,i⟩;go_wp2;go_ret;exact⟨rfl,n.o⟩
  ·have hd:decide (p<0)=true:=(by simpa using h);go_enter func86,ntmps86;go_wp2_with fail;refine j.o.m ?_;rintro x c ⟨rfl,b,i⟩;have n:H (aO c rb F W need (q+2) E/\ax F w c):=⟨b.a om,i⟩;go_wp2;go_ret;exact⟨rfl,n.o⟩
  have hd:decide (p<0)=false:=(by simpa using h);have hd2:(x != p)=true:=(by simpa using h');go_enter func86,ntmps86;go_wp2_with fail;refine j.o.m ?_;rintro x c ⟨rfl,b,i⟩;have n:H (aO c rb F W need (q+2) E/\ax F w c):=⟨b.a om,i⟩;go_wp2;go_ret;exact⟨rfl,n.o⟩
end
end
section
open Go.RowKit Go.Sort Go.Shelf
def qP(a b c d:Int):Int:=if a≠0 then a else if b≠0 then b else if c≠0 then c else d
theorem Rt(f:Nat)(a b c d:Int)(w:Ω)(q:w.cell? ⟨f,0,J⟩=O (I Q a))(s:w.cell? ⟨f,1,J⟩=O (I Q b))(t:w.cell? ⟨f,2,J⟩=O (I Q c))(r:w.cell? ⟨f,3,J⟩=O (I Q d)):
  Φ prog 190 #[M (O ⟨f,0,J⟩) 4 4] w λe p=>e=N (I Q (qP a b c d))/\p=w:=by
 obtain⟨R,g⟩:∃R,R=qP a b c d:=⟨_,rfl⟩;have i:H (R=qP a b c d):=g;rw[<-g];clear g;by_cases k:a=0
 ·subst k;by_cases l:b=0
  ·subst l;by_cases j:c=0
   ·subst j;by_cases n:d=0
    ·subst n;have g:R=0:=(by rw[i.o];rfl);subst g;clear i;go_enter func190,ntmps190;go_wp2;refine wp_loop_rounds 5 ?_
     repeat (rw[rounds_succ];go_wp2)
     go_ret;exact⟨rfl,rfl⟩
    have g:R=d:=(by rw[i.o];unfold qP;rw[ag (λh=>h rfl),ag (λh=>h rfl),ag (λh=>h rfl)]);subst g;have m:(R != 0)=true:=(by simpa using n);clear i n;go_enter func190,ntmps190;go_wp2;refine wp_loop_rounds 5 ?_
    repeat (rw[rounds_succ];go_wp2)
    go_ret;exact⟨rfl,rfl⟩
   have g:R=c:=(by rw[i.o];unfold qP;rw[ag (λh=>h rfl),ag (λh=>h rfl),ak j]);subst g;have m:(R != 0)=true:=(by simpa using j);clear i j;go_enter func190,ntmps190;go_wp2;refine wp_loop_rounds 5 ?_
   repeat (rw[rounds_succ];go_wp2)
   go_ret;exact⟨rfl,rfl⟩
  have g:R=b:=(by rw[i.o];unfold qP;rw[ag (λh=>h rfl),ak l]);subst g;have m:(R != 0)=true:=(by simpa using l);clear i l;go_enter func190,ntmps190;go_wp2;refine wp_loop_rounds 5 ?_
  repeat (rw[rounds_succ];go_wp2)
  go_ret;exact⟨rfl,rfl⟩
 have g:R=a:=by rw[i.o];unfold qP;rw[ak k]
 subst g;have m:(R != 0)=true:=by simpa using k
 clear i k;go_enter func190,ntmps190;go_wp2;refine wp_loop_rounds 5 ?_;rw[rounds_succ];go_wp2;go_ret;exact⟨rfl,rfl⟩
theorem Ru(W:Ω)(f:Nat)(a b c d:Int)(h:f=W.1.size):
  Φ prog 190 #[M (O ⟨f,0,J⟩) 4 4] (W.alloc (Δ #[I Q a,I Q b,I Q c,I Q d] 3)).drew λe g=>e=N (I Q (qP a b c d))/\g=(W.alloc (Δ #[I Q a,I Q b,I Q c,I Q d] 3)).drew:=by
 subst h;refine Rt _ a b c d _ ?_ ?_ ?_ ?_
 all_goals
  show (W.alloc _).cell? _=_;simp
theorem Jo(w:Ω)(a b c:Obj):(((w.alloc a).alloc b).alloc c).drew=grow (w.drewN 1) #[a,b,c]:=by
 have e:((w.1.push a).push b).push c=w.1++#[a,b,c]:=by apply Array.ext';simp
 unfold World.alloc World.drew grow World.drewN;simp only[e]
theorem SE(x y:ai):oI x y=qP (Lib.compareBytes x.a.1.toList y.a.1.toList) (Lib.compareInt x.d y.d) (Lib.compareInt x.c y.c) (Lib.compareInt x.b y.b):=rfl
theorem NM(x y:ai)(w:Ω):
  Φ prog 189 #[.agg #[I Q x.c,I Q x.b,I Q x.d,Z x.a],.agg #[I Q y.c,I Q y.b,I Q y.d,Z y.a]] w λe f=>e=N (I Q (oI x y))/\∃q os',f=grow (w.drewN q) os':=by
 rw[SE];have g:prog.follows .mixedOrders=true:=kr;obtain⟨h,i,l,k⟩:=x;obtain⟨p,o,n,j⟩:=y;simp only;go_enter func189,ntmps189;go_wp2_with fail
 go_region_held3 (λf=>f.cell? ⟨w.1.size,0,J⟩=O (I Q h)/\f.cell? ⟨w.1.size,1,J⟩=O (I Q i)/\f.cell? ⟨w.1.size,2,J⟩=O (I Q l)/\f.cell? ⟨w.1.size,3,J⟩=O (Z k)/\f.cell? ⟨w.1.size+1,0,J⟩=O (I Q p)/\f.cell? ⟨w.1.size+1,1,J⟩=O (I Q o)/\f.cell? ⟨w.1.size+1,2,J⟩=O (I Q n)/\f.cell? ⟨w.1.size+1,3,J⟩=O (Z j)) (go_keep)
  (first|(go_at_call 191;refine(strings_Compare _ _ _).m ?_;rintro e f ⟨rfl,rfl⟩)|(go_at_call 192;refine(cmp_Compare_int _ _ _).m ?_;rintro e f ⟨rfl,rfl⟩)|(go_at_call 190;refine(Ru _ (w.1.size+1+1) _ _ _ _ sm).m ?_;rintro e f ⟨rfl,rfl⟩))
 go_wp2;go_ret;exact⟨rfl,1,_,Jo _ _ _ _⟩
end
section
open Go.RowKit Go.Sort Go.Shelf
theorem Ft[Inhabited ai](xs:List ai):flatK jg 4 xs.toArray=(bL xs).toArray:=by
 refine ext_get! (by simp[qg]) λt f=>?_;have a:t<xs.length*4:=by simpa using f
 rw[get_flatK jg 4 xs.toArray t (by simpa using a)];have d:t/4<xs.length:=om;have e:=vz xs (t/4) (t%4) xs[t/4] (bc d) om;rw[show t/4*4+t%4=t by omega]at e;have g:xs.toArray[t/4]! = xs[t/4]:=by rw[getElem!_pos xs.toArray (t/4) (by simpa using d)];simp
 rw[g];have c:t%4<(jg xs[t/4]).length:=by show t%4<4;omega
 have b:t<(bL xs).length:=by rw[qg];exact a
 rw[getElem!_pos (jg xs[t/4]) (t%4) c,getElem!_pos (bL xs).toArray t (by simpa using b)];rw[bc c,bc b]at e;simp at e;simp[e]
theorem NN{w:Ω}{g n:Nat}{f:Array Obj}{a:Array Value}{e:TypeId}{b:Nat×Nat}(d:Array Value)(c:w.1[g]?=O (Δ a e b)):
  (grow (putRow id (Sort.ahead w n) g 0 d) f).1[g]?=O (Δ (putCells id 0 d a) e b):=by
 have h:g<w.1.size:=(bP.1 c).1;rw[heap_grow_old _ _ (by simpa using h)];simp[putRow,mapBlock,Sort.ahead,dU,c,onCells]
theorem LQ{w:Ω}{g n:Nat}{c:Array Obj}(d:Array Value):w.grownBy (grow (putRow id (Sort.ahead w n) g 0 d) c) (O g):=by refine⟨rfl,rfl,rfl,by simp,λk b a=>?_⟩;rw[heap_grow_old _ _ (by simpa using b)];have:g≠k:=λe=>a (by rw[e]);simp[putRow,mapBlock,Sort.ahead,dU,this]
theorem NR(a:Array Value)(b:List Value)(h:b.length<=a.size):(putCells id 0 b.toArray a).toList.take b.length=b:=by
 apply List.ext_getElem?;intro j;by_cases c:j<b.length
 ·rw[rK c,rM];simp[putCells,c,show j<a.size by omega]
 rw[List.getElem?_take_eq_none om,iV om]
theorem NQ[Inhabited ai](g cap:Nat)(xs:List ai)(w:Ω)(h:w.ownsRow 0 156 4 (M (O ⟨g,0,J⟩) xs.length cap) xs.length (bL xs))(L:xs.length<=100000):
  Φ prog 188 #[M (O ⟨g,0,J⟩) xs.length cap,.func (.func 189) #[] #[]] w λe i=>e=N (Ψ #[])/\i.ownsRow 0 156 4 (M (O ⟨g,0,J⟩) xs.length cap) xs.length (bL (bE xs))/\w.grownBy i (O g):=by
 have G:∀args w,(callFunc 189 args).run prog w=.ok (.enter 189 args) w:=enters_of func189 kr rfl;obtain⟨l,A⟩:=h
 obtain⟨a,b,D,E,k,s⟩:∃a,w.1[g]?=O (Δ a 156 (0,0))/\xs.length<=cap/\cap<=maxLen/\a.size=cap*4/\a.toList.take (xs.length*4)=bL xs:=by
  rcases A with ⟨h0,_⟩|⟨g',cap',a,f,_,b,r⟩
  ·cases h0
  simp at f;obtain⟨rfl,rfl⟩:=f;exact⟨a,b,r⟩
 have F:HoldsK jg 4 w g 0 xs.toArray:=by
  unfold HoldsK;rw[Ft];intro j t;have c:j<(bL xs).length:=by simpa using t
  refine⟨?_,by simp[World.frozen?,b]⟩;have o:(a.toList.take (xs.length*4))[j]?=(bL xs)[j]?:=by rw[s]
  rw[rK (by rw[<-qg];exact c)]at o;simp only[World.cell?,b,dj];simp only[ie,iq,fL];rw[<-rM,o];simp[c]
 have K:g<w.1.size:=(bP.1 b).1
 have d:=AnyQ.slices_SortFunc sortS 4 isAgg156 sizeOf156 jg (λ_=>rfl) (λx v f=>by simp[jg]at f;rcases f with rfl|rfl|rfl|rfl<;>rfl) oI sV 189 #[] g 0 cap xs.toArray w G
  (λm z P _ x y=>NM x y _) F K (by simp;omega)
 refine d.m ?_;rintro e i ⟨rfl,p,n,z,C,q,rfl⟩;have u:p=(bE xs).toArray:=by have e:=sorted_unique_holds sV Gt xs.toArray p C q;rw[<-nU];exact e
 unfold sortWorldK putRowK;rw[u,Ft];refine⟨rfl,⟨by rw[qg,lZ],.inr ⟨g,cap,_,rfl,aX _,NN _ b,D,E,by simp[putCells,k],?_⟩⟩,LQ _⟩;have:xs.length*4=(bL (bE xs)).length:=by rw[qg,lZ]
 rw[this];exact NR a _ (by rw[<-this,k];omega)
theorem NO(v:Value)(xs:List ai)(w:Ω)(h:w.ownsRow 0 156 4 v xs.length (bL xs))(c:xs.length<=100000):
  Φ prog 188 #[v,.func (.func 189) #[] #[]] w λe b=>e=N (Ψ #[])/\b.ownsRow 0 156 4 v xs.length (bL (bE xs))/\w.grownBy b v.ownBlock:=by
 have a:=h;rcases h.2 with ⟨rfl,h0⟩|⟨g,cap,cur,rfl,_⟩
 ·have d:xs=[]:=iG.1 h0;subst d;refine(AnyF.slices_SortFunc_none sortS J 0 _ w).m ?_;rintro e b ⟨rfl,rfl⟩;have e:bE []=[]:=by unfold bE;simp
  rw[e];exact⟨rfl,a,⟨rfl,rfl,rfl,aa _,λ_ _ _=>rfl⟩⟩
 haveI:Inhabited ai:=⟨ai.e⟩
 exact NQ g cap xs w a c
end
section
open Go.RowKit
def eD(n lo hi:Int):Bool:=decide (lo<=n)&&decide (n<=hi)
theorem Jp(n b c:Int)(w:Ω):
  Φ prog 132 #[I Q n,I Q b,I Q c] w λe f=>e=N (.bool (eD n b c))/\f=w:=by
 by_cases d:b<=n
 ·by_cases g:n<=c
  ·have a:eD n b c=true:=(by simp[eD,d,g]);rw[a];clear a;go_enter func132,ntmps132;go_wp2;go_ret;exact⟨rfl,rfl⟩
  have a:eD n b c=false:=(by simp[eD];omega);rw[a];clear a;go_enter func132,ntmps132;go_wp2;go_ret;exact⟨by simp,rfl⟩
 have a:eD n b c=false:=by simp[eD];omega
 rw[a];clear a;have h:decide (b<=n)=false:=by simpa using d
 go_enter func132,ntmps132;go_wp2;go_ret;exact⟨rfl,rfl⟩
theorem kV{n b a:Int}{r:Bool}(h:eD n b a=r)(w:Ω):
  Φ prog 132 #[I Q n,I Q b,I Q a] w λe c=>e=N (.bool r)/\c=w:=h ▸ Jp n b a w
def v8(n:Nat):Value:=if n=0 then .nilIface else .iface 57 (I Q n)
theorem ew(w:Ω)(n:Nat):B w.1.size w (w.drewN n):=⟨rfl,rfl,rfl,aa _,λ_ _=>rfl⟩
theorem LR(s:ByteArray)(w:Ω)(h:s.size<=100000):
  Φ prog 94 #[Z s] w λe a=>e=N (Z s)/\B w.1.size w a:=by
 go_enter func94,ntmps94;go_wp2_with fail;refine(stringslite_Clone s w om).m ?_;rintro e a ⟨rfl,b⟩;have c:H (B w.1.size w a):=b;clear b;go_wp2;go_ret;exact⟨rfl,c.o⟩
section
variable {w:Ω}{db:Nat}{F:Nat->Prop}{size late now:Nat}{all:List ai}{lo:Nat}
theorem P5(d:cG w db F size late now all lo):
  Φ prog 252 #[Y (O ⟨db,0,J⟩)] w λe b=>e=N (I Q (now:Int))/\b=w:=by
 obtain⟨f,n,D,h,d⟩:=d.a;have c:=d.p;clear d;go_enter func252,ntmps252;go_wp2;go_ret;exact⟨rfl,rfl⟩
theorem P4{c a b:Nat}:max 0 ((b:Int)-a)/c=((bD c a b:Nat):Int):=by unfold bD;have:max 0 ((b:Int)-a)=((b-a:Nat):Int):=om;rw[this];exact(Int.natCast_ediv _ _).symm
theorem Kh(d:cG w db F size late now all lo)(g:0<size)(l:size<=50)(m:late<=50)(j:now<=1000):
  Φ prog 146 #[Y (O ⟨db,0,J⟩)] w λe c=>e=N (I Q (bD size late now:Int))/\∃q,c=w.drewN q:=by
 obtain⟨s,n,D,h,d⟩:=d.a;have b:prog.follows .mixedOrders=true:=kr;rw[<-P4];have k:=d.r;have o:=d.u;have f:=d.p;clear d;have i:((size:Int) == 0)=false:=by simp;omega
 go_enter func146,ntmps146;go_wp2;go_quiet (fail);go_wp2;go_ret;exact⟨rfl,_,rfl⟩
theorem xf{c:Nat}(b:c=bD size late now)(d:cG w db F size late now all lo)(a:0<size)(h:size<=50)(i:late<=50)(f:now<=1000):
  Φ prog 146 #[Y (O ⟨db,0,J⟩)] w λe g=>e=N (I Q (c:Int))/\∃q,g=w.drewN q:=b ▸ Kh d a h i f
theorem yQ(x:ai)(d:cG w db F size late now all lo)(r:x.a.size<=maxLen):
  Φ prog 253 #[Y (O ⟨db,0,J⟩),.agg #[I Q x.c,I Q x.b,I Q x.d,Z x.a]] w λe u=>e=N (.bool (eY now x))/\B w.1.size w u:=by
 obtain⟨A,n,D,h,d⟩:=d.a;have j:prog.follows .mixedOrders=true:=kr;have z:=d.p;have v:=d.o;clear d;obtain⟨R,k⟩:∃R,R=eY now x:=⟨_,rfl⟩;have f:H (R=eY now x):=k;rw[<-k];clear k;obtain⟨p,s,t,g⟩:=x;have y:g.size<=maxLen:=r;clear r;have i:H (∀q,B w.1.size w ((w.alloc (Δ #[I Q p,I Q s,I Q t,Z g] 156)).drewN q)):=λq=>((aj _ w).l nl _).t ((ew _ q).m sm);cases h1:eD p 0 7
 case false=>go_enter func253,ntmps253;go_wp2;go_big_quiet (first|with_reducible exact(kV h1 _).m λ_ _ h=>⟨h.1,_,h.2⟩|with_reducible exact(between_is h2 _).mono λ_ _ h=>⟨h.1,_,h.2⟩|with_reducible exact(between_is h3 _).mono λ_ _ h=>⟨h.1,_,h.2⟩);go_wp2;go_ret;exact⟨by rw[f.o];simp[eY,eD]at h1⊢;omega,i.o _⟩
 cases h2:eD s 0 255
 case false=>go_enter func253,ntmps253;go_wp2;go_big_quiet (first|with_reducible exact(kV h1 _).m λ_ _ h=>⟨h.1,_,h.2⟩|with_reducible exact(kV h2 _).m λ_ _ h=>⟨h.1,_,h.2⟩|with_reducible exact(between_is h3 _).mono λ_ _ h=>⟨h.1,_,h.2⟩);go_wp2;go_ret;exact⟨by rw[f.o];simp[eY,eD]at h2⊢;omega,i.o _⟩
 cases h3:eD t 0 now
 case false=>go_enter func253,ntmps253;go_wp2;go_big_quiet (first|with_reducible exact(kV h1 _).m λ_ _ h=>⟨h.1,_,h.2⟩|with_reducible exact(kV h2 _).m λ_ _ h=>⟨h.1,_,h.2⟩|with_reducible exact(kV h3 _).m λ_ _ h=>⟨h.1,_,h.2⟩);go_wp2;go_ret;exact⟨by rw[f.o];simp[eY,eD]at h3⊢;omega,i.o _⟩
 go_enter func253,ntmps253;go_wp2;go_big_quiet (first|with_reducible exact(kV h1 _).m λ_ _ h=>⟨h.1,_,h.2⟩|with_reducible exact(kV h2 _).m λ_ _ h=>⟨h.1,_,h.2⟩|with_reducible exact(kV h3 _).m λ_ _ h=>⟨h.1,_,h.2⟩);go_wp2;go_ret;refine⟨?_,i.o _⟩;rw[f.o];simp[eY,eD]at h1 h2 h3⊢;rw[jq];simp;omega
end
end
section
open Go.RowKit
theorem Fu:(prog.info? 105).map (λi=>(i.zero,i.size,i.bytes))=O (O (.agg #[I Q 0,M J 0 0,I Q 0]),3,40):=kr
theorem LZ(lb:Nat)(rest:ByteArray)(b:Nat)(w:Ω){L:qH}(h:dK w lb L rest b):
  Φ prog 160 #[Y (O ⟨lb,L.a,J⟩)] w λe c=>e=N (I Q (b:Int))/\c=w:=by
 have d:=h.g;go_enter func160,ntmps160;go_wp2;go_ret;exact⟨rfl,rfl⟩
def DG(S:List UInt8)(lb:Nat)(L:qH)(lost:Nat)(w:Ω)(e:Ending)(w':Ω):Prop:=
 ∃v,e=N v/\gu w' w.1.size w.1.size v (aW S).1/\dK w' lb L (aM (aW S).2.2) (lost+(aW S).2.1)/\f7 w.1.size lb w w'
theorem L3{t:ByteArray}(h:t.1.toList≠[]):t.toList.isEmpty=false:=by rw[cY];simpa using h
theorem LY{t:ByteArray}(h:t.1.toList=[]):t.toList.isEmpty=true:=by rw[cY,h];rfl
theorem LX(lb:Nat)(rest s:ByteArray)(n:Nat)(w:Ω){L:qH}(h:dK w lb L rest n)(hs:rest.size+s.size<=100000)(hlo:n<=10000000):
  Φ prog 139 #[Y (O ⟨lb,L.a,J⟩),Z s] w (DG (rest.1.toList++s.1.toList) lb L n w):=by
 obtain⟨i0,hi,hz0,hz1,hz2⟩:=tE Fu;obtain⟨S,hS⟩:∃S,S=rest.1.toList++s.1.toList:=⟨_,rfl⟩;rw[<-hS];have HS:=hid hS;have HSl:H (S.length=rest.size+s.size):=by show _=_;rw[hS,bU,dQ,dQ]
 have c0:=h.b;have hlb:=h.e;have HL:=hid h;have o1:¬9223372036854775807<rest.size+s.size:=om;go_enter func139,ntmps139;go_wp2;go_loopw [5,6,7,8] (λu l _ _ V=>∃(t:ByteArray) (y:List bf) (q:Nat),u=Z t/\aW S=(y++(aW t.1.toList).1,q+(aW t.1.toList).2.1,(aW t.1.toList).2.2)/\y.length+q+t.size<=S.length/\gu V w.1.size w.1.size l y/\dK V lb L rest (n+q)/\f7 w.1.size lb w V) (λu _ _ _ _=>rh u)
 case atStart=>
  refine⟨rest++s,[],0,rfl,?_,?_,gu.g _ _ _,HL.o,f7.h _ _ _⟩
  ·have e:(rest++s).1.toList=S:=(by rw[HS.o];simp);rw[e];simp
  rw[HSl.o];simp
 case round=>
  obtain⟨t,y,q,rfl,hfd,hle,hfo,hla,hbut⟩:=hrel;rw[HSl.o]at hle;have HFD:=hid hfd;have a2:=hid hfo;have x:=hid hla;have C:=hid hbut;have hwz:=hbut.a;have hts:t.size<=100000:=om;have hal:y.length<=100000:=om;have hqq:q<=100000:=om;have HLE:=hid hle;by_cases T:t.1.toList=[]
  case pos=>
   have hE:=LY T;have X:H (aW S=(y,q,t.1.toList)):=(by show _=_;rw[HFD.o,T,sd];simp);have hm0:=x.o.b;have hmz:=x.o.c L.a;go_wp2_with fail;refine(zb t _ om).m ?_;rintro e w2 ⟨rfl,F⟩;have z:=x.o.d (F.block lb x.o.e);have n0:=z.b;have nz:=z.c L.a;have a0:=hid z;have U:=hid (a2.o.e F);have K:=hid (C.o.b (oZ (F.m C.o.a) lb));go_wp2;go_ret;refine⟨_,rfl,?_,?_,K.o.f L.a _⟩
   ·rw[X.o];exact U.o.d (by simp[World.setCell]) (λk h1 h2=>bN _ _ _ _ (by show k≠lb;omega))
   rw[X.o];show dK _ lb L (aM t.1.toList) _;rw[tY];exact a0.o.f t
  case neg=>
   have hE:=L3 T;have HNE:=hid T;have htp:0<t.size:=(by have:=jl.2 T;rw[dQ]at this;exact this);go_wp2_with fail;refine(J7 t _ hts).m ?_;rintro e w1 ⟨v,rfl,R,P⟩;have HB1:=hid P;have hw1:=P.size;have a1:=hid (x.o.d (P.block lb x.o.e));have W:=hid (a2.o.e P);have G:=hid (C.o.b (oZ (P.m hwz) lb));cases hfr:cO t.1.toList with
  |some f=>
    obtain⟨hok,tl,htl⟩:=rU hfr;have hF:iK t.1.toList=f:=(by unfold iK;rw[hfr]);have hN:jR t.1.toList=(aJ f).length:=(by unfold jR;rw[hfr]);rw[hF]at R⊢;rw[hN];have HFF:=tD hfr;have htag:∀r∈f.a,r.c.size<=maxLen:=λr hr=>(by have:=hok.d r hr;unfold maxLen;omega);obtain⟨p,A,rfl,hron⟩:=R.e htag;have HRON:=hid hron;have hblk:f.a≠[]->∃b o,p=O ⟨b,o,J⟩/\wr.1.size<=b/\b<w1.1.size:=(by intro hne;obtain⟨g,cp,hv,h1,h2⟩:=R.a.form (jl.2 hne);simp at hv;exact⟨g,0,hv.1,h1,h2⟩);have HBLK:=hid hblk;obtain⟨i,hNN⟩:∃i,i=(aJ f).length:=⟨_,rfl⟩;have hNp:0<i:=(by rw[hNN,jc];omega);have hNt:i<=t.size:=(by have:=congrArg List.length htl;rw[dQ,bU]at this;omega);have hNI:(0:Int)<i:=om;have hNtI:(i:Int)<=t.size:=om;have HNN:=hid hNN;have HFFH:=hid HFF;rw[<-hNN];clear hfr htl hF hN HFF R hron hblk hNN P hok htag tl;obtain⟨ps,hpl,hpo,hpr⟩:=(W.o.a (Δ #[I Q f.b,M p f.a.length A,I Q f.c] 105)).a (Δ #[I Q f.b,M p f.a.length A,I Q f.c] 105) |>.c;have HPR:=hid hpr;have HPL:=hid hpl;have hnew:∀k,u6.ownBlock=O k->k<wr.1.size:=λk hk=>(by obtain⟨ps',_,ho',_⟩:=a2.o.c;exact(ho'.lt k hk).2);have HNEW:=hid hnew;go_wp2_with (at_builtin;refine iB _ rfl _ _ 125 rfl w.1.size 105 i0 (.agg #[I Q 0,M J 0 0,I Q 0]) 3 40 underlying125 hi hz0 hz1 hz2 rfl dc _ _ _ rfl hpo ⟨w1.1.size+1,0,J⟩ 1 1 [I Q f.b,M p f.a.length A,I Q f.c] rfl rfl ?q1 ?q2 om ?q3 ?q4 ?q5 (w1.1.size+2) ?q6 ?_)
    case q1=>
     intro j u hj
     match j,hj with
    |0,hj=>simp at hj;subst hj;simp[Addr.add]
    |1,hj=>simp at hj;subst hj;simp[Addr.add]
    |2,hj=>simp at hj;subst hj;simp[Addr.add]
    case q2=>intro u hu;simp at hu;rcases hu with rfl|rfl|rfl<;>rfl
    case q3=>unfold maxLen;omega
    case q4=>omega
    case q5=>simp;omega
    case q6=>simp
    intro g cap' w3 hown3 D hat hlt3;have hfo3:gu w3 w.1.size w.1.size (M (O ⟨g,0,J⟩) (y.length+1) cap') (y++[f]):=(by refine gu.h (p:=p) (c:=A) HPL.o HPR.o hown3 D (by rcases hat with h|h;exact af h;exact ah (by rw[h];simp)) ((HRON.o.e _).e _) ?_;intro hne;obtain⟨b,o,rfl,h1,h2⟩:=HBLK.o hne;exact⟨b,o,rfl,om,λe=>by have:=HNEW.o b e;omega⟩);have HFO3:=hid hfo3;have hb3:B w1.1.size w1 w3\/True:=ah aN;have hbut3:f7 w.1.size lb w w3:=(by refine G.o.b (oZ ?_ lb);exact(((aj w.1.size w1).l om _).l (by simp;omega) _).grown D (by simp;omega) (λk hk=>(hpo.lt k hk).1));have HBUT3:=hid hbut3
    have hla3:dK w3 lb L rest (n+q):=a1.o.d (by
     have e1:=D.block lb (by simp;omega) (λe=>by have:=(hpo.lt lb e.symm).1;omega);rw[e1,cX _ _ _ (by simp;omega),cX _ _ _ om])
    have HLA3:=hid hla3;go_wp2;go_roundw
    case rel=>
     have hd:(t.extract i t.size).1.toList=t.1.toList.drop (aJ f).length:=(by rw[kP,HNN.o,ip];rw[jm,dQ,<-HNN.o];omega);refine⟨t.extract i t.size,y++[f],q,rfl,?_,?_,HFO3.o,HLA3.o,HBUT3.o⟩
     ·rw[hd,HFD.o,HFFH.o];simp
     have h1:=HLE.o;rw[HSl.o,pM];simp;omega
    simp[rh];omega
  |none=>
    have hF:iK t.1.toList=⟨0,[],0⟩:=(by unfold iK;rw[hfr];rfl);have hN:jR t.1.toList=0:=(by unfold jR;rw[hfr]);rw[hF]at R⊢;rw[hN];obtain⟨p,A,rfl,-⟩:=R.e (λr hr=>absurd hr nj);have HFR:=hid hfr;have E:H (∀o,dK (w1.alloc o) lb L rest (n+q)):=λo=>a1.o.d (cX _ _ _ a1.o.e);go_wp2_with fail;refine(Id t _ hts htp).m ?_;rintro e w2 ⟨rfl,rfl⟩;cases hbg:gU t.1.toList with
   |true=>
     have X:H (aW S=(y,q,t.1.toList)):=(by show _=_;rw[HFD.o,wN HNE.o HFR.o hbg];simp);have x:=E;have hla0:dK (w1.alloc (Δ #[I Q 0,M p 0 A,I Q 0] 105)) lb L rest (n+q):=E.o _;have hfo0:gu (w1.alloc (Δ #[I Q 0,M p 0 A,I Q 0] 105)) w.1.size w.1.size u6 y:=W.o.a _;have hbu0:f7 w.1.size lb w (w1.alloc (Δ #[I Q 0,M p 0 A,I Q 0] 105)):=G.o.b (oZ (br.l om _) lb);have x:=hid hla0;have a2:=hid hfo0;have C:=hid hbu0;have hm0:=x.o.b;have hmz:=x.o.c L.a;go_wp2_with fail;refine(zb t _ om).m ?_;rintro e w2 ⟨rfl,F⟩;have z:=x.o.d (F.block lb x.o.e);have n0:=z.b;have nz:=z.c L.a;have a0:=hid z;have U:=hid (a2.o.e F);have K:=hid (C.o.b (oZ (F.m C.o.a) lb));go_wp2;go_ret;refine⟨_,rfl,?_,?_,K.o.f L.a _⟩
     ·rw[X.o];exact U.o.d (by simp[World.setCell]) (λk h1 h2=>bN _ _ _ _ (by show k≠lb;omega))
     rw[X.o];show dK _ lb L (aM t.1.toList) _;rw[tY];exact a0.o.f t
   |false=>
     have HLO:=hid (ve HNE.o HFR.o hbg);have d1:=(E.o (Δ #[I Q 0,M p 0 A,I Q 0] 105)).g;have dz:=(E.o (Δ #[I Q 0,M p 0 A,I Q 0] 105)).c (L.a+1);have htI:(1:Int)<=t.size:=om;go_wp2;go_roundw
     case rel=>
      have hd:(t.extract 1 t.size).1.toList=t.1.toList.drop 1:=(by rw[kP,ip];rw[jm,dQ];omega);refine⟨t.extract 1 t.size,y,q+1,rfl,?_,?_,?_,?_,?_⟩
      ·rw[hd,HFD.o,HLO.o];simp;omega
      ·have h1:=HLE.o;rw[HSl.o,pM];omega
      ·exact(W.o.a _).d (by simp[World.setCell]) (λk h1 h2=>bN _ _ _ _ (by show k≠lb;omega))
      ·exact(E.o _).h (n+(q+1)) om
      exact(G.o.b (oZ (br.l om _) lb)).f (L.a+1) _
     simp[rh];omega
end
section
open Go.RowKit Go.Maps
theorem F1(w:Ω):(zeroValue 122).run prog w=.ok rB w:=kr
theorem Ib{P:Program}(w:Ω){g:Array Oper}{rest:List Oper}{o:Oper}{a:Act}{Q:Exit->Act->Ω->Prop}
  (E:o.guard=J)(m x:Operand)(t:TypeId)(j:o.op=Op.lookup t m x false)
  (k e:TypeId)(z:Value)(K:Keyed P k)(s:P.underlying t=O (.map k e))(C:(zeroValue e).run P w=.ok z w)(b n:Nat)(D:DataW Value)
  (y:a.eval m=.map (O b))(d:w.ownsMap P k cB b n D)(h:Value)(p:Lit)(A:a.eval x=h)(f:keyOf P k h=O p)(v:Value)(r:D.atKey p (.held z)=.held v)
  (q:wpList P g Q rest (a.put o.dst v) w):
  wpList P g Q (o::rest) a w:=by
 refine wpList_plain E λF l=>?_;obtain⟨u,G,c,i⟩:=d.lookup K s C (zd:=.held z) (zp:=[]) rfl f;rw[r]at i;unfold cB at i;simp at i;obtain⟨rfl,_⟩:=i;unfold Oper.wp;simp[execOp,j,y,A,c,Result.andThen];exact l _ _ q
theorem Qd(w:Ω)(a c:Nat):cG ((w.alloc (.map #[] 0)).alloc (Δ #[I Q (a:Int),I Q (c:Int),I Q 0,.map (O w.1.size)] 218)) (w.1.size+1) (λb=>w.1.size<=b/\b<w.1.size+2) a c 0 [] 0:=by
 refine⟨w.1.size,0,.map [],λ_=>rB,?_⟩;refine⟨?_,?_,aa _,om,om,λk _=>rfl,λk _=>fH _ _ _ _,λk b _ h=>by simp[rB,Value.ownBlock]at h,λk d _ _ _ b h=>by simp[rB,Value.ownBlock]at h⟩
 ·have:=bn (w.alloc (.map #[] 0)) (Δ #[I Q (a:Int),I Q (c:Int),I Q 0,.map (O w.1.size)] 218);simpa using this
 exact(oU w prog 3 cB).alloc _
theorem vR(a c:Nat)(w:Ω)(j:1<=a)(k:a<=50)(n:c<=50):
  Φ prog 95 #[I Q (a:Int),I Q (c:Int)] w λe d=>e=N (Ψ #[Y (O ⟨w.1.size+1,0,J⟩),.nilIface])/\d.1.size=w.1.size+2/\cG d (w.1.size+1) (λb=>w.1.size<=b/\b<w.1.size+2) a c 0 [] 0/\B w.1.size w d:=by
 have f:=@run_makeMap prog;have i:eD (a:Int) 1 50=true:=by simp[eD];omega
 have g:eD (c:Int) 0 50=true:=by simp[eD];omega
 have h:=hid (Qd w a c);go_enter func95,ntmps95;go_wp2_with fail;refine(kV i _).m ?_;rintro e d ⟨rfl,rfl⟩;go_wp2_with fail;refine(kV g _).m ?_;rintro e d ⟨rfl,rfl⟩;go_wp2;go_ret2;exact⟨rfl,by simp,h.o,ba.l sm _⟩
theorem Qc(a b:Int)(w:Ω)(h:¬(1<=a/\a<=50/\0<=b/\b<=50)):
  Φ prog 95 #[I Q a,I Q b] w λe c=>e=N (Ψ #[Y J,.iface 57 (I Q 1)])/\c=w:=by
 cases b1:eD a 1 50 with
 |false=>
  go_enter func95,ntmps95;go_wp2_with fail;refine(kV b1 _).m ?_;rintro e c ⟨rfl,rfl⟩;go_wp2;go_ret2;exact⟨rfl,rfl⟩
 |true=>
  have d:eD b 0 50=false:=by simp[eD]at b1⊢;omega
  go_enter func95,ntmps95;go_wp2_with fail;refine(kV b1 _).m ?_;rintro e c ⟨rfl,rfl⟩;go_wp2_with fail;refine(kV d _).m ?_;rintro e c ⟨rfl,rfl⟩;go_wp2;go_ret2;exact⟨rfl,rfl⟩
def sS(F:Nat->Prop)(v:Value):Nat->Prop:=λb=>F b/\v.ownBlock≠O b
section
variable {w:Ω}{db:Nat}{F:Nat->Prop}{size late now:Nat}{all:List ai}{lo:Nat}
theorem SL{mb n:Nat}{D:DataW Value}{h:Nat->Value}{v x:Ω}(d:iL w db mb n D h F size late now all lo)(s:w.grownBy v (O mb))(y:v.ownsMap prog 3 cB mb n (D.del (.int Q (lo:Int))))(t:v.grownBy x (h lo).ownBlock):
  iL x db mb n (D.del (.int Q (lo:Int))) h (sS F (h lo)) size late now all (lo+1) where
 c:=by rw[t.block db (bg d.o s.size) (λe=>(d.i nl e.symm).1 rfl),s.block db d.o (λe=>d.q (by simpa using e.symm))];exact d.c
 f:=y.kept t (λe=>(d.i nl e.symm).2 rfl)
 m:=d.m
 j:=⟨d.j,λe=>(d.i nl e).1 rfl⟩
 e:=⟨d.e,λe=>(d.i nl e).2 rfl⟩
 l:=λk u=>by rw[Maps.atKey_del_other (λe=>by simp at e;omega)];exact d.l k om
 a:=λk u=>aS (d.a k om) (λb p=>by
  have r:=aU (d.a k om) p;rw[t.block b (bg r s.size) (λe=>d.g lo k nl om om b e.symm p),s.block b r (λe=>(d.i om p).2 (by simpa using e))])
 d:=λk b u p=>⟨d.d k b om p,λe=>d.g lo k nl om om b e p⟩
 g:=λk A u z=>d.g k A om om
theorem N3(d:cG w db F size late now all lo)(P:lo<=1000)(E:all.length<=100000):
  Φ prog 147 #[Y (O ⟨db,0,J⟩),I Q (lo:Int)] w λe A=>∃v,e=N v/\A.ownsRow 0 156 4 v (aR size all lo).length (bL (bE (aR size all lo)))/\(∀b,v.ownBlock=O b->F b/\b<w.1.size)/\cG A db (sS F v) size late now all (lo+1)/\ax F w A:=by
 obtain⟨C,n,D,h,d⟩:=d.a;have U:=d.t;have g:=d.f;have s:=d.l lo nl;have j:=hid d;go_enter func147,ntmps147;go_wp2_with (first|(at_lookup;refine Ib _ rfl _ _ 216 rfl 3 122 rB gX underlying216 (F1 _) C n D rfl g _ _ rfl (keyOf_int_mk underlying3 (pO om)) _ s ?_)|(at_delete;refine wpList_delete_own _ rfl _ _ 216 3 rfl 122 gX underlying216 cB C n D rfl g _ _ rfl (keyOf_int_mk underlying3 (pO om)) ?_;intro R p c));have x:=c.grown;have u:=aS (j.o.a lo nl) (λb r=>x.block b (aU (j.o.a lo nl) r) (λe=>(j.o.i nl r).2 (by simpa using e)));refine(NO (h lo) (aR size all lo) R u (aP (tM _ _ _) E)).m ?_;rintro e T ⟨rfl,q,z⟩;have L:=hid q;have G:=hid z;have K:=hid x;have S:=hid p;go_wp2;go_ret;exact⟨h lo,rfl,L.o,λb r=>⟨j.o.d lo b nl r,aU (j.o.a lo nl) r⟩,⟨C,n,_,h,SL j.o K.o S.o G.o⟩,(eV K.o (λk y=>by simp at y;exact y ▸ j.o.e)).a (eV G.o (λk y=>j.o.d lo k nl y))⟩
end
end
end Go.Proofs.YtlaodjjfmhipnaaGreatDoor
