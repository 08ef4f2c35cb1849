/-
  Part of it.
-/
import Derived.Test.YtlaodjjfmhipnaaGreatDoorSam
import Derived.Test.YtlaodjjfmhipnaaGreatDoorSar
set_option maxRecDepth 100000
set_option maxHeartbeats 8000000
set_option linter.all false
namespace Go.Proofs.YtlaodjjfmhipnaaGreatDoor
open Go.Proofs.Tryz
open Value renaming int→I,string→Z,pointer→Y,slice→M,tuple→Ψ
open Ending renaming returned→N
open Obj renaming cells→Δ
open Go renaming World→Ω,Calls→Φ
open IntKind renaming i64→Q
open Option renaming some→O,none→J
open RowKit renaming Below→B,Hid→H
section
open Go.RowKit
section
variable {P:Program}{ops:Array Oper}{Qv:Exit->Act->Ω->Prop}{l n:Nat}
theorem OH{i:Nat}{K:Act->Ω->Prop}{a:Act}{w:Ω}(j:∀(i:Nat)(o:Oper),ops[i]?=O o->∀c,o.op≠.defer c)(g:¬LetsOut Qv)(h:wpOp P ops Qv i K a w):wpOpIn (Fence.wide.inRound l) n P ops Qv i K a w:=by
 unfold wpOp at h;unfold wpOpIn;cases ho:ops[i]? with
 |none=>rw[ho]at h;exact h
 |some o=>
  rw[ho]at h;simp only at h⊢;by_cases b:Region.wanted o (yielded ops a.tmps)=true
  ·rw[ak b]at h;rw[ak b];rcases h with h|h
   ·refine⟨λ_ _=>aN,?_⟩;rw[Oper.semAt_plain (Fence.wide.inRound l) a.eval o (j i o ho)];unfold Oper.wp at h;generalize (execOp a.eval o).run P w=r at *;cases r with
   |ok x w'=>
     cases x<;>simp only[Oper.upon,Oper.uponIn]at h⊢<;>first
     |exact h
     |exact h.elim
     |exact⟨λd=>(by cases d),CallsIn.inRound l (callsIn_wide.2 h)⟩
     |exact⟨λd=>(by cases d),λc f _=>by obtain⟨v,e,r,s⟩:=h c f;exact⟨v,e,r,stepsIn_wide.2 s⟩⟩
   |halt x w'=>cases x<;>simp only[Oper.upon,Oper.uponIn]at h⊢<;>exact h
   exact absurd h.2 g
  rw[ag b]at h;rw[ag b];exact⟨λ_ _=>aN,h⟩
theorem DN(e:∀(i:Nat)(o:Oper),ops[i]?=O o->∀c,o.op≠.defer c)(d:¬LetsOut Qv){b:Region.Mode}:∀(fuel:Nat)(listed:Array Bool)(a:Act)(w:Ω),wpAny P b ops Qv fuel listed a w->wpAnyIn (Fence.wide.inRound l) n P b ops Qv fuel listed a w
 |0,_,_,_,h=>h
 |fuel+1,_,_,_,h=>⟨h.1,λi j=>wpOpIn_mono (λg f k=>DN e d fuel _ g f k) (OH e d (h.2 i j))⟩
theorem IV{S:Ω->Prop}{id:Nat}{a:Act}{w:Ω}(b:P.follows .mixedOrders=true)(e:∀(i:Nat)(o:Oper),ops[i]?=O o->∀c,o.op≠.defer c)(d:¬LetsOut Qv)(f:S w.drew)
  (h:S w.drew->wpAnyH P .any ops Qv S ops.size (Array.replicate ops.size false) a w.drew):(Code.region id ops true).wpIn (Fence.wide.inRound l) n P Qv a w:=
 wpIn_region_any b (DN e d _ _ _ _ (wpAny_of_held _ _ _ _ (h f)))
end
end
section
open Go.RowKit Go.Maps Go.Shelf
theorem By{A:ByteArray->Prop}:∀(ss:List (List UInt8)),(∀l,l∈ss->A ⟨l.toArray⟩)->∃a:List { x:ByteArray // A x },a.map (λx=>x.1.1.toList)=ss
 |[],_=>⟨[],rfl⟩
 |l::ss,h=>by obtain⟨a,c⟩:=By ss (λl b=>h l (rP _ b));exact⟨⟨⟨l.toArray⟩,h l List.mem_cons_self⟩::a,by simp[c]⟩
theorem EM{V:Ω}{c:Nat}{v:Value}{b:List (List UInt8)}(h:V.ownsRow c 9 1 v b.length (b.map encStr)):∃p a,v=M p b.length a/\∀j x,b[j]?=O x->∃g,p=O ⟨g,0,J⟩/\V.cell? ⟨g,j,J⟩=O (Z ⟨x.toArray⟩):=by
 rcases Nat.eq_zero_or_pos b.length with h0|h0
 ·have:b=[]:=iG.1 h0;subst this;rcases h.2 with ⟨rfl,_⟩|⟨g,a,cur,hv,_⟩
  ·exact⟨J,0,rfl,λi y h=>by simp at h⟩
  exact⟨_,a,hv,λi y h=>by simp at h⟩
 obtain⟨g,a,rfl,_,_⟩:=h.form h0;refine⟨O ⟨g,0,J⟩,a,rfl,λj x d=>⟨g,rfl,?_⟩⟩;have:=h.cells (g:=g) rfl j (encStr x) (by simp[d]);rw[dD]at this;exact this
theorem EN{V:Ω}{a:Nat}{e:TypeId}{c n d cap b o:Nat}{xs:List Value}(h:V.ownsRow a e c (M (O ⟨b,o,J⟩) n cap) d xs):(M (O ⟨b,o,J⟩) n cap).ownBlock=O b:=by
 rcases h.2 with ⟨h',_⟩|⟨g,cap',cur,hv,_⟩
 ·simp at h'
 simp at hv;rw[hv.1.1,hv.1.2];rfl
theorem SR:(prog.info? 279).map (λi=>(i.zero,i.size,i.bytes))=O (O (.agg #[Z ⟨#[]⟩,I Q 0,M J 0 0]),3,48):=kr
def sZ(n:Nat)(x:lV):List Value:=[Z x.a,I Q (aD x.a:Int),M x.b n x.d]
def kF(n:Nat)(cs:List lV):List Value:=cs.flatMap (sZ n)
theorem Ms(n:Nat)(c:List lV)(x:lV):kF n (c++[x])=kF n c++[Z x.a,I Q (aD x.a:Int),M x.b n x.d]:=by simp[kF,sZ]
theorem FD(n:Nat):∀(cs:List lV)(k j:Nat)(x:lV),cs[k]?=O x->j<3->(kF n cs)[k*3+j]?=(sZ n x)[j]?
 |y::cs,0,j,x,hx,hj=>by simp at hx;subst hx;show (sZ n y++kF n cs)[0*3+j]?=_;rw[gO (by show 0*3+j<3;omega)];congr 1;omega
 |y::cs,k+1,j,x,hx,hj=>by show (sZ n y++kF n cs)[(k+1)*3+j]?=_;have a:(sZ n y).length=3:=rfl;rw[jb (by rw[a];omega),a,show (k+1)*3+j-3=k*3+j by omega];exact FD n cs k j x (by simpa using hx) hj
 |[],_,_,_,hx,_=>by simp at hx
structure sY (w1 U:Ω) (NB:Nat) (ep:Nat->List ai) (W need L n:Nat) (names:List ByteArray) (q:Option Addr) (cap:Nat) (cs:List lV):Prop where
 c:U.1[NB]?=O (Δ #[M q cs.length cap] 275)
 a:U.ownsRow w1.1.size 279 3 (M q cs.length cap) cs.length (kF n cs)
 e:∀x,x∈cs->U.ownsRow 0 3 1 (M x.b n x.d) n (j5 (aI x.a ep W need) L n)
 h:cs.map (·.a)=names.filter (λg=>decide (0<aD g))
 d:ax (λb=>b=NB) w1 U
structure uP (w1 U:Ω) (NB:Nat) (ep:Nat->List ai) (W need L n:Nat) (names:List ByteArray):Prop where
 a:∃q cap cs,sY w1 U NB ep W need L n names q cap cs
theorem sY.l{w U:Ω}{t:Nat}{ep:Nat->List ai}{W d L n:Nat}{f:List ByteArray}{q:Option Addr}{cap:Nat}{o:List lV}(h:sY w U t ep W d L n f q cap o):nG U q o ep W d L n where
 a:=λi x p=>by
  have C:=(gD.1 p).1;obtain⟨b,r,s,F,z⟩:=h.a.form om;have A:q=O ⟨b,0,J⟩:=by simp at s;exact s.1
  subst A;have c:∀j u,j<3->(sZ n x)[j]?=O u->U.cell? ⟨b,i*3+j,J⟩=O u:=by intro j u v y;have:=h.a.cells (g:=b) rfl (i*3+j) u (by rw[FD n o i j x p v];exact y);rw[dD]at this;exact this
  obtain⟨E,D,k,m⟩:=SQ (h.e x (iW p));simp at k;rw[<-k.1]at m;exact⟨b,rfl,z,c 0 _ om rfl,c 1 _ om rfl,c 2 _ om rfl,m⟩
theorem sY.i{o U U':Ω}{p:Nat}{ep:Nat->List ai}{W j L n:Nat}{g:List ByteArray}{q:Option Addr}{cap:Nat}{u:List lV}(h:sY o U p ep W j L n g q cap u)(v:ax (λb=>b=p) o U')(r:∀(k:Nat)(c:Array Value)(t:TypeId)(f:Nat×Nat),U.1[k]?=O (Δ c t f)->U'.1[k]?=U.1[k]?):sY o U' p ep W j L n g q cap u where
 c:=(r _ _ _ _ h.c).trans h.c
 a:=aS h.a (λb l=>by obtain⟨c,m⟩:=lK h.a l;exact r _ _ _ _ m)
 e:=λx s=>aS (h.e x s) (λb l=>by obtain⟨c,m⟩:=lK (h.e x s) l;exact r _ _ _ _ m)
 h:=h.h
 d:=v
theorem uP.b{u:Ω}{z:Nat}{ep:Nat->List ai}{W j L n:Nat}{A:ByteArray->Prop}:OwnFrom u.1.size (λ(r:List { x:ByteArray // A x }) U=>uP u U z ep W j L n (r.map (·.1))):=λs U K m y g v=>by
 obtain⟨q,p,D,h⟩:=y.a;refine⟨q,p,D,h.i (h.d.d (G:=λb=>m=O b) ⟨g.os,g.tape,g.output,g.size,λk l C=>g.block k l (λe=>C e.symm)⟩ (λi F e=>?_)) (λk c t f l=>g.block k (bP.1 l).1 (λe=>?_))⟩
 ·have:=(v i e).1;omega
 obtain⟨_,o,w,E⟩:=v k e.symm;rw[l]at w;cases w;cases E
theorem sY.j{K U C R w:Ω}{m:Nat}{ep:Nat->List ai}{W r L n:Nat}{s:List ByteArray}{q:Option Addr}{cap:Nat}{g:List lV}{x:ByteArray}{p:Option Addr}{cp V t:Nat}{o4:Obj}(h:sY K U m ep W r L n s q cap g)(hN1:m<K.1.size)(S:B U.1.size U C)(P:B C.1.size C R)
  (D:R.ownsRow C.1.size 3 1 (M p n cp) n (j5 (aI x ep W r) L n))(A:w.ownsRow K.1.size 279 3 (M (O ⟨V,0,J⟩) (g.length+1) t) (g.length+1) (kF n g++[Z x,I Q (aD x:Int),M p n cp]))(hg:(R.alloc o4).grownBy w (M q g.length cap).ownBlock)(hk:0<aD x){T:Ω}(z:T=w.setCell ⟨m,0,J⟩ (M (O ⟨V,0,J⟩) (g.length+1) t)):
  sY K T m ep W r L n (s++[x]) (O ⟨V,0,J⟩) t (g++[⟨x,p,cp⟩])/\KeepsOthers U T/\(∀b,b<C.1.size->b≠m->(b<K.1.size\/U.1.size<=b)->T.1[b]?=C.1[b]?)/\w.1[m]?=O (Δ #[M q g.length cap] 275):=by
 have l:∀b,(M q g.length cap).ownBlock=O b->K.1.size<=b/\b<U.1.size:=λb f=>h.a.lt b f;have s2:=S.size;have s3:=P.size;have s5:=hg.size;rw[fi]at s5;have hNU:=(bP.1 h.c).1;have hV6s:T.1.size=w.1.size:=by rw[z];simp[World.setCell]
 have k6:∀b,b≠m->T.1[b]?=w.1[b]?:=λb f=>by rw[z];exact bN _ _ _ _ f
 have X:∀b,b<R.1.size->(M q g.length cap).ownBlock≠O b->w.1[b]?=R.1[b]?:=λb f F=>(hg.block b (by simp;omega) (λe=>F e.symm)).trans (cX R _ _ f);have k2:∀b,b<C.1.size->(M q g.length cap).ownBlock≠O b->w.1[b]?=C.1[b]?:=λb f F=>(X b om F).trans (P.block b f);have k0:∀b,b<U.1.size->(M q g.length cap).ownBlock≠O b->w.1[b]?=U.1[b]?:=λb f F=>(k2 b om F).trans (S.block b f);have hNo:(M q g.length cap).ownBlock≠O m:=λe=>by have:=(l m e).1;omega
 have h5:=(k0 m hNU hNo).trans h.c;have hgN:V≠m:=by have:=(A.lt V rfl).1;omega
 refine⟨⟨?_,?_,?_,?_,?_⟩,⟨om,?_⟩,?_,h5⟩
 ·rw[z,bU];simp[World.setCell,dU,h5]
 ·rw[bU,Ms];exact aS A (λb f=>k6 b (by simp[Value.ownBlock]at f;omega))
 ·intro y E;rcases dP.1 E with E|E
  ·refine aS (h.e y E) (λb f=>?_);obtain⟨c,hc⟩:=lK (h.e y E) f;have u:=aU (h.e y E) f
   rw[k6 b (λe=>by rw[e,h.c]at hc;simp at hc),k0 b u (λe=>by
    obtain⟨c',v⟩:=lK h.a e;rw[hc]at v;simp at v)]
  have:y=⟨x,p,cp⟩:=(by simpa using E);subst this;refine aS (sk D (aX _)) (λb f=>?_);have u:=D.lt b f;rw[k6 b om,X b u.2 (λe=>by have:=(l b e).2;omega)]
 ·rw[iY,h.h,List.filter_append];simp[hk]
 ·have a1:=(h.d.a (bH S _)).a (bH P _);have a2:ax (λb=>b=m) K (R.alloc o4):=a1.a (qe _ _ _);have a3:=a2.d (G:=λb=>(M q g.length cap).ownBlock=O b) (eV hg (λk e=>e)) (λi hi e=>by have:=(l i e).1;omega);rw[z];exact a3.a (ko _ _ _ rfl)
 ·intro b o f ho;have u:=(bP.1 f).1
  rw[k6 b (λe=>by rw[e,h.c]at f;cases f;cases ho),k0 b u (λe=>by
   obtain⟨c',v⟩:=lK h.a e;rw[f]at v;cases v;cases ho)]
  exact f
 intro b f F hor;rw[k6 b F,k2 b f (λe=>by have:=l b e;omega)]
structure yw (e:Ending) (w':Ω) (ep:Nat->List ai) (W need L n:Nat):Prop where
 a:∃(q:Option Addr) (cap:Nat) (cs:List lV),e=N (M q cs.length cap)/\nG w' q cs ep W need L n/\cs.length<=80000/\(∀g,g∈cs.map (·.a)↔(∃e,bz g (ep e)=true)/\0<aD g)
section
variable {w:Ω}{tb xb:Nat}{who:Nat->Nat×ByteArray×Nat}{F:Nat->Prop}{W need n r span score k:Nat}{ep:Nat->List ai}{f:Nat->ByteArray->ByteArray}
attribute [local go_sem] Oper.semAt_some
theorem C7(e:Nat)(d:cd w tb who W need n r ep)(x:ga w xb tb F span score k f)(hT:dy w)(hW:W<=8)(hn:n<=1000)(he:e<n)(hr:r<=80000)(hs:∀g,(∃e,bz g (ep e)=true)->g.size<=100000)(h8:span<=8):
  Φ prog 195 #[Y (O ⟨xb,0,J⟩),I Q (e:Int)] w λe' w'=>yw e' w' ep W need (cu span e) (e+1-cu span e)/\B w.1.size w w':=by
 have mixed:prog.follows .mixedOrders=true:=kr;obtain⟨iC,hiC,hzC,hsC,hbC⟩:=eb SR;obtain⟨V0,hV0⟩:∃V0,V0=((w.alloc (Δ #[Y (O ⟨xb,0,J⟩)] 176)).alloc (Δ #[I Q (e:Int)] 3)).alloc (Δ #[M J 0 0] 275):=⟨_,rfl⟩;have hb0:B w.1.size w V0:=by rw[hV0];exact(((aj _ w).l nl _).l sm _).l (by simp;omega) _
 have hs0:V0.1.size=w.1.size+1+1+1:=by rw[hV0];simp
 have q2:V0.1[w.1.size]?=O (Δ #[Y (O ⟨xb,0,J⟩)] 176):=by rw[hV0,cX _ _ _ (by simp;omega),cX _ _ _ sm];exact bn w _
 have q3:V0.1[w.1.size+1]?=O (Δ #[I Q (e:Int)] 3):=by rw[hV0,cX _ _ _ sm];have:=bn (w.alloc (Δ #[Y (O ⟨xb,0,J⟩)] 176)) (Δ #[I Q (e:Int)] 3);rw[fi]at this;exact this
 have q5:V0.1[w.1.size+1+1]?=O (Δ #[M J 0 0] 275):=by have:=bn ((w.alloc (Δ #[Y (O ⟨xb,0,J⟩)] 176)).alloc (Δ #[I Q (e:Int)] 3)) (Δ #[M J 0 0] 275);rw[fi,fi]at this;rw[hV0];exact this
 obtain⟨xv,ms,xi⟩:=x.b;have T:∀o o' o'':Obj,(((w.alloc o).alloc o').alloc o'').cell? ⟨xb,0,J⟩=O (Y (O ⟨tb,0,J⟩)):=λo o' o''=>by have hb:B w.1.size w (((w.alloc o).alloc o').alloc o''):=(((aj _ w).l nl _).l sm _).l (by simp;omega) _;rw[hb.cell xi.a];exact xi.j
 have HTG:H (Φ prog 197 #[Y (O ⟨tb,0,J⟩)] V0 λe w'=>e=N (.func (.func 239) #[] #[Y (O ⟨V0.1.size,0,J⟩)])/\∃(v:Value) (ss:List (List UInt8)),w'.cell? ⟨V0.1.size,0,J⟩=O v/\w'.ownsRow V0.1.size 9 1 v ss.length (ss.map encStr)/\ss.length<=80000/\ss.Nodup/\(∀g:ByteArray,g.1.toList∈ss↔∃e,bz g (ep e)=true)/\B V0.1.size V0 w'/\V0.1.size<w'.1.size):=EL (d.a hb0) hr;have HD:H (cd w tb who W need n r ep):=d;have HX:H (ga w xb tb F span score k f):=x;have HTB:=hid hT;have HSZ:=hid hs;have HQ:H (V0.1[w.1.size]?=O (Δ #[Y (O ⟨xb,0,J⟩)] 176)/\V0.1[w.1.size+1]?=O (Δ #[I Q (e:Int)] 3)/\V0.1[w.1.size+1+1]?=O (Δ #[M J 0 0] 275)):=⟨q2,q3,q5⟩;have HB0:H (B w.1.size w V0/\V0.1.size=w.1.size+1+1+1):=⟨hb0,hs0⟩;have hV0':=hV0;refine(callsIn_wide (n:=3)).1 ?_;refine callsIn_of_wp_marks func195 rfl aN ?_ rfl;refine wpIn_wide.2 ?_;simp only[ntmps195,List.size_toArray,eF,mH,Nat.reduceAdd,Nat.reduceSub,Array.replicate_succ,Array.replicate_zero,List.push_toArray,List.append_toArray,j9,ni];go_wp2_with fail;rw[<-hV0'];refine HTG.o.m ?_;rintro e' w1 ⟨rfl,v,ss,hcv,hown,hl9,hnd,hmem,hb1,hsz1⟩;obtain⟨xs,hxs⟩:=By (A:=λx=>∃e,bz x (ep e)=true) ss (λl hl=>(hmem ⟨l.toArray⟩).1 (by simpa using hl));have hxl:xs.length=ss.length:=by rw[<-hxs];simp
 obtain⟨pv,cv,hve,hcells⟩:=EM hown;subst hve;obtain⟨TB,hTB⟩:∃TB,TB=V0.1.size:=⟨_,rfl⟩;rw[<-hTB]at hcv hown hb1 hsz1⊢;have HTG1:H (sU w1 TB pv xs cv):=by refine⟨by rw[hxl];exact hcv,λj x hx=>?_⟩;obtain⟨g,hp,hc⟩:=hcells j x.1.1.toList (by rw[<-hxs,eE,hx];rfl);exact⟨g,hp,hc⟩
 have HOB:H (∀b,(b=TB\/(∃o,pv=O ⟨b,o,J⟩))->TB<=b/\b<w1.1.size):=λb hb=>by
  rcases hb with rfl|⟨o,hp⟩
  ·exact⟨aa _,hsz1⟩
  have hown':=hown;rw[hp]at hown';have h1:=hown'.lt b (EN hown');omega
 have HMEM:H (∀g:ByteArray,g∈xs.map (·.1)↔∃e,bz g (ep e)=true):=λg=>by
  rw[<-hmem g,<-hxs];constructor
  ·intro h;obtain⟨y,hy,rfl⟩:=iH.1 h;exact iH.2 ⟨y,hy,rfl⟩
  intro h;obtain⟨y,hy,hye⟩:=iH.1 h;exact iH.2 ⟨y,hy,pW hye⟩
 have HB1:H (B V0.1.size V0 w1):=by rw[<-hTB];exact hb1
 obtain⟨R,hNB⟩:∃R,R=w.1.size+1+1:=⟨_,rfl⟩;have HNB:H (R=w.1.size+1+1/\TB=R+1):=⟨hNB,by rw[hTB,HB0.o.2,hNB]⟩;have hNTB:R<TB:=by have:=HNB.o.2;omega
 have HBX:H (w1.1[w.1.size]?=O (Δ #[Y (O ⟨xb,0,J⟩)] 176)/\w1.1[w.1.size+1]?=O (Δ #[I Q (e:Int)] 3)/\w1.1[R]?=O (Δ #[M J 0 0] 275)):=by rw[hNB];exact⟨(HB1.o.block _ (bP.1 HQ.o.1).1).trans HQ.o.1,(HB1.o.block _ (bP.1 HQ.o.2.1).1).trans HQ.o.2.1,(HB1.o.block _ (bP.1 HQ.o.2.2).1).trans HQ.o.2.2⟩
 have HBW:=hid (HB0.o.1.t (HB1.o.m HB0.o.1.size));have hx9:xs.length<=80000:=om;clear hown hcells hnd hmem hb1 hxs hcv hV0' HTG HQ hTB T hl9 hxl;rw[<-hNB];clear hNB;go_wp2;obtain⟨L,hL⟩:∃L,L=cu span e:=⟨_,rfl⟩;have HL:H (L=cu span e):=hL;obtain⟨s,hM⟩:∃s,s=e+1-L:=⟨_,rfl⟩;have HM:H (s=e+1-L):=hM;clear hL hM;refine(wpIn_wide (n:=3)).1 ?_
 refine wpIn_rangeFunc_ownF rfl om (gf:=239) (lb:=#[Y (O ⟨TB,0,J⟩)]) rfl aN (enters_of func239 kr rfl)
  (C6 (A:=λx=>∃e,bz x (ep e)=true) 2 om w1 TB pv cv xs (λb=>b=TB\/(∃o,pv=O ⟨b,o,J⟩)) (af rfl) (λb o h=>ah ⟨o,h⟩) hx9 (λb hb=>(HOB.o b hb).2) HTG1.o) Bu (GK (λb hb=>(HOB.o b hb).2)) br (λ_=>rfl)
  (λpre U=>uP w1 U R ep W need L s (pre.map (·.1))) (λ_ _ _=>False) ?hI (λ_ _ _ _ _ hs _ _=>hs) ?h0 ?a1 ?assign ?body ?done ?stop
 case hI=>exact uP.b
 case h0=>exact⟨J,0,[],HBX.o.2.2,fH _ _ _ _,λx hx=>absurd hx nj,rfl,ax.j _ _⟩
 case assign=>intro l x U K X;gi_wp2;exact X
 case body=>
  rintro l pre ⟨x,hx⟩ U hJ hlen;obtain⟨q,cap,E,hI⟩:=hJ.a;have HI:H (sY w1 U R ep W need L s (pre.map (·.1)) q cap E):=hI;have hwNB:w.1.size<R:=by have:=HNB.o.1;omega
  have HBU:H (B w.1.size w U):=HBW.o.t (hI.d.i HBW.o.size (λk hk e=>by have e:k=R:=e;omega));have HPA:H (Φ prog 154 #[Z x] U λe w'=>e=N (iJ x)/\B U.1.size U w'):=wK x U (HTB.o.b HBU.o HTB.o.a) (by have:=HSZ.o x hx;unfold maxLen;omega);clear hJ hI;have hd1:1<=3-1-1:=om;rcases zr x with ⟨hk0,tF,tP,tC,tR,tS,hpv⟩|⟨hk0,hpv⟩
  ·rw[hpv]at HPA;unfold nD at HPA;clear hpv;gi_wp2_with fail;refine⟨aN,(CallsIn.inRound l (callsIn_wide.2 HPA.o)).mono ?_⟩;rintro e2 U1 ⟨rfl,hb1⟩;obtain⟨T,hkx⟩:∃T,T=aD x:=⟨_,rfl⟩;rw[<-hkx];have HKX:H (T=aD x/\0<T):=⟨hkx,om⟩;clear hkx;obtain⟨U2,hU2⟩:∃U2,U2=U1.alloc (Δ #[I Q (T:Int),I Q tF,I Q tP,I Q tC,I Q tR,I Q tS] 94):=⟨_,rfl⟩;have P:H (B U.1.size U U2):=(by rw[hU2];exact hb1.l hb1.size _);have hn2:U2.1[U1.1.size]?=O (Δ #[I Q (T:Int),I Q tF,I Q tP,I Q tC,I Q tR,I Q tS] 94):=(by rw[hU2];exact bn U1 _);have HW2:H (B w.1.size w U2):=HBU.o.t (P.o.m HBU.o.size);have HNB2:=hid ((P.o.block _ (bP.1 HI.o.c).1).trans HI.o.c);have hbx0:U2.1[w.1.size]?=O (Δ #[Y (O ⟨xb,0,J⟩)] 176):=(by have h1:=(HI.o.d.b _ (bP.1 HBX.o.1).1 om).trans HBX.o.1;exact(P.o.block _ (bP.1 h1).1).trans h1);have hbx1:U2.1[w.1.size+1]?=O (Δ #[I Q (e:Int)] 3):=(by have h1:=(HI.o.d.b _ (bP.1 HBX.o.2.1).1 (by have:=HNB.o.1;omega)).trans HBX.o.2.1;exact(P.o.block _ (bP.1 h1).1).trans h1);have hlt1:R<U1.1.size:=(by have h1:=(bP.1 HI.o.c).1;have h2:=hb1.size;omega);have z1:=dR (i:=0) hn2 rfl;have z2:=dR (i:=0) hbx0 rfl;have z3:=dR (i:=0) hbx1 rfl;have z0:=dR (i:=0) HNB2.o rfl;have HSK:H (∀V:Ω,B U2.1.size U2 V->(V.cell? ⟨U1.1.size,0,J⟩=O (I Q (T:Int))/\V.cell? ⟨w.1.size,0,J⟩=O (Y (O ⟨xb,0,J⟩))/\V.cell? ⟨w.1.size+1,0,J⟩=O (I Q (e:Int)))/\V.cell? ⟨R,0,J⟩=O (M q E.length cap)):=λV hV=>⟨⟨aH hV z1,aH hV z2,aH hV z3⟩,aH hV z0⟩;have HPL:H (∀V,B U2.1.size U2 V->Φ prog 236 #[Y (O ⟨xb,0,J⟩),Z x,I Q (e:Int)] V λe' w'=>∃p cp,e'=N (M p s cp)/\w'.ownsRow V.1.size 3 1 (M p s cp) s (j5 (aI x ep W need) L s)/\B V.1.size V w'):=λV hV=>(by have hwV:=HW2.o.t (hV.m HW2.o.size);have h:=Kz x e (HD.o.a hwV) (HX.o.c hwV) hW hn he (HSZ.o x hx) hx h8;rw[<-HL.o,<-HM.o]at h;exact h);have HKP2:=hid (HI.o.d.a (bH P.o _));have HUS:=hid HI.o.d.c;have HU1:H (U.1.size<=U1.1.size):=hb1.size;have HN1:H (R<w1.1.size):=(bP.1 HBX.o.2.2).1;have HBASE:H (w1.1.size<=U2.1.size):=(by have h1:=P.o.size;have h2:=HUS.o;show _<=_;omega);have hc9:E.length<=80000:=(by have h1:E.length=(E.map (·.a)).length:=(by simp);rw[h1,HI.o.h];have h2:=List.length_filter_le (λg=>decide (0<aD g)) (pre.map (·.1));rw[jp]at h2;omega);clear hn2 hbx0 hbx1 hb1;gi_wp2_with fail;rw[<-hU2];clear hU2 HPA;refine IV (S:=λV=>V.cell? ⟨U1.1.size,0,J⟩=O (I Q (T:Int))/\V.cell? ⟨w.1.size,0,J⟩=O (Y (O ⟨xb,0,J⟩))/\V.cell? ⟨w.1.size+1,0,J⟩=O (I Q (e:Int))) mixed ?hdef ?hlet (HSK.o _ (gp U2 1)).1 (λhS0=>?_)
   case hdef=>
    intro i o ho c hc;have hlt:i<12:=(bP.1 ho).1;rcases i with _|_|_|_|_|_|_|_|_|_|_|_|i
    all_goals first|(simp at ho;rw[<-ho]at hc;cases hc)|omega
   case hlet=>rintro⟨a,w',h⟩;exact h
   refine ar 1 23 (Z x) hS0 ?_;refine ar 2 24 (Y (O ⟨U1.1.size,0,J⟩)) hS0 ?_;refine aF 3 25 (I Q (T:Int)) rfl rfl kr (λ_ _ _ h=>h) (af ⟨by rfl,λwx hS=>by obtain⟨h1,h2,h3⟩:=hS;go_simp⟩) hS0 ?_;simp only[Act.put,az,aA,aB];refine aF 4 26 (Y (O ⟨xb,0,J⟩)) rfl rfl kr (λ_ _ _ h=>h) (af ⟨by rfl,λwx hS=>by obtain⟨h1,h2,h3⟩:=hS;go_simp⟩) hS0 ?_;simp only[Act.put,az,aA,aB];refine ar 5 27 (Z x) hS0 ?_;refine aF 6 28 (I Q (e:Int)) rfl rfl kr (λ_ _ _ h=>h) (af ⟨by rfl,λwx hS=>by obtain⟨h1,h2,h3⟩:=hS;go_simp⟩) hS0 ?_;simp only[Act.put,az,aA,aB];refine a9 (rs:=[0,7]) kr sm ?_;refine aQ rfl (λK X=>?_) (aQ rfl (λK X=>?_) aZ)
   ·have hld:U2.drew.cell? ⟨R,0,J⟩=O (M q E.length cap):=z0;go_simp;clear hld;refine X.out _ _ hS0 (λ_=>?_);clear X K;refine a9 (rs:=[7]) kr sm ?_;refine aQ rfl (λK X=>?_) aZ;go_simp;refine(HPL.o _ (gp U2 1)).m ?_;rintro e3 U3 ⟨p,cp,rfl,hrow3,hb3⟩;have h3:=HSK.o U3 ((gp U2 1).t hb3);have HB3:H (B U2.1.size U2 U3):=(gp U2 1).t hb3;have HR3:=hid hrow3;have hs3:=HB3.o.size;refine X.out _ _ h3.1 (λ_=>?_);refine ar 8 30 (.agg #[Z x,I Q (T:Int),M p s cp]) h3.1 ?_;refine a9 (rs:=[9]) kr sm ?_;refine aQ rfl (λK X=>?_) aZ;go_simp;have h4:=HSK.o (U3.alloc (Δ #[Z x,I Q (T:Int),M p s cp] 279)) (HB3.o.l hs3 _);refine X.out _ _ h4.1 (λ_=>?_);clear X K;refine a9 (rs:=[10]) kr sm ?_;refine aQ rfl (λK X=>?_) aZ;have HNEW:H (∀j u,([Z x,I Q (T:Int),M p s cp]:List Value)[j]?=O u->(U3.alloc (Δ #[Z x,I Q (T:Int),M p s cp] 279)).cell? ((⟨U3.1.size,0,J⟩:Addr).add j)=O u):=by intro j u hj;rw[dD];have hh:=bn U3 (Δ #[Z x,I Q (T:Int),M p s cp] 279);exact dR hh (by simpa using hj)
    have HROW:H ((U3.alloc (Δ #[Z x,I Q (T:Int),M p s cp] 279)).ownsRow w1.1.size 279 3 (M q E.length cap) E.length (kF s E)):=aS HI.o.a (λb hb=>by
     have hlt:=aU HI.o.a hb;rw[cX U3 _ _ (by have:=P.o.size;omega),HB3.o.block b (by have:=P.o.size;omega),P.o.block b hlt])
    have HML:H (E.length+1<=maxLen):=(by show _<=_;unfold maxLen;omega);have HBY:H ((E.length+1)*48<=140737488355328):=(by show _<=_;omega);refine iX _ (by rfl) (.tmp 22) (.tmp 31) 275 (by rfl) w1.1.size 279 iC (.agg #[Z ⟨#[]⟩,I Q 0,M J 0 0]) 3 48 underlying275 hiC hzC hsC hbC rfl om (M q E.length cap) E.length (kF s E) (by rfl) HROW.o ⟨U3.1.size,0,J⟩ 1 1 [Z x,I Q (T:Int),M p s cp] (by rfl) rfl HNEW.o (λu hu=>by simp at hu;rcases hu with rfl|rfl|rfl<;>rfl) om HML.o HBY.o (by rw[fi];have:=HBASE.o;omega) _ rfl ?_;intro g2 C V5 hown5 z hat5 hlt5;have a0:V5.ownsRow w1.1.size 279 3 (M (O ⟨g2,0,J⟩) (E.length+1) C) (E.length+1) (kF s E++[Z x,I Q (aD x:Int),M p s cp]):=by rw[<-HKX.o.1];exact hown5
    obtain⟨st1,st2,st3,st4⟩:=HI.o.j HN1.o P.o HB3.o HR3.o a0 z (by rw[<-HKX.o.1];exact HKX.o.2) rfl;have c5:=dR (i:=0) st4 rfl;have f5:=qC (i:=0) st4;have h5:V5.cell? ⟨U1.1.size,0,J⟩=O (I Q (T:Int))/\V5.cell? ⟨w.1.size,0,J⟩=O (Y (O ⟨xb,0,J⟩))/\V5.cell? ⟨w.1.size+1,0,J⟩=O (I Q (e:Int)):=by have hU4:B U2.1.size U2 (U3.alloc (Δ #[Z x,I Q (T:Int),M p s cp] 279)):=HB3.o.l hs3 _;obtain⟨⟨a1,a2,a3⟩,_⟩:=HSK.o _ hU4;exact⟨z.cell a1 (λe=>by have h1:_/\U1.1.size<U.1.size:=HI.o.a.lt _ e.symm;have h2:=HU1.o;omega),z.cell a2 (λe=>by have h1:w1.1.size<=w.1.size/\_:=HI.o.a.lt _ e.symm;have h2:=HN1.o;omega),z.cell a3 (λe=>by have h1:w1.1.size<=w.1.size+1/\_:=HI.o.a.lt _ e.symm;have h2:=HN1.o;have h3:=HNB.o.1;omega)⟩
    have h6:(V5.setCell ⟨R,0,J⟩ (M (O ⟨g2,0,J⟩) (E.length+1) C)).cell? ⟨U1.1.size,0,J⟩=O (I Q (T:Int))/\(V5.setCell ⟨R,0,J⟩ (M (O ⟨g2,0,J⟩) (E.length+1) C)).cell? ⟨w.1.size,0,J⟩=O (Y (O ⟨xb,0,J⟩))/\(V5.setCell ⟨R,0,J⟩ (M (O ⟨g2,0,J⟩) (E.length+1) C)).cell? ⟨w.1.size+1,0,J⟩=O (I Q (e:Int)):=
     ⟨by rw[dT _ _ _ _ (by show R≠U1.1.size;omega)];exact h5.1,by rw[dT _ _ _ _ (by show R≠w.1.size;omega)];exact h5.2.1,by rw[dT _ _ _ _ (by show R≠w.1.size+1;have:=HNB.o.1;omega)];exact h5.2.2⟩
    have HPO:H (KeepsOthers U (V5.setCell ⟨R,0,J⟩ (M (O ⟨g2,0,J⟩) (E.length+1) C))/\lr (λb=>b=TB\/(∃o,pv=O ⟨b,o,J⟩)) U (V5.setCell ⟨R,0,J⟩ (M (O ⟨g2,0,J⟩) (E.length+1) C))/\uP w1 (V5.setCell ⟨R,0,J⟩ (M (O ⟨g2,0,J⟩) (E.length+1) C)) R ep W need L s ((pre++[(⟨x,hx⟩ : { x:ByteArray // ∃e,bz x (ep e)=true })]).map (·.1))):=(by refine⟨st2,λb hb=>?_,⟨_,_,_,by rw[iY];exact st1⟩⟩;have hob:=HOB.o b hb;have hus:=HUS.o;have h2s:=P.o.size;rw[st3 b om om (af hob.2),P.o.block b om]);clear hown5 a0 z hat5 hlt5 st1 st2 st3 st4;refine X.out _ _ h5 (λ_=>?_);clear X K;change wpAnyH _ _ _ _ _ _ _ (Act.put _ (O 32) _) _;simp only[Act.put,az,aA,aB];refine a9 (rs:=[11]) kr sm ?_;refine aQ rfl (λK X=>?_) aZ;go_simp;refine X.out _ _ h6 (λ_=>?_);refine ea kr ?_ _;gi_wp2;exact HPO.o
   ·go_simp;refine(HPL.o _ (gp U2 1)).m ?_;rintro e3 U3 ⟨p,cp,rfl,hrow3,hb3⟩;have h3:=HSK.o U3 ((gp U2 1).t hb3);have HB3:=hid ((gp U2 1).t hb3);have HR3:=hid hrow3;have hs3:=HB3.o.size;refine X.out _ _ h3.1 (λ_=>?_);refine ar 8 30 (.agg #[Z x,I Q (T:Int),M p s cp]) h3.1 ?_;refine a9 (rs:=[0,9]) kr sm ?_;refine aQ rfl (λK X=>?_) (aQ rfl (λK X=>?_) aZ)
    ·have hld:=h3.2;go_simp;refine X.out _ _ h3.1 (λ_=>?_);refine a9 (rs:=[9]) kr sm ?_;refine aQ rfl (λK X=>?_) aZ;go_simp;have h4:=HSK.o (U3.alloc (Δ #[Z x,I Q (T:Int),M p s cp] 279)) (HB3.o.l hs3 _);refine X.out _ _ h4.1 (λ_=>?_);refine a9 (rs:=[10]) kr sm ?_;refine aQ rfl (λK X=>?_) aZ;have HNEW:H (∀j u,([Z x,I Q (T:Int),M p s cp]:List Value)[j]?=O u->(U3.alloc (Δ #[Z x,I Q (T:Int),M p s cp] 279)).cell? ((⟨U3.1.size,0,J⟩:Addr).add j)=O u):=by intro j u hj;rw[dD];have hh:=bn U3 (Δ #[Z x,I Q (T:Int),M p s cp] 279);exact dR hh (by simpa using hj)
     have HROW:H ((U3.alloc (Δ #[Z x,I Q (T:Int),M p s cp] 279)).ownsRow w1.1.size 279 3 (M q E.length cap) E.length (kF s E)):=aS HI.o.a (λb hb=>by
      have hlt:=aU HI.o.a hb;rw[cX U3 _ _ (by have:=P.o.size;omega),HB3.o.block b (by have:=P.o.size;omega),P.o.block b hlt])
     have HML:H (E.length+1<=maxLen):=(by show _<=_;unfold maxLen;omega);have HBY:H ((E.length+1)*48<=140737488355328):=(by show _<=_;omega);refine iX _ (by rfl) (.tmp 22) (.tmp 31) 275 (by rfl) w1.1.size 279 iC (.agg #[Z ⟨#[]⟩,I Q 0,M J 0 0]) 3 48 underlying275 hiC hzC hsC hbC rfl om (M q E.length cap) E.length (kF s E) (by rfl) HROW.o ⟨U3.1.size,0,J⟩ 1 1 [Z x,I Q (T:Int),M p s cp] (by rfl) rfl HNEW.o (λu hu=>by simp at hu;rcases hu with rfl|rfl|rfl<;>rfl) om HML.o HBY.o (by rw[fi];have:=HBASE.o;omega) _ rfl ?_;intro g2 C V5 hown5 z hat5 hlt5;have a0:V5.ownsRow w1.1.size 279 3 (M (O ⟨g2,0,J⟩) (E.length+1) C) (E.length+1) (kF s E++[Z x,I Q (aD x:Int),M p s cp]):=by rw[<-HKX.o.1];exact hown5
     obtain⟨st1,st2,st3,st4⟩:=HI.o.j HN1.o P.o HB3.o HR3.o a0 z (by rw[<-HKX.o.1];exact HKX.o.2) rfl;have c5:=dR (i:=0) st4 rfl;have f5:=qC (i:=0) st4;have h5:V5.cell? ⟨U1.1.size,0,J⟩=O (I Q (T:Int))/\V5.cell? ⟨w.1.size,0,J⟩=O (Y (O ⟨xb,0,J⟩))/\V5.cell? ⟨w.1.size+1,0,J⟩=O (I Q (e:Int)):=by have hU4:B U2.1.size U2 (U3.alloc (Δ #[Z x,I Q (T:Int),M p s cp] 279)):=HB3.o.l hs3 _;obtain⟨⟨a1,a2,a3⟩,_⟩:=HSK.o _ hU4;exact⟨z.cell a1 (λe=>by have h1:_/\U1.1.size<U.1.size:=HI.o.a.lt _ e.symm;have h2:=HU1.o;omega),z.cell a2 (λe=>by have h1:w1.1.size<=w.1.size/\_:=HI.o.a.lt _ e.symm;have h2:=HN1.o;omega),z.cell a3 (λe=>by have h1:w1.1.size<=w.1.size+1/\_:=HI.o.a.lt _ e.symm;have h2:=HN1.o;have h3:=HNB.o.1;omega)⟩
     have h6:(V5.setCell ⟨R,0,J⟩ (M (O ⟨g2,0,J⟩) (E.length+1) C)).cell? ⟨U1.1.size,0,J⟩=O (I Q (T:Int))/\(V5.setCell ⟨R,0,J⟩ (M (O ⟨g2,0,J⟩) (E.length+1) C)).cell? ⟨w.1.size,0,J⟩=O (Y (O ⟨xb,0,J⟩))/\(V5.setCell ⟨R,0,J⟩ (M (O ⟨g2,0,J⟩) (E.length+1) C)).cell? ⟨w.1.size+1,0,J⟩=O (I Q (e:Int)):=
      ⟨by rw[dT _ _ _ _ (by show R≠U1.1.size;omega)];exact h5.1,by rw[dT _ _ _ _ (by show R≠w.1.size;omega)];exact h5.2.1,by rw[dT _ _ _ _ (by show R≠w.1.size+1;have:=HNB.o.1;omega)];exact h5.2.2⟩
     have HPO:H (KeepsOthers U (V5.setCell ⟨R,0,J⟩ (M (O ⟨g2,0,J⟩) (E.length+1) C))/\lr (λb=>b=TB\/(∃o,pv=O ⟨b,o,J⟩)) U (V5.setCell ⟨R,0,J⟩ (M (O ⟨g2,0,J⟩) (E.length+1) C))/\uP w1 (V5.setCell ⟨R,0,J⟩ (M (O ⟨g2,0,J⟩) (E.length+1) C)) R ep W need L s ((pre++[(⟨x,hx⟩ : { x:ByteArray // ∃e,bz x (ep e)=true })]).map (·.1))):=(by refine⟨st2,λb hb=>?_,⟨_,_,_,by rw[iY];exact st1⟩⟩;have hob:=HOB.o b hb;have hus:=HUS.o;have h2s:=P.o.size;rw[st3 b om om (af hob.2),P.o.block b om]);clear hown5 a0 z hat5 hlt5 st1 st2 st3 st4;refine X.out _ _ h5 (λ_=>?_);clear X K;change wpAnyH _ _ _ _ _ _ _ (Act.put _ (O 32) _) _;simp only[Act.put,az,aA,aB];refine a9 (rs:=[11]) kr sm ?_;refine aQ rfl (λK X=>?_) aZ;go_simp;refine X.out _ _ h6 (λ_=>?_);clear X K;refine ea kr ?_ _;gi_wp2;exact HPO.o
    ·go_simp;have h4:=HSK.o (U3.alloc (Δ #[Z x,I Q (T:Int),M p s cp] 279)) (HB3.o.l hs3 _);refine X.out _ _ h4.1 (λ_=>?_);clear X K;refine a9 (rs:=[0]) kr sm ?_;refine aQ rfl (λK X=>?_) aZ;have hld:=h4.2;go_simp;clear hld;refine X.out _ _ h4.1 (λ_=>?_);clear X K;refine a9 (rs:=[10]) kr sm ?_;refine aQ rfl (λK X=>?_) aZ;have HNEW:H (∀j u,([Z x,I Q (T:Int),M p s cp]:List Value)[j]?=O u->(U3.alloc (Δ #[Z x,I Q (T:Int),M p s cp] 279)).cell? ((⟨U3.1.size,0,J⟩:Addr).add j)=O u):=by intro j u hj;rw[dD];have hh:=bn U3 (Δ #[Z x,I Q (T:Int),M p s cp] 279);exact dR hh (by simpa using hj)
     have HROW:H ((U3.alloc (Δ #[Z x,I Q (T:Int),M p s cp] 279)).ownsRow w1.1.size 279 3 (M q E.length cap) E.length (kF s E)):=aS HI.o.a (λb hb=>by
      have hlt:=aU HI.o.a hb;rw[cX U3 _ _ (by have:=P.o.size;omega),HB3.o.block b (by have:=P.o.size;omega),P.o.block b hlt])
     have HML:H (E.length+1<=maxLen):=(by show _<=_;unfold maxLen;omega);have HBY:H ((E.length+1)*48<=140737488355328):=(by show _<=_;omega);refine iX _ (by rfl) (.tmp 22) (.tmp 31) 275 (by rfl) w1.1.size 279 iC (.agg #[Z ⟨#[]⟩,I Q 0,M J 0 0]) 3 48 underlying275 hiC hzC hsC hbC rfl om (M q E.length cap) E.length (kF s E) (by rfl) HROW.o ⟨U3.1.size,0,J⟩ 1 1 [Z x,I Q (T:Int),M p s cp] (by rfl) rfl HNEW.o (λu hu=>by simp at hu;rcases hu with rfl|rfl|rfl<;>rfl) om HML.o HBY.o (by rw[fi];have:=HBASE.o;omega) _ rfl ?_;intro g2 C V5 hown5 z hat5 hlt5;have a0:V5.ownsRow w1.1.size 279 3 (M (O ⟨g2,0,J⟩) (E.length+1) C) (E.length+1) (kF s E++[Z x,I Q (aD x:Int),M p s cp]):=by rw[<-HKX.o.1];exact hown5
     obtain⟨st1,st2,st3,st4⟩:=HI.o.j HN1.o P.o HB3.o HR3.o a0 z (by rw[<-HKX.o.1];exact HKX.o.2) rfl;have c5:=dR (i:=0) st4 rfl;have f5:=qC (i:=0) st4;have h5:V5.cell? ⟨U1.1.size,0,J⟩=O (I Q (T:Int))/\V5.cell? ⟨w.1.size,0,J⟩=O (Y (O ⟨xb,0,J⟩))/\V5.cell? ⟨w.1.size+1,0,J⟩=O (I Q (e:Int)):=by have hU4:B U2.1.size U2 (U3.alloc (Δ #[Z x,I Q (T:Int),M p s cp] 279)):=HB3.o.l hs3 _;obtain⟨⟨a1,a2,a3⟩,_⟩:=HSK.o _ hU4;exact⟨z.cell a1 (λe=>by have h1:_/\U1.1.size<U.1.size:=HI.o.a.lt _ e.symm;have h2:=HU1.o;omega),z.cell a2 (λe=>by have h1:w1.1.size<=w.1.size/\_:=HI.o.a.lt _ e.symm;have h2:=HN1.o;omega),z.cell a3 (λe=>by have h1:w1.1.size<=w.1.size+1/\_:=HI.o.a.lt _ e.symm;have h2:=HN1.o;have h3:=HNB.o.1;omega)⟩
     have h6:(V5.setCell ⟨R,0,J⟩ (M (O ⟨g2,0,J⟩) (E.length+1) C)).cell? ⟨U1.1.size,0,J⟩=O (I Q (T:Int))/\(V5.setCell ⟨R,0,J⟩ (M (O ⟨g2,0,J⟩) (E.length+1) C)).cell? ⟨w.1.size,0,J⟩=O (Y (O ⟨xb,0,J⟩))/\(V5.setCell ⟨R,0,J⟩ (M (O ⟨g2,0,J⟩) (E.length+1) C)).cell? ⟨w.1.size+1,0,J⟩=O (I Q (e:Int)):=
      ⟨by rw[dT _ _ _ _ (by show R≠U1.1.size;omega)];exact h5.1,by rw[dT _ _ _ _ (by show R≠w.1.size;omega)];exact h5.2.1,by rw[dT _ _ _ _ (by show R≠w.1.size+1;have:=HNB.o.1;omega)];exact h5.2.2⟩
     have HPO:H (KeepsOthers U (V5.setCell ⟨R,0,J⟩ (M (O ⟨g2,0,J⟩) (E.length+1) C))/\lr (λb=>b=TB\/(∃o,pv=O ⟨b,o,J⟩)) U (V5.setCell ⟨R,0,J⟩ (M (O ⟨g2,0,J⟩) (E.length+1) C))/\uP w1 (V5.setCell ⟨R,0,J⟩ (M (O ⟨g2,0,J⟩) (E.length+1) C)) R ep W need L s ((pre++[(⟨x,hx⟩ : { x:ByteArray // ∃e,bz x (ep e)=true })]).map (·.1))):=(by refine⟨st2,λb hb=>?_,⟨_,_,_,by rw[iY];exact st1⟩⟩;have hob:=HOB.o b hb;have hus:=HUS.o;have h2s:=P.o.size;rw[st3 b om om (af hob.2),P.o.block b om]);refine X.out _ _ h5 (λ_=>?_);change wpAnyH _ _ _ _ _ _ _ (Act.put _ (O 32) _) _;simp only[Act.put,az,aA,aB];refine a9 (rs:=[11]) kr sm ?_;refine aQ rfl (λK X=>?_) aZ;go_simp;refine X.out _ _ h6 (λ_=>?_);refine ea kr ?_ _;gi_wp2;exact HPO.o
  rw[hpv]at HPA;unfold cJ at HPA;gi_wp2_with fail;refine⟨aN,(CallsIn.inRound l (callsIn_wide.2 HPA.o)).mono ?_⟩;rintro e2 U1 ⟨rfl,hb1⟩;have HPO:H (∀o,KeepsOthers U (U1.alloc o)/\lr (λb=>b=TB\/(∃o,pv=O ⟨b,o,J⟩)) U (U1.alloc o)/\uP w1 (U1.alloc o) R ep W need L s ((pre++[(⟨x,hx⟩ : { x:ByteArray // ∃e,bz x (ep e)=true })]).map (·.1))):=λo=>(by have hbo:B U.1.size U (U1.alloc o):=hb1.l hb1.size o;refine⟨⟨hbo.size,λk o hk _=>(hbo.block k (bP.1 hk).1).trans hk⟩,λb hb=>hbo.block b (by have h1:=(HOB.o b hb).2;have h2:=HI.o.d.c;omega),⟨q,cap,E,?_⟩⟩;have h:=HI.o.i (U':=U1.alloc o) (HI.o.d.a (bH hbo _)) (λk c t f hk=>hbo.block k (bP.1 hk).1);exact⟨h.c,h.a,h.e,by rw[h.h];simp[hk0],h.d⟩);clear hb1 HPA;gi_wp2;exact HPO.o _
 case done=>
  rintro D ys U hD rfl hJ X;obtain⟨q,cap,E,hI⟩:=hJ.a;have c5:=dR (i:=0) hI.c rfl
  have HFF:H (yw (N (M q E.length cap)) (U.putObj D (.deferred J)) ep W need (cu span e) (e+1-cu span e)/\B w.1.size w (U.putObj D (.deferred J))):=by
   have g1:U.grownBy (U.putObj D (.deferred J)) (O D):=grownBy_putObj' U D _;have hkp:ax (λb=>b=R) w1 (U.putObj D (.deferred J)):=hI.d.d (G:=λb=>b=D) (eV g1 (λk e=>by simpa using e.symm)) (λi hi e=>by have e:i=D:=e;omega)
   have h':=hI.i (U':=U.putObj D (.deferred J)) hkp (λk c t f hk=>g1.block k (bP.1 hk).1 (λe=>by
    have e:k=D:=(by simpa using e);rw[e,X]at hk;cases hk))
   have hwNB:w.1.size<R:=(by have:=HNB.o.1;omega);refine⟨⟨q,cap,E,rfl,by rw[<-HL.o,<-HM.o];exact h'.l,?_,λg=>?_⟩,HBW.o.t (hkp.i HBW.o.size (λk hk e=>by have e:k=R:=e;omega))⟩
   ·have h1:E.length=(E.map (·.a)).length:=(by simp);rw[h1,hI.h];have h2:=List.length_filter_le (λg=>decide (0<aD g)) (ys.map (·.1));rw[jp]at h2;omega
   rw[hI.h,oW,HMEM.o g];simp
  clear hI hJ;go_wp2;refine⟨by simp,.inl ⟨_,_,rfl,run_takeDeferred X,?_⟩⟩;refine⟨M q E.length cap,?_,HFF.o⟩;simp[results,f195,go_sem]
 rintro D c pre U _ _ h _;exact h.elim
end
end
section
open Go.RowKit Go.Maps
theorem GL:(prog.info? 274).map (λi=>(i.zero,i.size,i.bytes))=O (O (.map J),1,8):=kr
theorem nG.d{V V':Ω}{s:Nat}{q:Option Addr}{z:List lV}{ep:Nat->List ai}{W g L n:Nat}(h:nG V q z ep W g L n)(r:ax (λb=>b=s) V V')(G:∀c t f,V.1[s]?≠O (Δ c t f)):nG V' q z ep W g L n where
 a:=λi x P=>by
  obtain⟨b,R,m,C,S,D,E⟩:=h.a i x P
  have y:∀(b j:Nat)(u:Value),V.cell? ⟨b,j,J⟩=O u->b≠s:=λb j u A e=>by
   subst e;cases ho:V.1[b]? with
  |none=>simp[World.cell?,ho]at A
  |some o=>
    cases o with
   |cells c t f=>exact G c t f ho
   |_=>simp[World.cell?,ho]at A
  have k:=r.b b m (y b _ _ C);refine⟨b,R,bg m r.c,by rw[bW (w:=V) k];exact C,by rw[bW (w:=V) k];exact S,by rw[bW (w:=V) k];exact D,⟨λj F=>?_⟩⟩;obtain⟨v,K,l,p⟩:=E.c j F;exact⟨v,K,bg l r.c,by rw[bW (w:=V) (r.b v l (y v _ _ p))];exact p⟩
structure jD (w2 V:Ω) (MB:Nat) (ep:Nat->List ai) (W need span score k:Nat) (f:Nat->ByteArray->ByteArray) (names:List ByteArray) (m:Nat):Prop where
 c:∃pf:ByteArray->ByteArray,je V MB m pf/\(∀g,g∈names.take m->ix aD (il ep W need span k g) score g (dM f k g) (pf g))/\(∀g,g∉names.take m->pf g=⟨#[]⟩)
 a:ax (λb=>b=MB) w2 V
theorem jD.d{l V V':Ω}{j:Nat}{ep:Nat->List ai}{W i g b k:Nat}{f:Nat->ByteArray->ByteArray}{e:List ByteArray}{m:Nat}(h:jD l V j ep W i g b k f e m)(o:B V.1.size V V'):jD l V' j ep W i g b k f e m where
 c:=by obtain⟨r,n,q,p⟩:=h.c;exact⟨r,n.a (o.block _ n.d),q,p⟩
 a:=h.a.a (bH o _)
theorem jD.e{s V V':Ω}{r:Nat}{ep:Nat->List ai}{W j l i k:Nat}{f:Nat->ByteArray->ByteArray}{d:List ByteArray}{m:Nat}{g p:ByteArray}(h:jD s V r ep W j l i k f d m)(E:d[m]?=O g)(v:ix aD (il ep W j l k g) i g (dM f k g) p)
  (C:ax (λb=>b=r) s V')(A:∀pf,je V r m pf->pf g=⟨#[]⟩\/pf g=p->je V' r (m+1) (λx=>if x=g then p else pf x)):jD s V' r ep W j l i k f d (m+1) where
 c:=by
  obtain⟨pf,D,w,t⟩:=h.c;have u:d.take (m+1)=d.take m++[g]:=by rw[jL,E];rfl
  refine⟨λx=>if x=g then p else pf x,A pf D ?_,λx n=>?_,λx n=>?_⟩
  ·by_cases q:g∈d.take m
   ·exact ah ((w g q).a v)
   exact af (t g q)
  ·by_cases o:x=g
   ·simp only[o,iP];exact v
   simp only[o,fL];rw[u]at n;rcases dP.1 n with n|n
   ·exact w x n
   exact absurd (by simpa using n) o
  rw[u]at n;have y:x≠g:=λe=>n (by rw[e];simp);have z:x∉d.take m:=λe=>n (rQ _ e);simp only[y,fL];exact t x z
 a:=C
theorem jD.h{r V:Ω}{p:Nat}{ep:Nat->List ai}{W i j b k:Nat}{f:Nat->ByteArray->ByteArray}{a:List ByteArray}(h:jD r V p ep W i j b k f a a.length)(t:∀g,g∈a↔(∃e,bz g (ep e)=true)/\0<aD g)(w:jj aD ep W i j b f k)(z:1<=b)(m:1<=i):∃l,je V p a.length l/\jj aD ep W i j b (mU f k l) (k+1):=by
 obtain⟨l,u,q,o⟩:=h.c;rw[eL]at q o;refine⟨l,u,w.d (λg=>?_)⟩;by_cases n:g∈a
 ·exact q g n
 rw[o g n];refine Nx ?_;by_cases s:aD g=0
 ·exact af s
 refine ah (λx=>?_);have y:¬∃e,bz g (ep e)=true:=λv=>n ((t g).2 ⟨v,om⟩);rw[Jl m (zH y)];omega
theorem EO{ep:Nat->List ai}{W d f a k:Nat}{g i p:ByteArray}{b:List ByteArray}{c:Nat}{o:Bool}(h:jH aD (il ep W d f k g) a g i b p c o)(l:∀g,g∈b↔(∃e,bz g (ep e)=true)/\0<aD g)(q:g∈b)(r:1<=a)(j:1<=d):ix aD (il ep W d f k g) a g i p:=by
 refine h.e ((l g).1 q).2 (λy s n=>(l y).2 ⟨?_,om⟩);by_cases m:∃e,bz y (ep e)=true
 ·exact m
 rw[Cv j (zH m)]at n;omega
section
variable {w:Ω}{tb xb:Nat}{who:Nat->Nat×ByteArray×Nat}{F:Nat->Prop}{W need n r span score k:Nat}{ep:Nat->List ai}{f:Nat->ByteArray->ByteArray}
structure td (w w':Ω) (xb tb:Nat) (F:Nat->Prop) (ep:Nat->List ai) (W need span score k:Nat):Prop where
 a:∃(F':Nat->Prop) (f':Nat->ByteArray->ByteArray),ga w' xb tb F' span score (k+1) f'/\jj aD ep W need span score f' (k+1)/\ax F w w'/\∀b,F' b->F b\/w.1.size<=b
theorem RQ(d:cd w tb who W need n r ep)(x:ga w xb tb F span score k f)(hT:dy w)(hP:jj aD ep W need span score f k)(hk0:k=0)(hk:k<n)(hW:W<=8)(hne:1<=need)(hn:n<=1000)(hr:r<=80000)(hs:∀g,(∃e,bz g (ep e)=true)->g.size<=100000)(h8:span<=8)(h1:1<=score)(h2:score<=8):
  Φ prog 149 #[Y (O ⟨xb,0,J⟩)] w λe w'=>e=N (.bool true)/\td w w' xb tb F ep W need span score k:=by
 obtain⟨iM,hiM,hzM,hsM,hbM⟩:=eb GL;have hmm:=@run_makeMap prog;have HD:=hid d;have HX:=hid x;have HT:=hid hT;have HP:=hid hP;have HS:=hid hs;obtain⟨xv,ms,xi⟩:=x.b;obtain⟨px,L,rfl,hmp⟩:=xi.m;have A:=hid xi;have c3:=xi.h;have c0:=xi.j;have hkI:(k:Int)<n:=om;have hkI':¬(n:Int)<=k:=om;have hkN':¬n<=k:=om;have hk9I:(k:Int)<=1000:=om;have hlen:=xi.g;have HLK:H (∀V g,B w.1.size w V->g.size<=100000->(Instr.lookup 274 (.map J) (Z g) false).run prog V=.ok (.agg #[Z (dM f k g)]) V):=λV g _ hg=>by have:=Ny g V hg;unfold dM;rw[ak hk0];exact this
 have hkz:¬(0:Int)<k:=om;have hkz':¬0<k:=om;have v:H (je (w.alloc (.map #[] 0)) w.1.size 0 (λ_=>⟨#[]⟩)/\B w.1.size w (w.alloc (.map #[] 0))/\w.1.size<(w.alloc (.map #[] 0)).1.size):=⟨je.j w,(aj _ w).l nl _,by simp⟩;have HCR:=hid (C7 k (d.a v.o.2.1) (x.c v.o.2.1) (hT.b v.o.2.1 hT.a) hW hn hk hr hs h8);clear d x hT hP hs hmp hlen xi hk0;go_enter func149,ntmps149;go_wp2_with fail;refine(yS HD.o).m ?_;rintro e w' ⟨rfl,rfl⟩;go_wp2_with fail;refine HCR.o.m ?_;rintro e w2 ⟨hcp,hb2⟩;obtain⟨q,cap,K,rfl,hcr,hcl,hnm⟩:=hcp.a;obtain⟨C,a6⟩:∃C,C=w'.1.size:=⟨_,rfl⟩;have HMB:=hid a6;have HCRS:=hid hcr;have HNM:=hid hnm;have HB2:=hid (v.o.2.1.t (hb2.m v.o.2.1.size));have HM2:H (je w2 C 0 (λ_=>⟨#[]⟩)):=by rw[a6];exact v.o.1.a (hb2.block _ v.o.2.2)
 obtain⟨s,hN⟩:∃s,s=K.length:=⟨_,rfl⟩;have HN:=hid hN;rw[<-hN]at hcl⊢;rw[<-a6];have hNI:(s:Int)<=80000:=om;have HLN:H (k+1-cu span k<=8):=by show _<=_;unfold cu;omega
 clear hcp hcr hnm hb2 hN a6 HCR v c0 c3;go_wp2;go_loopw [8,9,38] (λ_ _ i V=>∃m:Nat,m<=s/\i=I Q (m:Int)/\jD w2 V C ep W need span score k f (K.map (·.a)) m) (λ_ _ i _=>s-(intOf i).toNat)
 case atStart=>exact⟨0,aX _,rfl,⟨⟨_,HM2.o,λg hg=>by simp at hg,λg _=>rfl⟩,ax.j _ _⟩⟩
 case round=>
  obtain⟨m,hm,rfl,hI⟩:=hrel;have HI:=hid hI;have E:=hid (HB2.o.t (hI.a.i HB2.o.size (λb hb e=>by have e:b=C:=e;have:=HMB.o;omega)));have HCW:=hid (HCRS.o.d hI.a (HM2.o.h));by_cases hlt:m<s
  case neg=>
   have hmN:m=s:=om;subst hmN;have hII:¬(m:Int)<m:=om;have c3:wr.cell? ⟨xb,3,J⟩=O (M px k L):=(by rw[E.o.cell A.o.a];exact A.o.h);have c3':∀o,(wr.alloc o).cell? ⟨xb,3,J⟩=O (M px k L):=λo=>nW o c3
   have U:(wr.alloc (Δ #[.map (O C)] 274)).ownsRow 0 274 1 (M px k L) k (ms.map (λb=>Value.map (O b))):=aS A.o.d (λb hb=>by
    have hlt:=aU A.o.d hb;rw[cX wr _ _ (by have:=E.o.size;omega),E.o.block b hlt])
   go_wp2_with (at_builtin;refine iB _ rfl _ _ 222 rfl 0 274 iM (.map J) 1 8 underlying222 hiM hzM hsM hbM rfl dc _ _ _ rfl U ⟨wr.1.size,0,J⟩ 1 1 [.map (O C)] rfl rfl ?q1 ?q2 om ?q3 ?q4 ?q5 (wr.1.size+1) ?q6 ?_)
   try case q1=>
    intro i u hi
    match i,hi with
   |0,hi=>simp at hi;subst hi;simp[Addr.add]
   try case q2=>first|rfl|(intro u hu;simp at hu;subst hu;rfl)
   try case q3=>unfold maxLen;omega
   try case q4=>omega
   try case q5=>exact Nat.zero_le _
   try case q6=>simp
   intro g3 cv3 V3 hown3 G hat3 hlt3;obtain⟨pf,hpf,hprs⟩:=(show jD w2 wr C ep W need span score k f (K.map (·.a)) (K.map (·.a)).length by rw[jp,<-HN.o];exact HI.o).h HNM.o HP.o h1 hne;have hU:B w'.1.size w' (wr.alloc (Δ #[.map (O C)] 274)):=E.o.l E.o.size _;have hmU:je (wr.alloc (Δ #[.map (O C)] 274)) C 80000 pf:=(by have h:=hpf.a (w':=wr.alloc (Δ #[.map (O C)] 274)) (cX wr _ _ hpf.d);obtain⟨mm,D,h1',h2',a4⟩:=h.c;rw[jp,<-HN.o]at h2';exact⟨mm,D,h1',om,a4⟩);have hnx:=A.o.r (V3:=V3) (g:=g3) (cap:=cv3) (mb:=C) (pf:=pf) hU (by have:=HMB.o;omega) hmU (ah hown3) G (hat3.imp id (λh=>by rw[fi];omega)) rfl
   have HNX:H (td w' (V3.setCell ⟨xb,3,J⟩ (M (O ⟨g3,0,J⟩) (k+1) cv3)) xb tb F ep W need span score k):=⟨_,_,⟨_,_,hnx.1⟩,hprs,hnx.2,λb hb=>by
    rcases hb with h|h
    ·exact af h
    ·exact ah h.1⟩
   have hx3:V3.1[xb]?=O (Δ #[Y (O ⟨tb,0,J⟩),I Q (span:Int),I Q (score:Int),M px k L] 224):=(by rw[G.block xb (bg A.o.a hU.size) (λe=>(A.o.p e.symm).1 rfl),hU.block xb A.o.a];exact A.o.c);have k3:=dR (i:=3) hx3 rfl;have f3:=qC (i:=3) hx3;go_wp2;go_ret;exact⟨rfl,HNX.o⟩
  case pos=>
   have hmI:(m:Int)<s:=om;have P:m<K.length:=(by rw[<-HN.o];exact hlt);obtain⟨b,hqb,hblt,e0,e1,e2,U⟩:=HCW.o.a m _ (bc P);have a3:H ((K.map (·.a))[m]?=O K[m].a):=(by show _=_;rw[eE,bc P];rfl);generalize K[m]=y at *;obtain⟨z,yp,yc⟩:=y;simp only at e0 e1 e2 U a3;subst hqb;have hyn:=iW a3.o;have HYN:=hid hyn;have hyz:=HS.o z ((HNM.o z).1 hyn).1;obtain⟨X,hX⟩:∃X,X=wr.alloc (Δ #[Z z,I Q (aD z:Int),M yp (k+1-cu span k) yc] 279):=⟨_,rfl⟩;have a1:B wr.1.size wr X:=(by rw[hX];exact(aj _ wr).l nl _);have HBX:=hid (E.o.t (a1.m E.o.size));have hlk:=HLK.o (wr.alloc (Δ #[Z z,I Q (aD z:Int),M yp (k+1-cu span k) yc] 279)) z (by rw[<-hX];exact HBX.o) hyz;have HBE:H (Φ prog 196 #[Y (O ⟨xb,0,J⟩),.agg #[Z z,I Q (aD z:Int),M yp (k+1-cu span k) yc],M (O ⟨b,0,J⟩) s cap,.agg #[Z (dM f k z)]] X λe w'=>BJ e (λy=>dX (aI z ep W need) (aI y ep W need) (cu span k) (k+1-cu span k)) score z (dM f k z) (K.map (·.a))/\B X.1.size X w'):=(by rw[HN.o];exact FC z (dM f k z) yp yc (O ⟨b,0,J⟩) cap K (HX.o.c HBX.o) (U.a a1) (HCW.o.c a1) HLN.o (by rw[<-HN.o];omega) h1 h2);obtain⟨ky,a2⟩:∃ky,ky=aD z:=⟨_,rfl⟩;obtain⟨LN,R⟩:∃LN,LN=k+1-cu span k:=⟨_,rfl⟩;obtain⟨aw,a5⟩:∃aw,aw=dM f k z:=⟨_,rfl⟩;have HAW:H (aw=dM f k z/\LN=k+1-cu span k):=⟨a5,R⟩;rw[<-a2,<-R]at hlk hX;rw[<-a5]at hlk;rw[<-a2,<-R,<-a5]at HBE;rw[<-a2]at e1;rw[<-R]at e2;have HIX:=hid (HI.o.d a1);have hX':=hX;have hXc:X.1[wr.1.size]?=O (Δ #[Z z,I Q (ky:Int),M yp LN yc] 279):=(by rw[hX];exact bn wr _);have HXC:=hid hXc;clear U hyn hX a1 a2 R a5 hXc;go_wp2_with fail;rw[<-hX'];refine HBE.o.m ?_;rintro e w3 ⟨hbp,hb3⟩;obtain⟨p,c,wb,rfl,hBs,hc8⟩:=hbp.a;have HBS:H (jH aD (il ep W need span k z) score z (dM f k z) (K.map (·.a)) p c wb):=(by have h:=hBs;rw[HAW.o.1,HAW.o.2]at h;exact h);have a7:=hid (EO HBS.o HNM.o HYN.o h1 hne);have HC0:=hid (HBS.o.a h1 AC);have a0:H (∀o,jD w2 (w3.alloc o) C ep W need span score k f (K.map (·.a)) m):=λo=>(HIX.o.d hb3).d ((aj _ w3).l nl o);have k80:∀o,(w3.alloc o).cell? ⟨wr.1.size,0,J⟩=O (Z z):=λo=>nW o (aH hb3 (dR (i:=0) HXC.o rfl));have hcI:(c:Int)<=8:=om;by_cases hc0:c=0
   ·have hcI0:¬(0:Int)<c:=om;have hcN0:¬0<c:=om
    have HST:H (∀o,jD w2 (w3.alloc o) C ep W need span score k f (K.map (·.a)) (m+1)):=λo=>(a0.o o).e a3.o a7.o (a0.o o).a (λpf P T=>by
     have hp0:=HC0.o.1 hc0;obtain⟨mm,D,h1',h2',a4⟩:=P.c;refine⟨mm,D,h1',om,λx zd=>?_⟩;by_cases e:x=z
     ·rw[ak e,a4,e];rcases T with T|T
      ·rw[T,hp0]
      rw[T]
     ·rw[ag e];exact a4 x zd)
    go_wp2;go_roundw
    case rel=>exact⟨m+1,om,by go_num,HST.o _⟩
    simp[intOf];omega
   ·have hcI0:(0:Int)<c:=om;have hcN0:0<c:=om;obtain⟨o3,ho3⟩:∃o3,o3=Δ #[Z p,I Q (c:Int),.bool wb] 281:=⟨_,rfl⟩;obtain⟨pf0,hm0,_,_⟩:=(a0.o o3).c;have hpn:p≠⟨#[]⟩:=λe=>hc0 (HC0.o.2 e);obtain⟨w4,S,hm4,hg4⟩:=hm0.e z p hyz hpn om
    have HST:H (jD w2 w4 C ep W need span score k f (K.map (·.a)) (m+1)):=(a0.o o3).e a3.o a7.o ((a0.o o3).a.a (eV hg4 (λb e=>by simpa using e.symm))) (λpf P _=>by
     obtain⟨w5,hr5,hm5,_⟩:=P.e z p hyz hpn om;have e5:w5=w4:=(by rw[S]at hr5;simpa using hr5.symm);rw[<-e5];exact hm5)
    rw[ho3]at S;go_wp2;go_roundw
    case rel=>exact⟨m+1,om,by go_num,HST.o⟩
    simp[intOf];omega
theorem RT(d:cd w tb who W need n r ep)(x:ga w xb tb F span score k f)(hT:dy w)(hP:jj aD ep W need span score f k)(hk0:0<k)(hk:k<n)(hW:W<=8)(hne:1<=need)(hn:n<=1000)(hr:r<=80000)(hs:∀g,(∃e,bz g (ep e)=true)->g.size<=100000)(h8:span<=8)(h1:1<=score)(h2:score<=8):
  Φ prog 149 #[Y (O ⟨xb,0,J⟩)] w λe w'=>e=N (.bool true)/\td w w' xb tb F ep W need span score k:=by
 obtain⟨iM,hiM,hzM,hsM,hbM⟩:=eb GL;have hmm:=@run_makeMap prog;have HD:=hid d;have HX:=hid x;have HT:=hid hT;have HP:=hid hP;have HS:=hid hs;obtain⟨xv,ms,xi⟩:=x.b;obtain⟨px,L,rfl,hmp⟩:=xi.m;have A:=hid xi;have c3:=xi.h;have c0:=xi.j;have hkI:(k:Int)<n:=om;have hkI':¬(n:Int)<=k:=om;have hkN':¬n<=k:=om;have hk9I:(k:Int)<=1000:=om;have hlen:=xi.g;obtain⟨am,ham⟩:∃am,ms[k-1]?=O am:=⟨_,bc om⟩;obtain⟨gx,rfl,hcx⟩:=hmp (k-1) am ham;have hmx:=xi.i (k-1) am ham;obtain⟨k1,hk1⟩:∃k1,k=k1+1:=⟨k-1,om⟩;have HLK:H (∀V g,B w.1.size w V->g.size<=100000->(Instr.lookup 274 (.map (O am)) (Z g) false).run prog V=.ok (.agg #[Z (dM f k g)]) V):=λV g hV hg=>by have:=(hmx.a (hV.block _ hmx.d)).i g hg;unfold dM;rw[ag om];exact this
 have hcx':w.cell? ⟨gx,k1,J⟩=O (.map (O am)):=by rw[show k1=k-1 by omega];exact hcx
 have hkz:(0:Int)<k:=om;have hkz':0<k:=om;have hkp:(k:Int)-1=(k1:Int):=om;have hkp1:(k1:Int)<k:=om;have hkp2:k1<k:=om;clear hk1 ham hmx hcx;have v:H (je (w.alloc (.map #[] 0)) w.1.size 0 (λ_=>⟨#[]⟩)/\B w.1.size w (w.alloc (.map #[] 0))/\w.1.size<(w.alloc (.map #[] 0)).1.size):=⟨je.j w,(aj _ w).l nl _,by simp⟩;have HCR:=hid (C7 k (d.a v.o.2.1) (x.c v.o.2.1) (hT.b v.o.2.1 hT.a) hW hn hk hr hs h8);go_enter func149,ntmps149;go_wp2_with fail;refine(yS HD.o).m ?_;rintro e w' ⟨rfl,rfl⟩;go_wp2_with fail;refine HCR.o.m ?_;rintro e w2 ⟨hcp,hb2⟩;obtain⟨q,cap,K,rfl,hcr,hcl,hnm⟩:=hcp.a;obtain⟨C,a6⟩:∃C,C=w'.1.size:=⟨_,rfl⟩;have HMB:=hid a6;have HCRS:=hid hcr;have HNM:=hid hnm;have HB2:=hid (v.o.2.1.t (hb2.m v.o.2.1.size));have HM2:H (je w2 C 0 (λ_=>⟨#[]⟩)):=by rw[a6];exact v.o.1.a (hb2.block _ v.o.2.2)
 obtain⟨s,hN⟩:∃s,s=K.length:=⟨_,rfl⟩;have HN:=hid hN;rw[<-hN]at hcl⊢;rw[<-a6];have hNI:(s:Int)<=80000:=om;have HLN:H (k+1-cu span k<=8):=by show _<=_;unfold cu;omega
 clear hcp hcr hnm hb2 hN a6 HCR v c0 c3;go_wp2;go_loopw [8,9,38] (λ_ _ i V=>∃m:Nat,m<=s/\i=I Q (m:Int)/\jD w2 V C ep W need span score k f (K.map (·.a)) m) (λ_ _ i _=>s-(intOf i).toNat)
 case atStart=>exact⟨0,aX _,rfl,⟨⟨_,HM2.o,λg hg=>by simp at hg,λg _=>rfl⟩,ax.j _ _⟩⟩
 case round=>
  obtain⟨m,hm,rfl,hI⟩:=hrel;have HI:=hid hI;have E:=hid (HB2.o.t (hI.a.i HB2.o.size (λb hb e=>by have e:b=C:=e;have:=HMB.o;omega)));have HCW:=hid (HCRS.o.d hI.a (HM2.o.h));by_cases hlt:m<s
  case neg=>
   have hmN:m=s:=om;subst hmN;have hII:¬(m:Int)<m:=om;have c3:wr.cell? ⟨xb,3,J⟩=O (M (O ⟨gx,0,J⟩) k L):=(by rw[E.o.cell A.o.a];exact A.o.h);have c3':∀o,(wr.alloc o).cell? ⟨xb,3,J⟩=O (M (O ⟨gx,0,J⟩) k L):=λo=>nW o c3
   have U:(wr.alloc (Δ #[.map (O C)] 274)).ownsRow 0 274 1 (M (O ⟨gx,0,J⟩) k L) k (ms.map (λb=>Value.map (O b))):=aS A.o.d (λb hb=>by
    have hlt:=aU A.o.d hb;rw[cX wr _ _ (by have:=E.o.size;omega),E.o.block b hlt])
   go_wp2_with (at_builtin;refine iB _ rfl _ _ 222 rfl 0 274 iM (.map J) 1 8 underlying222 hiM hzM hsM hbM rfl dc _ _ _ rfl U ⟨wr.1.size,0,J⟩ 1 1 [.map (O C)] rfl rfl ?q1 ?q2 om ?q3 ?q4 ?q5 (wr.1.size+1) ?q6 ?_)
   try case q1=>
    intro i u hi
    match i,hi with
   |0,hi=>simp at hi;subst hi;simp[Addr.add]
   try case q2=>first|rfl|(intro u hu;simp at hu;subst hu;rfl)
   try case q3=>unfold maxLen;omega
   try case q4=>omega
   try case q5=>exact Nat.zero_le _
   try case q6=>simp
   intro g3 cv3 V3 hown3 G hat3 hlt3;obtain⟨pf,hpf,hprs⟩:=(show jD w2 wr C ep W need span score k f (K.map (·.a)) (K.map (·.a)).length by rw[jp,<-HN.o];exact HI.o).h HNM.o HP.o h1 hne;have hU:B w'.1.size w' (wr.alloc (Δ #[.map (O C)] 274)):=E.o.l E.o.size _;have hmU:je (wr.alloc (Δ #[.map (O C)] 274)) C 80000 pf:=(by have h:=hpf.a (w':=wr.alloc (Δ #[.map (O C)] 274)) (cX wr _ _ hpf.d);obtain⟨mm,D,h1',h2',a4⟩:=h.c;rw[jp,<-HN.o]at h2';exact⟨mm,D,h1',om,a4⟩);have hnx:=A.o.r (V3:=V3) (g:=g3) (cap:=cv3) (mb:=C) (pf:=pf) hU (by have:=HMB.o;omega) hmU (ah hown3) G (hat3.imp id (λh=>by rw[fi];omega)) rfl
   have HNX:H (td w' (V3.setCell ⟨xb,3,J⟩ (M (O ⟨g3,0,J⟩) (k+1) cv3)) xb tb F ep W need span score k):=⟨_,_,⟨_,_,hnx.1⟩,hprs,hnx.2,λb hb=>by
    rcases hb with h|h
    ·exact af h
    ·exact ah h.1⟩
   have hx3:V3.1[xb]?=O (Δ #[Y (O ⟨tb,0,J⟩),I Q (span:Int),I Q (score:Int),M (O ⟨gx,0,J⟩) k L] 224):=(by rw[G.block xb (bg A.o.a hU.size) (λe=>(A.o.p e.symm).1 rfl),hU.block xb A.o.a];exact A.o.c);have k3:=dR (i:=3) hx3 rfl;have f3:=qC (i:=3) hx3;go_wp2;go_ret;exact⟨rfl,HNX.o⟩
  case pos=>
   have hmI:(m:Int)<s:=om;have P:m<K.length:=(by rw[<-HN.o];exact hlt);obtain⟨b,hqb,hblt,e0,e1,e2,U⟩:=HCW.o.a m _ (bc P);have a3:H ((K.map (·.a))[m]?=O K[m].a):=(by show _=_;rw[eE,bc P];rfl);generalize K[m]=y at *;obtain⟨z,yp,yc⟩:=y;simp only at e0 e1 e2 U a3;subst hqb;have hyn:=iW a3.o;have HYN:=hid hyn;have hyz:=HS.o z ((HNM.o z).1 hyn).1;obtain⟨X,hX⟩:∃X,X=wr.alloc (Δ #[Z z,I Q (aD z:Int),M yp (k+1-cu span k) yc] 279):=⟨_,rfl⟩;have a1:B wr.1.size wr X:=(by rw[hX];exact(aj _ wr).l nl _);have HBX:=hid (E.o.t (a1.m E.o.size));have hlk:=HLK.o (wr.alloc (Δ #[Z z,I Q (aD z:Int),M yp (k+1-cu span k) yc] 279)) z (by rw[<-hX];exact HBX.o) hyz;have HBE:H (Φ prog 196 #[Y (O ⟨xb,0,J⟩),.agg #[Z z,I Q (aD z:Int),M yp (k+1-cu span k) yc],M (O ⟨b,0,J⟩) s cap,.agg #[Z (dM f k z)]] X λe w'=>BJ e (λy=>dX (aI z ep W need) (aI y ep W need) (cu span k) (k+1-cu span k)) score z (dM f k z) (K.map (·.a))/\B X.1.size X w'):=(by rw[HN.o];exact FC z (dM f k z) yp yc (O ⟨b,0,J⟩) cap K (HX.o.c HBX.o) (U.a a1) (HCW.o.c a1) HLN.o (by rw[<-HN.o];omega) h1 h2);obtain⟨ky,a2⟩:∃ky,ky=aD z:=⟨_,rfl⟩;obtain⟨LN,R⟩:∃LN,LN=k+1-cu span k:=⟨_,rfl⟩;obtain⟨aw,a5⟩:∃aw,aw=dM f k z:=⟨_,rfl⟩;have HAW:H (aw=dM f k z/\LN=k+1-cu span k):=⟨a5,R⟩;rw[<-a2,<-R]at hlk hX;rw[<-a5]at hlk;rw[<-a2,<-R,<-a5]at HBE;rw[<-a2]at e1;rw[<-R]at e2;have HIX:=hid (HI.o.d a1);have hX':=hX;have hXc:X.1[wr.1.size]?=O (Δ #[Z z,I Q (ky:Int),M yp LN yc] 279):=(by rw[hX];exact bn wr _);have HXC:=hid hXc;clear U hyn hX a1 a2 R a5 hXc;go_wp2_with fail;rw[<-hX'];refine HBE.o.m ?_;rintro e w3 ⟨hbp,hb3⟩;obtain⟨p,c,wb,rfl,hBs,hc8⟩:=hbp.a;have HBS:H (jH aD (il ep W need span k z) score z (dM f k z) (K.map (·.a)) p c wb):=(by have h:=hBs;rw[HAW.o.1,HAW.o.2]at h;exact h);have a7:=hid (EO HBS.o HNM.o HYN.o h1 hne);have HC0:=hid (HBS.o.a h1 AC);have a0:H (∀o,jD w2 (w3.alloc o) C ep W need span score k f (K.map (·.a)) m):=λo=>(HIX.o.d hb3).d ((aj _ w3).l nl o);have k80:∀o,(w3.alloc o).cell? ⟨wr.1.size,0,J⟩=O (Z z):=λo=>nW o (aH hb3 (dR (i:=0) HXC.o rfl));have hcI:(c:Int)<=8:=om;by_cases hc0:c=0
   ·have hcI0:¬(0:Int)<c:=om;have hcN0:¬0<c:=om
    have HST:H (∀o,jD w2 (w3.alloc o) C ep W need span score k f (K.map (·.a)) (m+1)):=λo=>(a0.o o).e a3.o a7.o (a0.o o).a (λpf P T=>by
     have hp0:=HC0.o.1 hc0;obtain⟨mm,D,h1',h2',a4⟩:=P.c;refine⟨mm,D,h1',om,λx zd=>?_⟩;by_cases e:x=z
     ·rw[ak e,a4,e];rcases T with T|T
      ·rw[T,hp0]
      rw[T]
     ·rw[ag e];exact a4 x zd)
    go_wp2;go_roundw
    case rel=>exact⟨m+1,om,by go_num,HST.o _⟩
    simp[intOf];omega
   ·have hcI0:(0:Int)<c:=om;have hcN0:0<c:=om;obtain⟨o3,ho3⟩:∃o3,o3=Δ #[Z p,I Q (c:Int),.bool wb] 281:=⟨_,rfl⟩;obtain⟨pf0,hm0,_,_⟩:=(a0.o o3).c;have hpn:p≠⟨#[]⟩:=λe=>hc0 (HC0.o.2 e);obtain⟨w4,S,hm4,hg4⟩:=hm0.e z p hyz hpn om
    have HST:H (jD w2 w4 C ep W need span score k f (K.map (·.a)) (m+1)):=(a0.o o3).e a3.o a7.o ((a0.o o3).a.a (eV hg4 (λb e=>by simpa using e.symm))) (λpf P _=>by
     obtain⟨w5,hr5,hm5,_⟩:=P.e z p hyz hpn om;have e5:w5=w4:=(by rw[S]at hr5;simpa using hr5.symm);rw[<-e5];exact hm5)
    rw[ho3]at S;go_wp2;go_roundw
    case rel=>exact⟨m+1,om,by go_num,HST.o⟩
    simp[intOf];omega
theorem OI(d:cd w tb who W need n r ep)(x:ga w xb tb F span score k f)(p:dy w)(h:jj aD ep W need span score f k)(b:k<n)(q:W<=8)(a:1<=need)(c:n<=1000)(l:r<=80000)(j:∀g,(∃e,bz g (ep e)=true)->g.size<=100000)(i:span<=8)(m:1<=score)(o:score<=8):
  Φ prog 149 #[Y (O ⟨xb,0,J⟩)] w λe t=>e=N (.bool true)/\td w t xb tb F ep W need span score k:=by
 by_cases s:k=0
 ·exact RQ d x p h s b q a c l j i m o
 exact RT d x p h om b q a c l j i m o
end
end
section
open Go.RowKit Go.Maps
theorem KB{E:List (List ai)}{k:Nat}(c:sP E=true):∀g,(∃e,bz g (al (E.take k) e)=true)->g.size<=100000:=by
 rintro g ⟨e,h⟩;obtain⟨x,a,rfl⟩:=re.1 h;by_cases b:e<(E.take k).length
 ·have d:=List.mem_of_mem_take (zQ b);have f:=pb.1 ((kY.1 c).2 _ d);have:=f.2 x a;omega
 rw[wU _ om]at a;exact absurd a nj
section
variable {w:Ω}{rb:Nat}{F:Nat->Prop}{W need q:Nat}{E:List (List ai)}
theorem OV(g h:ByteArray)(e f:Nat)(d:aO w rb F W need q E)(he:e<E.length)(hW:W<=8)(h8:f<=8)(hg:g.size<=100000)(hh:h.size<=100000)(hq:q<=9000000000000):
  Φ prog 118 #[Y (O ⟨rb,0,J⟩),Z g,Z h,I Q (e:Int),I Q (f:Int)] w λx r=>x=N (I Q ((il (al E) W need f e g h:Nat):Int))/\aO r rb F W need (q+16) E/\ax F w r:=by
 have h25:=(kY.1 d.e).1;have HD:=hid d;have hSI:(f:Int)<=8:=om;have heI:(e:Int)<=1000:=om;have hml:=@xP f e;unfold il;obtain⟨L,hL⟩:∃L,L=cu f e:=⟨_,rfl⟩;have hL1:L<=e+1:=by rw[hL];unfold cu;omega
 have hL8:e+1-L<=8:=by rw[hL];unfold cu;omega
 rw[<-hL]at hml⊢;obtain⟨c,hM⟩:∃c,c=e+1-L:=⟨_,rfl⟩;have D:=hid hM;obtain⟨u,hu⟩:∃u,u=aI g (al E) W need:=⟨_,rfl⟩;obtain⟨v,hv⟩:∃v,v=aI h (al E) W need:=⟨_,rfl⟩;rw[<-hM,<-hu,<-hv];rw[<-hM]at hL8;have HAG:H (∀V i n,aO V rb F W need n E->n<=9000000100000->i<=e->Φ prog 61 #[Y (O ⟨rb,0,J⟩),Z g,I Q ((i:Nat):Int)] V λx r=>x=N (I Q (u i))/\aO r rb F W need (n+1) E/\ax F V r):=λV i n T C hi=>by rw[hu];exact vF g i T om hW hg om
 have HAH:H (∀V i n,aO V rb F W need n E->n<=9000000100000->i<=e->Φ prog 61 #[Y (O ⟨rb,0,J⟩),Z h,I Q ((i:Nat):Int)] V λx r=>x=N (I Q (v i))/\aO r rb F W need (n+1) E/\ax F V r):=λV i n T C hi=>by rw[hv];exact vF h i T om hW hh om
 clear hL hM hu hv d h25 he;go_enter func118,ntmps118;go_wp2;go_loopw [11,12,13] (λnn i _ V=>∃j:Nat,j<=c/\i=I Q ((L+j:Nat):Int)/\nn=I Q ((dX u v L j:Nat):Int)/\aO V rb F W need (q+2*j) E/\ax F w V) (λ_ i _ _=>c-((intOf i).toNat-L))
 case atStart=>exact⟨0,aX _,rfl,rfl,HD.o,ax.j _ _⟩
 obtain⟨j,hj,rfl,rfl,hR,hK⟩:=hrel;have HR:=hid hR;have HK:=hid hK;by_cases G:L+j<=e
 case neg=>have hjM:j=c:=(by have:=D.o;omega);have hI:¬((L+j:Nat):Int)<=e:=om;subst hjM;go_wp2;go_ret;exact⟨rfl,HR.o.a om,HK.o⟩
 have hI:((L+j:Nat):Int)<=e:=om;obtain⟨b,s⟩:∃b,b=L+j:=⟨_,rfl⟩;rw[<-s]at hI G⊢;have k:=hid s;have hI14:(b:Int)<=1000:=om;have htl:=vW u v L j;have htI:((dX u v L j:Nat):Int)<=8:=om
 have z:H (dX u v L (j+1)=if 0<=u b/\u b=v b then dX u v L j+1 else dX u v L j):=by
  show _=_;rw[s];by_cases l:0<=u (L+j)/\u (L+j)=v (L+j)
  ·rw[ak l];exact FW l
  rw[ag l];exact Bq l
 have y:=HAG.o wr b _ HR.o om G;have y:=hid y;have X:H (∀V n,aO V rb F W need n E->n<=9000000100000->Φ prog 61 #[Y (O ⟨rb,0,J⟩),Z h,I Q ((b:Nat):Int)] V λx r=>x=N (I Q (v b))/\aO r rb F W need (n+1) E/\ax F V r):=λV n T C=>HAH.o V b n T C G;obtain⟨A,K⟩:∃A,A=u b:=⟨_,rfl⟩;obtain⟨S,P⟩:∃S,S=v b:=⟨_,rfl⟩;rw[<-K,<-P]at z;rw[<-K]at y;rw[<-P]at X;clear s K P;go_wp2_with fail;refine ac y.o ?_;rintro x w1 ⟨rfl,hr1,hk1⟩;have R:=hid hr1;have U:=hid (HK.o.a hk1);by_cases h0:0<=A
 ·have h0d:decide (0<=A)=true:=(by simpa using h0);go_wp2_with fail;refine(X.o w1 _ R.o om).m ?_;rintro x w2 ⟨rfl,hr2,hk2⟩;have t:H (aO w2 rb F W need (q+2*(j+1)) E):=hr2.a om;have a0:=hid (U.o.a hk2);by_cases l:A=S
  ·have hEq:(S == A)=true:=(by simpa using l.symm);have p:H (dX u v L (j+1)=dX u v L j+1):=(by have:=z.o;rw[ak ⟨h0,l⟩]at this;exact this);go_wp2;go_roundw
   case rel=>exact⟨j+1,by have:=D.o;have:=k.o;omega,by rw[k.o];go_num,by rw[p.o];go_num,t.o,a0.o⟩
   have h1:=k.o;have h2:=D.o;simp[intOf];omega
  have hEq:(S == A)=false:=(by simp;exact λe=>l e.symm);have p:H (dX u v L (j+1)=dX u v L j):=(by have:=z.o;rw[ag (λh=>l h.2)]at this;exact this);go_wp2;go_roundw
  case rel=>exact⟨j+1,by have:=D.o;have:=k.o;omega,by rw[k.o];go_num,by rw[p.o],t.o,a0.o⟩
  have h1:=k.o;have h2:=D.o;simp[intOf];omega
 have h0d:decide (0<=A)=false:=(by simpa using h0);have p:H (dX u v L (j+1)=dX u v L j):=(by have:=z.o;rw[ag (λh=>h0 h.1)]at this;exact this);have t:H (aO w1 rb F W need (q+2*(j+1)) E):=R.o.a om;go_wp2;go_roundw
 case rel=>exact⟨j+1,by have:=D.o;have:=k.o;omega,by rw[k.o];go_num,by rw[p.o],t.o,U.o⟩
 have h1:=k.o;have h2:=D.o;simp[intOf];omega
end
structure lW (s:ByteArray) (T:ByteArray->Nat) (l:List ByteArray) (m:Nat):Prop where
 b:m=0\/∃h,h∈l/\0<aD s/\aD s<aD h/\T h=m
 a:∀h,h∈l->0<aD s->aD s<aD h->T h<=m
theorem lW.g{s:ByteArray}{T:ByteArray->Nat}:lW s T [] 0:=⟨af rfl,λ_ a=>absurd a nj⟩
theorem lW.c{s x:ByteArray}{T:ByteArray->Nat}{l:List ByteArray}{m:Nat}(h:lW s T l m)(g:¬(0<aD s/\aD s<aD x)):lW s T (l++[x]) m:=by
 refine⟨?_,λy d e f=>?_⟩
 ·rcases h.b with h|⟨y,d,e⟩
  ·exact af h
  exact ah ⟨y,rQ _ d,e⟩
 rcases dP.1 d with d|d
 ·exact h.a y d e f
 have:y=x:=(by simpa using d);rw[this]at f;exact absurd ⟨e,f⟩ g
theorem lW.e{s x:ByteArray}{T:ByteArray->Nat}{l:List ByteArray}{m:Nat}(h:lW s T l m)(g:0<aD s)(i:aD s<aD x):lW s T (l++[x]) (max m (T x)):=by
 refine⟨?_,λy c d f=>?_⟩
 ·rcases Nat.le_total m (T x) with hm|hm
  ·exact ah ⟨x,by simp,g,i,(Nat.max_eq_right hm).symm⟩
  rw[Nat.max_eq_left hm];rcases h.b with h|⟨y,c,h5⟩
  ·exact af h
  exact ah ⟨y,rQ _ c,h5⟩
 rcases dP.1 c with c|c
 ·have:=h.a y c d f;omega
 have:y=x:=(by simpa using c);rw[this];omega
structure mF (s:ByteArray) (T:ByteArray->Nat) (m:Nat) (was:ByteArray) (l:List ByteArray) (out:ByteArray):Prop where
 a:∀h,h∈l->aD s<aD h->T h=m->h≠was
 b:(out=⟨#[]⟩/\∀h,h∈l->aD s<aD h->T h≠m)\/(out∈l/\aD s<aD out/\T out=m/\∀h,h∈l->aD s<aD h->T h=m->h=out\/out.toList<h.toList)
section
variable {s was out x:ByteArray}{T:ByteArray->Nat}{l:List ByteArray}{m:Nat}
theorem mF.g:mF s T m was [] ⟨#[]⟩:=⟨λ_ a=>absurd a nj,af ⟨rfl,λ_ a=>absurd a nj⟩⟩
theorem mF.c(h:mF s T m was l out)(o:¬(aD s<aD x/\T x=m)):mF s T m was (l++[x]) out:=by
 have g:∀y,y∈l++[x]->aD s<aD y->T y=m->y∈l:=λy d e f=>by
  rcases dP.1 d with d|d
  ·exact d
  have:y=x:=(by simpa using d);rw[this]at e f;exact absurd ⟨e,f⟩ o
 refine⟨λy d e f=>h.a y (g y d e f) e f,?_⟩;rcases h.b with ⟨e,f⟩|⟨e,f,i,j⟩
 ·exact af ⟨e,λy d i j=>f y (g y d i j) i j⟩
 exact ah ⟨rQ _ e,f,i,λy d n k=>j y (g y d n k) n k⟩
theorem mF.d(h:mF s T m was l out)(j:out=⟨#[]⟩)(i:aD s<aD x)(k:T x=m)(n:x≠was):mF s T m was (l++[x]) x:=by
 have g:∀y,y∈l->aD s<aD y->T y≠m:=by
  rcases h.b with ⟨_,e⟩|⟨_,e,_⟩
  ·exact e
  rw[j,AC]at e;omega
 refine⟨λy c e f=>?_,ah ⟨by simp,i,k,λy c e f=>?_⟩⟩
 ·rcases dP.1 c with c|c
  ·exact h.a y c e f
  have:y=x:=(by simpa using c);rw[this];exact n
 rcases dP.1 c with c|c
 ·exact absurd f (g y c e)
 exact af (by simpa using c)
theorem mF.e(h:mF s T m was l out)(i:out≠⟨#[]⟩)(j:x≠was)(g:∀y,y∈l->y.toList<x.toList):mF s T m was (l++[x]) out:=by
 rcases h.b with ⟨h1,_⟩|⟨h1,h2,h3,h4⟩
 ·exact absurd h1 i
 refine⟨λy c f d=>?_,ah ⟨rQ _ h1,h2,h3,λy c f d=>?_⟩⟩
 ·rcases dP.1 c with c|c
  ·exact h.a y c f d
  have:y=x:=(by simpa using c);rw[this];exact j
 rcases dP.1 c with c|c
 ·exact h4 y c f d
 have:y=x:=(by simpa using c);rw[this];exact ah (g out h1)
theorem QC{b:Nat}(h:lW s T l m)(d:∀y,y∉l->T y=0)(g:1<=b)(i:m<b):ix aD T b s was ⟨#[]⟩:=by
 refine af ⟨rfl,λy f e=>?_⟩;by_cases c:y∈l
 ·have:=h.a y c f e;omega
 rw[d y c];omega
theorem QE{b:Nat}(h:lW s T l m)(e:∀y,y∉l->T y=0)(k:1<=b)(n:b<=m)(c:0<aD s)(i:aD s<aD was)(j:T was=m):ix aD T b s was was:=by
 refine ah ⟨⟨c,i⟩,om,λy g f=>?_⟩;by_cases d:y∈l
 ·have:=h.a y d c g;rcases gQ (T y) m with h6|h6
  ·exact af om
  exact ah ⟨om,ah (af rfl)⟩
 rw[e y d]at f;omega
theorem QD{c:Nat}(h:lW s T l m)(k:mF s T m was l out)(n:∀y,y∉l->T y=0)(q:1<=c)(r:c<=m):ix aD T c s was out:=by
 obtain⟨z,p,i,f,g⟩:∃h,h∈l/\0<aD s/\aD s<aD h/\T h=m:=by
  rcases h.b with h|h
  ·omega
  exact h
 rcases k.b with ⟨_,h2⟩|⟨h2,h3,h4,h5⟩
 ·exact absurd g (h2 z p f)
 refine ah ⟨⟨i,h3⟩,om,λy e o=>?_⟩;by_cases d:y∈l
 ·have:=h.a y d i e;rcases gQ (T y) m with h8|h8
  ·exact af om
  have j:T y=m:=om;refine ah ⟨om,?_⟩;rcases h5 y d e j with h10|h10
  ·exact af h10
  exact ah (ah ⟨k.a y d e j,h10⟩)
 rw[n y d]at o;omega
theorem lW.d{a:Nat}(h:lW s T l m)(c:1<=a)(e:a<=m): 0<aD s:=by
 rcases h.b with h|⟨_,_,h,_⟩
 ·omega
 exact h
end
structure uQ (V:Ω) (F:Nat->Prop) (p:Option Addr) (L:List ByteArray):Prop where
 a:∀i s,L[i]?=O s->∃g,p=O ⟨g,0,J⟩/\V.cell? ⟨g,i,J⟩=O (Z s)/\¬F g/\g<V.1.size
theorem uQ.b{V V':Ω}{F:Nat->Prop}{p:Option Addr}{L:List ByteArray}(h:uQ V F p L)(f:ax F V V'):uQ V' F p L where
 a:=λi s l=>by obtain⟨g,k,j,e,d⟩:=h.a i s l;exact⟨g,k,by rw[bW (f.b g d e)];exact j,e,bg d f.c⟩
theorem Gf{V:Ω}{a:Nat}{F:Nat->Prop}{v:Value}{L:List ByteArray}(h:V.ownsRow a 9 1 v L.length (L.map cH))(d:∀b,F b->b<a):∃p c,v=M p L.length c/\uQ V F p L:=by
 rcases Nat.eq_zero_or_pos L.length with h0|h0
 ·have:L=[]:=iG.1 h0;subst this;rcases h.2 with ⟨rfl,_⟩|⟨g,c,cur,hv,_⟩
  ·exact⟨J,0,rfl,⟨λi y h=>by simp at h⟩⟩
  exact⟨_,c,hv,⟨λi y h=>by simp at h⟩⟩
 obtain⟨g,c,rfl,l,f⟩:=h.form h0;refine⟨O ⟨g,0,J⟩,c,rfl,⟨λj x k=>⟨g,rfl,?_,λe=>by have:=d g e;omega,f⟩⟩⟩;have:=h.cells (g:=g) rfl j (Z x) (by simp[k,cH]);rw[dD]at this;exact this
structure Hr (x:Ending) (w w':Ω) (rb:Nat) (F:Nat->Prop) (W need q:Nat) (E:List (List ai)) (T:ByteArray->Nat) (score:Nat) (s was:ByteArray):Prop where
 b:∃p,x=N (Z p)/\ix aD T score s was p
 c:aO w' rb F W need (q+20000) E
 a:ax F w w'
theorem Mu{L:List ByteArray}{i:Nat}{x y:ByteArray}(h:L.Pairwise (λa b=>a.toList<b.toList))(l:L[i]?=O x)(hy:y∈L.take i):y.toList<x.toList:=by
 obtain⟨j,d⟩:=List.mem_iff_getElem?.1 hy;have c:j<i:=by have:=(gD.1 d).1;rw[fj]at this;omega
 rw[rK c]at d;obtain⟨e,f⟩:=gD.1 d;obtain⟨g,k⟩:=gD.1 l;have:=List.pairwise_iff_getElem.1 h j i e g c;rw[f,k]at this;exact this
section
variable {w:Ω}{rb:Nat}{F:Nat->Prop}{W need q:Nat}{E:List (List ai)}
theorem Jt(s u:ByteArray)(e C n:Nat)(d:aO w rb F W need q E)(he:e<E.length)(hW:W<=8)(hne:1<=need)(hp1:1<=C)(h8:C<=8)(h1:1<=n)(h2:n<=8)(hs:s.size<=100000)(hK:∀L:List ByteArray,L.Pairwise (λa b=>a.toList<b.toList)->(∀g,g∈L->aG g E=true)->L.length<=625)(hq:q<=8000000000000):
  Φ prog 88 #[Y (O ⟨rb,0,J⟩),Z s,I Q (e:Int),I Q (C:Int),I Q (n:Int),Z u] w λx w'=>Hr x w w' rb F W need q E (il (al E) W need C e s) n s u:=by
 have HD:H (aO w rb F W need q E):=d;have hgood:=d.e;obtain⟨pe,ce,hv⟩:=d.g;have c2:=hv.a;have HTG:H (Φ prog 53 #[Y (O ⟨rb,0,J⟩),I Q (E.length:Int)] w λe w'=>∃v,e=N v/\∃L,qB w' w.1.size v L/\L.length<=625/\(∀g,g∈L↔aG g E=true)/\B w.1.size w w'):=(Ml hv).m (λe w' h=>by obtain⟨v,h1,L,h2,_,h4,h5⟩:=h;exact⟨v,h1,L,h2,hK L h2.d (λg hg=>(h4 g).1 hg),h4,h5⟩);obtain⟨T,hT⟩:∃T,T=il (al E) W need C e s:=⟨_,rfl⟩;have HT:H (T=il (al E) W need C e s):=hT;rw[<-hT];have HT8:H (∀y,T y<=8):=λy=>by rw[hT];exact Rm _ _ _ _ _ _ _ hp1 h8
 have HKS:H (∀V,Φ prog 84 #[Z s] V λe w'=>e=N (I Q (aD s:Int))/\B V.1.size V w'):=λV=>vu s V hs;have HTO:H (∀V y q',aO V rb F W need q' E->y.size<=100000->q'<=9000000000000->Φ prog 118 #[Y (O ⟨rb,0,J⟩),Z s,Z y,I Q (e:Int),I Q (C:Int)] V λx w'=>x=N (I Q ((T y:Nat):Int))/\aO w' rb F W need (q'+16) E/\ax F V w'):=λV y q' hV hy hq'=>by rw[hT];exact OV s y e C hV he hW h8 hs hy hq'
 have hsI:(n:Int)<=8:=om;obtain⟨ks,hks⟩:∃ks,ks=aD s:=⟨_,rfl⟩;have K:H (ks=aD s):=hks;rw[<-hks]at HKS;have hks3:(ks:Int)<=3:=by have:=vO s;omega
 clear hT hv d hks;go_enter func88,ntmps88;go_wp2_with fail;refine HTG.o.m ?_;rintro x w1 ⟨v,rfl,L,hT1,hl1,hm1,hb1⟩;obtain⟨pL,cL,rfl,hts⟩:=Gf hT1.c (λb hb=>HD.o.f hb);have HTS:H (uQ w1 F pL L):=hts;have HSRT:H (L.Pairwise (λa b=>a.toList<b.toList)):=hT1.d;have HM1:H (∀g,g∈L↔aG g E=true):=hm1;have HR1:H (aO w1 rb F W need q E):=HD.o.c hb1;have HK1:H (ax F w w1):=bH hb1 F;have HLS:H (∀y,y∈L->y.size<=100000):=λy hy=>by obtain⟨e',h'⟩:=vm.1 ((hm1 y).1 hy);have:=KB (k:=E.length) hgood;rw[eL]at this;exact this y ⟨e',h'⟩
 have H0:H (∀y,y∉L->T y=0):=λy hy=>by rw[HT.o];refine Cv hne (zH (λh=>hy ((hm1 y).2 (vm.2 h))))
 obtain⟨l,hN⟩:∃l,l=L.length:=⟨_,rfl⟩;have HN:H (l=L.length):=hN;rw[<-hN]at hl1⊢;have hNI:(l:Int)<=625:=om;clear hts hT1 hm1 hb1 hN HTG c2 hgood;go_wp2;go_loopw [14,15] (λmm i V=>∃j m:Nat,j<=l/\i=I Q (j:Int)/\mm=I Q (m:Int)/\m<=8/\lW s T (L.take j) m/\aO V rb F W need (q+16*j) E/\ax F w1 V) (λ_ i _=>l-(intOf i).toNat)
 case atStart=>exact⟨0,0,aX _,rfl,rfl,om,by rw[List.take_zero];exact lW.g,HR1.o,ax.j _ _⟩
 obtain⟨j,m,hj,rfl,rfl,hm8,hMx,hR,hK⟩:=hrel;have HMX:H (lW s T (L.take j) m):=hMx;have HR:H (aO wr rb F W need (q+16*j) E):=hR;have HK:H (ax F w1 wr):=hK;have hm8I:(m:Int)<=8:=om;clear hMx hR hK;by_cases hlt:j<l
 case pos=>
  have hjI:(j:Int)<l:=om;have hj':j<L.length:=(by rw[<-HN.o];exact hlt);obtain⟨gL,hpL,hcL,hFg,hgl⟩:=(HTS.o.b HK.o).a j _ (bc hj');have a0:H (L.take (j+1)=L.take j++[L[j]]):=(by show _=_;rw[jL,bc hj'];rfl);have hyz:L[j].size<=100000:=HLS.o _ (eG hj');generalize L[j]=y at *;subst hpL;have HCL:H (∀V,B wr.1.size wr V->V.cell? ⟨gL,j,J⟩=O (Z y)):=λV hV=>(by rw[hV.cell hgl];exact hcL);by_cases hk0:0<ks
  case neg=>
   have hk0I:¬(0:Int)<ks:=om;have A:H (lW s T (L.take (j+1)) m):=(by rw[a0.o];exact HMX.o.c (λh=>by have:=K.o;omega));go_wp2_with fail;refine(HKS.o _).m ?_;rintro x w2 ⟨rfl,a2⟩;have HR2:H (aO w2 rb F W need (q+16*(j+1)) E):=(HR.o.c a2).a om;have HK2:H (ax F w1 w2):=HK.o.a (bH a2 F);clear a2;go_wp2;go_roundw
   case rel=>exact⟨j+1,m,om,by go_num,rfl,hm8,A.o,HR2.o,HK2.o⟩
   simp[intOf];omega
  have hk0I:(0:Int)<ks:=om;obtain⟨U,a1⟩:∃U,U=aD y:=⟨_,rfl⟩;have HKY:H (∀V,Φ prog 84 #[Z y] V λe w'=>e=N (I Q (U:Int))/\B V.1.size V w'):=λV=>(by rw[a1];exact vu y V hyz);have S:H (U=aD y):=a1;have hky3:(U:Int)<=3:=(by have:=vO y;omega);clear a1;go_wp2_with fail;refine(HKS.o _).m ?_;rintro x w2 ⟨rfl,a2⟩;have HB2:H (B wr.1.size wr w2):=a2;have hc2:=HCL.o w2 a2;clear a2;go_wp2_with fail;refine(HKY.o _).m ?_;rintro x w3 ⟨rfl,hb3⟩;have HB3:H (B wr.1.size wr w3):=HB2.o.t (hb3.m HB2.o.size);clear hb3 hc2;go_wp2_with fail;refine(HKS.o _).m ?_;rintro x w4 ⟨rfl,hb4⟩;have a4:H (B wr.1.size wr w4):=HB3.o.t (hb4.m HB3.o.size);have hc4:=HCL.o w4 a4.o;have HR4:H (aO w4 rb F W need (q+16*j) E):=HR.o.c a4.o;have HK4:H (ax F w1 w4):=HK.o.a (bH a4.o F);clear hb4;by_cases hkk:ks<U
  case neg=>
   have hkkI:¬(ks:Int)<U:=om;have A:H (lW s T (L.take (j+1)) m):=(by rw[a0.o];exact HMX.o.c (λh=>by have h3:=K.o;have h4:=S.o;omega));have G:H (aO w4 rb F W need (q+16*(j+1)) E):=HR4.o.a om;go_wp2;go_roundw
   case rel=>exact⟨j+1,m,om,by go_num,rfl,hm8,A.o,G.o,HK4.o⟩
   simp[intOf];omega
  have hkkI:(ks:Int)<U:=om;have A:H (lW s T (L.take (j+1)) (max m (T y))):=(by rw[a0.o];exact HMX.o.e (by have:=K.o;omega) (by have h3:=K.o;have h4:=S.o;omega));have D:=HTO.o w4 y _ HR4.o hyz om;have D:H _:=D;obtain⟨X,R⟩:∃X,X=T y:=⟨_,rfl⟩;have hty8:X<=8:=(by rw[R];exact HT8.o y);have htyI:(X:Int)<=8:=om;rw[<-R]at A D;obtain⟨mx,hmxe⟩:∃mx,mx=max m X:=⟨_,rfl⟩;have hmx:max (m:Int) (X:Int)=(mx:Int):=(by rw[hmxe];omega);have hmx8:mx<=8:=(by rw[hmxe];omega);rw[<-hmxe]at A;clear R hmxe;go_wp2_with fail;refine ac D.o ?_;rintro x w5 ⟨rfl,hr5,hk5⟩;have G:H (aO w5 rb F W need (q+16*(j+1)) E):=hr5.a om;have P:H (ax F w1 w5):=HK4.o.a hk5;clear hr5 hk5 D;go_wp2;go_roundw
  case rel=>exact⟨j+1,mx,om,by go_num,by first|rfl|(rw[hmx]),hmx8,A.o,G.o,P.o⟩
  simp[intOf];omega
 have hjN:j=l:=om;subst hjN;have hII:¬(j:Int)<j:=om;have HMA:H (lW s T L m):=(by have:=HMX.o;rw[HN.o,eL]at this;exact this);by_cases hms:n<=m
 case neg=>
  have hmsI:¬(n:Int)<=m:=om;have HPR:H (ix aD T n s u ⟨#[]⟩):=QC HMA.o H0.o h1 om;go_wp2;go_loopw [16,17] (λo i V=>i=I Q ((0:Nat):Int)/\o=Z ⟨#[]⟩/\V=wr) (λ_ _ _=>0)
  case atStart=>exact⟨rfl,rfl,rfl⟩
  obtain⟨rfl,rfl,rfl⟩:=hrel;by_cases h0N:0<j
  ·have h0I:(0:Int)<j:=om;go_wp2;go_ret;exact⟨⟨_,rfl,HPR.o⟩,HR.o.a om,HK1.o.a HK.o⟩
  have h0I:¬(0:Int)<j:=om;go_wp2;go_ret;exact⟨⟨_,rfl,HPR.o⟩,HR.o.a om,HK1.o.a HK.o⟩
 have hmsI:(n:Int)<=m:=om;have HKP:H (0<aD s):=HMA.o.d h1 hms;go_wp2;go_loopw [16,17] (λo i V=>∃(r:Nat) (p:ByteArray),r<=j/\i=I Q (r:Int)/\o=Z p/\mF s T m u (L.take r) p/\aO V rb F W need (q+16*j+16*r) E/\ax F w1 V) (λ_ i _=>j-(intOf i).toNat)
 case atStart=>exact⟨0,⟨#[]⟩,aX _,rfl,rfl,by rw[List.take_zero];exact mF.g,HR.o,HK.o⟩
 clear HR HK;obtain⟨r,p,hi,rfl,rfl,hO,hR,hK⟩:=hrel;have HO:H (mF s T m u (L.take r) p):=hO;have HR:H (aO wr rb F W need (q+16*j+16*r) E):=hR;have HK:H (ax F w1 wr):=hK;clear hO hR hK;by_cases hil:r<j
 case neg=>have hij:r=j:=om;subst hij;have hII':¬(r:Int)<r:=om;have HPR:H (ix aD T n s u p):=(by have:=HO.o;rw[HN.o,eL]at this;exact QD HMA.o this H0.o h1 hms);go_wp2;go_ret;exact⟨⟨_,rfl,HPR.o⟩,HR.o.a om,HK1.o.a HK.o⟩
 have hiI:(r:Int)<j:=om;have hi':r<L.length:=(by rw[<-HN.o];exact hil);obtain⟨gL,hpL,hcL,hFg,hgl⟩:=(HTS.o.b HK.o).a r _ (bc hi');have a0:H (L.take (r+1)=L.take r++[L[r]]):=(by show _=_;rw[jL,bc hi'];rfl);have hyz:L[r].size<=100000:=HLS.o _ (eG hi');have HLT:H (∀z,z∈L.take r->z.toList<L[r].toList):=λz hz=>Mu HSRT.o (bc hi') hz;generalize L[r]=y at *;subst hpL;have HCL:H (∀V,ax F wr V->V.cell? ⟨gL,r,J⟩=O (Z y)):=λV hV=>(by rw[bW (hV.b gL hgl hFg)];exact hcL);obtain⟨U,a1⟩:∃U,U=aD y:=⟨_,rfl⟩;have HKY:H (∀V,Φ prog 84 #[Z y] V λe w'=>e=N (I Q (U:Int))/\B V.1.size V w'):=λV=>(by rw[a1];exact vu y V hyz);have S:H (U=aD y):=a1;have hky3:(U:Int)<=3:=(by have:=vO y;omega);clear a1;go_wp2_with fail;refine(HKY.o _).m ?_;rintro x w3 ⟨rfl,hb3⟩;have HB3:H (B wr.1.size wr w3):=hb3;clear hb3;go_wp2_with fail;refine(HKS.o _).m ?_;rintro x w4 ⟨rfl,hb4⟩;have a4:H (B wr.1.size wr w4):=HB3.o.t (hb4.m HB3.o.size);have hc4:=HCL.o w4 (bH a4.o F);have HR4:H (aO w4 rb F W need (q+16*j+16*r) E):=HR.o.c a4.o;have HK4:H (ax F wr w4):=bH a4.o F;clear hb4 hcL;by_cases hkk:ks<U
 case neg=>
  have hkkI:¬(ks:Int)<U:=om;have A:H (mF s T m u (L.take (r+1)) p):=(by rw[a0.o];exact HO.o.c (λh=>by have h3:=K.o;have h4:=S.o;omega));have G:H (aO w4 rb F W need (q+16*j+16*(r+1)) E):=HR4.o.a om;have P:H (ax F w1 w4):=HK.o.a HK4.o;go_wp2;go_roundw
  case rel=>exact⟨r+1,p,om,by go_num,rfl,A.o,G.o,P.o⟩
  simp[intOf];omega
 have hkkI:(ks:Int)<U:=om;have D:=HTO.o w4 y _ HR4.o hyz om;have D:H _:=D;obtain⟨X,R⟩:∃X,X=T y:=⟨_,rfl⟩;have HTY:H (X=T y):=R;have hty8:X<=8:=(by rw[R];exact HT8.o y);have htyI:(X:Int)<=8:=om;rw[<-R]at D;clear R;go_wp2_with fail;refine ac D.o ?_;rintro x w5 ⟨rfl,hr5,hk5⟩;have G:H (aO w5 rb F W need (q+16*j+16*(r+1)) E):=hr5.a om;have P:H (ax F w1 w5):=(HK.o.a HK4.o).a hk5;have hc5:=HCL.o w5 (HK4.o.a hk5);clear hr5 hk5 D hc4;by_cases htm:X=m
 case neg=>
  have htmE:((X:Int) == m)=false:=(by simp;omega);have htmN:(X == m)=false:=(by simpa using htm);have A:H (mF s T m u (L.take (r+1)) p):=(by rw[a0.o];exact HO.o.c (λh=>htm (by rw[HTY.o];exact h.2)));clear htm;go_wp2;go_roundw
  case rel=>exact⟨r+1,p,om,by go_num,rfl,A.o,G.o,P.o⟩
  simp[intOf];omega
 have htmE:((X:Int) == m)=true:=(by simp;omega);have htmN:(X == m)=true:=(by simpa using htm);have HTM:H (T y=m):=(by have:=HTY.o;show _=_;omega);have HKK:H (aD s<aD y):=(by have h3:=K.o;have h4:=S.o;show _<_;omega);clear htm;by_cases a3:y=u
 case pos=>have hywE:(y.toList == u.toList)=true:=pd a3;have HPR:H (ix aD T n s u u):=QE HMA.o H0.o h1 hms HKP.o (by rw[<-a3];exact HKK.o) (by rw[<-a3];exact HTM.o);clear a3;go_wp2;go_ret;exact⟨⟨_,rfl,HPR.o⟩,G.o.a om,HK1.o.a P.o⟩
 have hywE:(y.toList == u.toList)=false:=o9 a3;by_cases hoe:p=⟨#[]⟩
 case pos=>
  have A:H (mF s T m u (L.take (r+1)) y):=(by rw[a0.o];exact HO.o.d hoe HKK.o HTM.o a3);subst hoe;go_wp2;go_roundw
  case rel=>exact⟨r+1,y,om,by go_num,rfl,A.o,G.o,P.o⟩
  simp[intOf];omega
 have hpl:¬p.toList=[]:=λh=>hoe (AG (by rw[h,cY]));have hpl1:(p.toList == [])=false:=(by simpa using hpl);have hpl2:p.toList.isEmpty=false:=(by cases h:p.toList with|nil=>exact absurd h hpl|cons _ _=>rfl);have A:H (mF s T m u (L.take (r+1)) p):=(by rw[a0.o];exact HO.o.e hoe a3 HLT.o);clear hpl hoe;go_wp2;go_roundw
 case rel=>exact⟨r+1,p,om,by go_num,rfl,A.o,G.o,P.o⟩
 simp[intOf];omega
end
theorem SS:(prog.info? 9).map (λi=>(i.zero,i.size,i.bytes))=O (O (Z ⟨#[]⟩),1,16):=kr
def jE(fs:List ByteArray)(e:Nat)(_:ByteArray):ByteArray:=fs.getD e ⟨#[]⟩
theorem Ge{a:List ByteArray}{p s:ByteArray}{e:Nat}(h:e<a.length):jE (a++[p]) e s=jE a e s:=by unfold jE;rw[en,en,gO h]
theorem FE{a:List ByteArray}{p s:ByteArray}:jE (a++[p]) a.length s=p:=by unfold jE;rw[en,jb nl];simp
theorem QA{b:List ByteArray}{p s:ByteArray}{e:Nat}(h:e<=b.length):dM (jE (b++[p])) e s=dM (jE b) e s:=by
 unfold dM;by_cases a:e=0
 ·rw[ak a,ak a]
 rw[ag a,ag a,Ge om]
theorem Qz{a:List ByteArray}{p s:ByteArray}:dM (jE (a++[p])) (a.length+1) s=p:=by unfold dM;rw[ag om,Nat.add_sub_cancel,FE]
def uL(E:List (List ai))(W need span score:Nat)(s:ByteArray)(fs:List ByteArray):Prop:=∀e,e<fs.length->ix aD (il (al E) W need span e s) score s (dM (jE fs) e s) (jE fs e s)
theorem uL.a{E:List (List ai)}{W d c b:Nat}{s p:ByteArray}{f:List ByteArray}(h:uL E W d c b s f)(j:ix aD (il (al E) W d c f.length s) b s (dM (jE f) f.length s) p):uL E W d c b s (f++[p]):=λe g=>by
 rw[bU]at g;have g:e<f.length+1:=g;rw[QA om];by_cases i:e<f.length
 ·rw[Ge i];exact h e i
 have:e=f.length:=om;subst this;rw[FE];exact j
structure Uj (x:Ending) (w w':Ω) (rb:Nat) (F:Nat->Prop) (W need q:Nat) (E:List (List ai)) (span score:Nat) (s:ByteArray) (a:Nat):Prop where
 b:∃(p:Option Addr) (cap:Nat) (fs:List ByteArray),fs.length=a/\x=N (M p a cap)/\uL E W need span score s fs/\uQ w' F p fs
 c:aO w' rb F W need (q+20000*a) E
 a:ax F w w'
section
variable {w:Ω}{rb:Nat}{F:Nat->Prop}{W need q:Nat}{E:List (List ai)}
theorem IW(s:ByteArray)(k n m:Nat)(d:aO w rb F W need q E)(hk:k<=E.length)(hW:W<=8)(hne:1<=need)(hp1:1<=n)(h8:n<=8)(h1:1<=m)(h2:m<=8)(hs:s.size<=100000)(hK:∀L:List ByteArray,L.Pairwise (λa b=>a.toList<b.toList)->(∀g,g∈L->aG g E=true)->L.length<=625)(hq:q<=7000000000000):
  Φ prog 62 #[Y (O ⟨rb,0,J⟩),Z s,I Q (k:Int),I Q (n:Int),I Q (m:Int)] w λx w'=>Uj x w w' rb F W need q E n m s k:=by
 obtain⟨i9,hi9,hz9,hs9,hb9⟩:=eb SS;have HD:=hid d;have h25:=(kY.1 d.e).1;have HKE:=hid hk;have hkI:(k:Int)<=1000:=om;have hk25:k<=1000:=om;have HPA:H (∀V q' e C,aO V rb F W need q' E->q'<=8000000000000->e<k->Φ prog 88 #[Y (O ⟨rb,0,J⟩),Z s,I Q ((e:Nat):Int),I Q (n:Int),I Q (m:Int),Z C] V λx w'=>Hr x V w' rb F W need q' E (il (al E) W need n e s) m s C):=λV q' e C hV hq' he=>Jt s C e n m hV om hW hne hp1 h8 h1 h2 hs hK hq';clear d hk h25;go_enter func62,ntmps62;go_wp2;go_loopw [11,12,13] (λl C i V=>∃(v:List ByteArray) (p:Option Addr) (A j:Nat),j=v.length/\j<=k/\i=I Q (j:Int)/\C=Z (dM (jE v) j s)/\l=M p j A/\V.ownsRow w.1.size 9 1 (M p j A) j (v.map cH)/\uL E W need n m s v/\aO V rb F W need (q+20000*j) E/\ax F w V) (λ_ _ i _=>k-(intOf i).toNat)
 case atStart=>exact⟨[],J,0,0,rfl,aX _,rfl,rfl,rfl,fH _ _ _ _,λe he=>by simp at he,HD.o,ax.j _ _⟩
 case round=>
  obtain⟨v,p,A,j,hjl,hj,rfl,rfl,rfl,S,T,hR,hK⟩:=hrel;have D:=hid hjl;have z:=hid S;have R:=hid T;have HR:=hid hR;have HK:=hid hK;clear hjl S T hR hK;by_cases hlt:j<k
  case neg=>have hjk:j=k:=om;subst hjk;have hII:¬(j:Int)<j:=om;have HF:H (uQ wr F p v):=(by have h:=z.o;rw[D.o]at h;obtain⟨p',c',hpe,hts⟩:=Gf h (λb K=>HD.o.f K);simp at hpe;rw[<-hpe.1]at hts;exact hts);go_wp2;go_ret;exact⟨⟨p,A,v,D.o.symm,rfl,R.o,HF.o⟩,HR.o,HK.o⟩
  case pos=>
   have hjI:(j:Int)<k:=om;have HC:=HPA.o wr _ j (dM (jE v) j s) HR.o om hlt;have HC:=hid HC;obtain⟨ws,a0⟩:∃ws,ws=dM (jE v) j s:=⟨_,rfl⟩;have HWS:=hid a0;rw[<-a0]at HC⊢;clear a0;go_wp2_with fail;refine ac HC.o ?_;rintro x w1 P;obtain⟨y,rfl,hpar⟩:=P.b;have HPAR:H (ix aD (il (al E) W need n j s) m s (dM (jE v) j s) y):=(by rw[<-HWS.o];exact hpar);have HR1:H (aO w1 rb F W need (q+20000*(j+1)) E):=P.c.a om;have HK1:=hid (HK.o.a P.a);have hlow:∀b,(M p j A).ownBlock=O b->¬F b:=λb K hf=>(by have h1:=(z.o.lt b K).1;have h2:=HD.o.f hf;omega);have t:=aS z.o (V':=w1) (λb K=>P.a.b b (aU z.o K) (hlow b K));have hpo:=t.alloc (Δ #[Z y] 9);have hs1:=HK1.o.c;go_wp2_with (at_builtin;refine iB _ rfl _ _ 22 rfl w.1.size 9 i9 (Z ⟨#[]⟩) 1 16 underlying22 hi9 hz9 hs9 hb9 rfl dc _ _ _ rfl hpo ⟨w1.1.size,0,J⟩ 1 1 [Z y] rfl rfl ?q1 ?q2 om ?q3 ?q4 ?q5 (w1.1.size+1) ?q6 ?_)
   try case q1=>
    intro i u hi
    match i,hi with
   |0,hi=>simp at hi;subst hi;simp[Addr.add]
   try case q2=>first|rfl|(intro u hu;simp at hu;subst hu;rfl)
   try case q3=>unfold maxLen;omega
   try case q4=>omega
   try case q5=>simp;omega
   try case q6=>simp
   intro g3 cv3 V3 X r hat3 hlt3;have HO3:H (V3.ownsRow w.1.size 9 1 (M (O ⟨g3,0,J⟩) (j+1) cv3) (j+1) ((v++[y]).map cH)):=(by rw[iY];exact X);have hk3:=(HK1.o.a (qe F w1 _)).d (G:=λb=>(M p j A).ownBlock=O b) (eV r (λb e=>e)) (λb K e=>by have:=(t.lt b e).1;omega);have HK3:=hid hk3
   have HR3:H (aO V3 rb F W need (q+20000*(j+1)) E):=HR1.o.d (by have:=r.size;rw[fi]at this;omega) (λb K hf=>by
    have h2:=HD.o.f hf;rw[r.block b (by rw[fi];omega) (λe=>by have:=(t.lt b e.symm).1;omega)];exact cX w1 _ _ K)
   have U:=hid (R.o.a (by rw[<-D.o];exact HPAR.o));have HLEN:H (j+1=(v++[y]).length):=(by rw[bU,D.o];rfl);have HAE:H (dM (jE (v++[y])) (j+1) s=y):=(by rw[D.o];exact Qz);go_wp2;go_roundw
   case rel=>exact⟨v++[y],_,_,j+1,HLEN.o,om,by go_num,by rw[HAE.o],rfl,HO3.o,U.o,HR3.o,HK3.o⟩
   simp[intOf];omega
end
end
end Go.Proofs.YtlaodjjfmhipnaaGreatDoor
