/-
  Part of it.
-/
import Derived.Test.YtlaodjjfmhipnaaGreatDoorAa
import Derived.Lib.AppendIntMem
import Derived.Test.YtlaodjjfmhipnaaGreatDoorShelf
set_option maxRecDepth 100000
set_option maxHeartbeats 8000000
set_option linter.all false
namespace Go.Proofs.YtlaodjjfmhipnaaGreatDoor
open Go.Proofs.Tryz
open Value renaming int→I,string→Z,pointer→Y,slice→M,tuple→Ψ
open Ending renaming returned→N
open Obj renaming cells→Δ
open Go renaming World→Ω,Calls→Φ
open IntKind renaming i64→Q
open Option renaming some→O,none→J
open RowKit renaming Below→B,Hid→H
structure ai where
 c:Int
 b:Int
 d:Int
 a:ByteArray
def ai.e:ai:=⟨0,0,0,⟨#[]⟩⟩
def dm(x:ai):Bool:=decide (0<=x.c)&&decide (x.c<=7)&&decide (0<=x.b)&&decide (x.b<=255)
theorem km{x:ai}:dm x=true↔(0<=x.c/\x.c<=7)/\0<=x.b/\x.b<=255:=by
 simp only[dm,jo,kO];constructor
 ·rintro⟨⟨⟨a,b⟩,c⟩,d⟩;exact⟨⟨a,b⟩,c,d⟩
 rintro⟨⟨a,b⟩,c,d⟩;exact⟨⟨⟨a,b⟩,c⟩,d⟩
def fC(g:ByteArray)(p:Int)(x:ai):Bool:=decide (x.a=g)&&decide (x.c=p)
theorem xC{g:ByteArray}{p:Int}{x:ai}:fC g p x=true↔x.a=g/\x.c=p:=by simp[fC]
def bz(g:ByteArray)(l:List ai):Bool:=l.any (λx=>decide (x.a=g))
def dl(g:ByteArray)(p:Int)(l:List ai):Bool:=l.any (fC g p)
def cA(g:ByteArray)(p:Int):List ai->Int
 |[]=>0
 |x::l=>(if fC g p x=true then x.b else 0)+cA g p l
theorem re{g:ByteArray}{l:List ai}:bz g l=true↔∃x,x∈l/\x.a=g:=by simp[bz]
theorem wJ{g:ByteArray}{p:Int}{l:List ai}:dl g p l=true↔∃x,x∈l/\x.a=g/\x.c=p:=by simp[dl,fC]
theorem yJ{g:ByteArray}{p:Int}{l:List ai}(h:dl g p l=true):bz g l=true:=by obtain⟨x,a,b,_⟩:=wJ.1 h;exact re.2 ⟨x,a,b⟩
theorem vg(g:ByteArray)(l:List ai)(x:ai):bz g (l++[x])=(bz g l||decide (x.a=g)):=by simp[bz]
theorem wB(g:ByteArray)(p:Int)(l:List ai)(x:ai):dl g p (l++[x])=(dl g p l||fC g p x):=by simp[dl]
theorem B4(g:ByteArray)(p:Int):∀l m:List ai,cA g p (l++m)=cA g p l+cA g p m
 |[],m=>by simp[cA]
 |x::l,m=>by show (if fC g p x=true then x.b else 0)+cA g p (l++m)=_;rw[B4 g p l m];show _=((if fC g p x=true then x.b else 0)+cA g p l)+_;omega
theorem uZ(g:ByteArray)(p:Int)(l:List ai)(x:ai):cA g p (l++[x])=cA g p l+(if fC g p x=true then x.b else 0):=by rw[B4];simp[cA]
theorem tJ{g:ByteArray}{p:Int}:∀{l:List ai},dl g p l=false->cA g p l=0
 |[],_=>rfl
 |x::l,h=>by have a:(fC g p x||dl g p l)=false:=h;rw[Bool.or_eq_false_iff]at a;show (if fC g p x=true then x.b else 0)+cA g p l=0;rw[a.1,tJ a.2];simp
theorem rS(g:ByteArray)(p:Int):∀l:List ai,(∀x,x∈l->0<=x.b/\x.b<=255)->0<=cA g p l/\cA g p l<=255*(l.length:Int)
 |[],_=>by simp[cA]
 |x::l,h=>by obtain⟨d,f⟩:=rS g p l (λy a=>h y (rP _ a));have c:=h x List.mem_cons_self;have e:cA g p (x::l)=(if fC g p x=true then x.b else 0)+cA g p l:=rfl;rw[e,eF];split<;>constructor<;>push_cast<;>omega
def gy(g:ByteArray)(p:Int)(ep:Nat->List ai)(lo:Nat):Nat->Nat
 |0=>0
 |k+1=>gy g p ep lo k+(if dl g p (ep (lo+k))=true then 1 else 0)
def fE(g:ByteArray)(p:Int)(ep:Nat->List ai)(lo:Nat):Nat->Int
 |0=>0
 |k+1=>fE g p ep lo k+cA g p (ep (lo+k))
theorem AU(g:ByteArray)(p:Int)(ep:Nat->List ai)(a:Nat):∀k,gy g p ep a k<=k
 |0=>aa _
 |k+1=>by have:=AU g p ep a k;unfold gy;split<;>omega
theorem zS(g:ByteArray)(p:Int)(ep:Nat->List ai)(a:Nat)(c:∀e,(ep e).length<=20000)(d:∀e x,x∈ep e->0<=x.b/\x.b<=255):∀k,0<=fE g p ep a k/\fE g p ep a k<=5100000*(k:Int)
 |0=>by simp[fE]
 |k+1=>by have h:=zS g p ep a c d k;have i:=rS g p (ep (a+k)) (d _);have f:=c (a+k);unfold fE;constructor<;>push_cast<;>omega
theorem C9{g:ByteArray}{p:Int}{ep a:Nat->List ai}{b:Nat}:∀{k},(∀j,j<k->dl g p (ep (b+j))=dl g p (a (b+j)))->gy g p ep b k=gy g p a b k
 |0,_=>rfl
 |k+1,h=>by unfold gy;rw[h k om,C9 (λj c=>h j om)]
theorem DX{g:ByteArray}{p:Int}{ep a:Nat->List ai}{b:Nat}:∀{k},(∀j,j<k->cA g p (ep (b+j))=cA g p (a (b+j)))->fE g p ep b k=fE g p a b k
 |0,_=>rfl
 |k+1,h=>by unfold fE;rw[h k om,DX (λj c=>h j om)]
def rx(c:Nat)(s:Int)(c':Nat)(s':Int):Bool:=if c=c' then decide (s'<s) else decide (c'<c)
def gc(need:Nat)(c:Nat->Nat)(s:Nat->Int):Nat->Int
 |0=>-1
 |k+1=>if c k<need then gc need c s k else if gc need c s k=-1\/rx (c k) (s k) (c (gc need c s k).toNat) (s (gc need c s k).toNat)=true then (k:Int) else gc need c s k
def jB(need:Nat)(c:Nat->Nat)(s:Nat->Int)(A:Nat->Prop)(b:Int):Prop:=
 (b=-1/\∀p,A p->c p<need)\/∃q:Nat,b=(q:Int)/\A q/\need<=c q/\∀p,A p->need<=c p->c p<c q\/(c p=c q/\(s p<s q\/(s p=s q/\q<=p)))
theorem jB.a{d:Nat}{c:Nat->Nat}{s:Nat->Int}{A:Nat->Prop}{b f:Int}(h:jB d c s A b)(e:jB d c s A f):b=f:=by
 rcases h with ⟨rfl,h⟩|⟨q,rfl,hq,hn,hb⟩<;>rcases e with ⟨rfl,e⟩|⟨q',rfl,hq',hn',hb'⟩
 ·rfl
 ·have:=h q' hq';omega
 ·have:=e q hq;omega
 have g:=hb q' hq' hn';have i:=hb' q hq hn;omega
theorem uv(a:Nat)(c:Nat->Nat)(s:Nat->Int):∀k,jB a c s (λp=>p<k) (gc a c s k)
 |0=>af ⟨rfl,λp g=>by omega⟩
 |k+1=>by
  have d:=uv a c s k;unfold gc;by_cases l:c k<a
  ·rw[ak l];rcases d with ⟨hb,d⟩|⟨q,hb,hq,hn,d⟩
   ·refine af ⟨hb,λp g=>?_⟩;by_cases e:p=k
    ·rw[e];exact l
    exact d p om
   refine ah ⟨q,hb,om,hn,λp g b=>?_⟩;by_cases e:p=k
   ·rw[e]at b;omega
   exact d p om b
  rw[ag l];rcases d with ⟨hb,d⟩|⟨q,hb,hq,hn,d⟩
  ·rw[ak (af hb)];refine ah ⟨k,rfl,om,om,λp g b=>?_⟩;by_cases e:p=k
   ·rw[e];omega
   have:=d p om;omega
  have j:(gc a c s k).toNat=q:=(by rw[hb];rfl);have i:gc a c s k≠-1:=(by rw[hb];omega);rw[j];by_cases f:rx (c k) (s k) (c q) (s q)=true
  ·rw[ak (ah f)];refine ah ⟨k,rfl,om,om,λp g b=>?_⟩
   have m:c q<c k\/(c k=c q/\s q<s k):=by
    unfold rx at f;split at f<;>simp at f
    ·right;exact⟨by assumption,f⟩
    left;exact f
   by_cases e:p=k
   ·rw[e];omega
   have:=d p om b;omega
  rw[ag (λh=>by rcases h with h|h;exact i h;exact f h)];refine ah ⟨q,hb,om,hn,λp g b=>?_⟩
  have m:c k<c q\/(c k=c q/\s k<=s q):=by
   unfold rx at f;split at f<;>simp at f
   ·right;exact⟨by assumption,f⟩
   left;omega
  by_cases e:p=k
  ·rw[e];omega
  exact d p om b
theorem KO{b:Nat}{c f:Nat->Nat}{s s':Nat->Int}{k:Nat}(e:∀p,p<k->c p=f p)(i:∀p,p<k->s p=s' p):gc b c s k=gc b f s' k:=by
 refine(uv b c s k).a ?_;rcases uv b f s' k with ⟨hb,h⟩|⟨q,hb,hq,hn,h⟩
 ·exact af ⟨hb,λp d=>by rw[e p d];exact h p d⟩
 refine ah ⟨q,hb,hq,by rw[e q hq];exact hn,λp d g=>?_⟩;rw[e p d,e q hq,i p d,i q hq];exact h p d (by rw[<-e p d];exact g)
theorem zj{a:Nat}{c:Nat->Nat}{s:Nat->Int}{k:Nat}: -1<=gc a c s k/\gc a c s k<k/\(gc a c s k=-1\/0<=gc a c s k):=by rcases uv a c s k with ⟨hb,_⟩|⟨q,hb,hq,_⟩<;>rw[hb]<;>omega
def cu(W e:Nat):Nat:=e+1-W
def kL(g:ByteArray)(ep:Nat->List ai)(W e:Nat)(p:Nat):Nat:=gy g (p:Int) ep (cu W e) (e+1-cu W e)
def lx(g:ByteArray)(ep:Nat->List ai)(W e:Nat)(p:Nat):Int:=fE g (p:Int) ep (cu W e) (e+1-cu W e)
def aI(g:ByteArray)(ep:Nat->List ai)(W need e:Nat):Int:=gc need (kL g ep W e) (lx g ep W e) 8
theorem zl{g:ByteArray}{ep b:Nat->List ai}{W a e:Nat}(c:∀p k,k<=e->dl g p (ep k)=dl g p (b k))(d:∀p k,k<=e->cA g p (ep k)=cA g p (b k)):aI g ep W a e=aI g b W a e:=by refine KO (λp _=>C9 λj f=>c _ _ ?_) (λp _=>DX λj f=>d _ _ ?_)<;>omega
def al(E:List (List ai))(e:Nat):List ai:=E.getD e []
def aG(g:ByteArray)(E:List (List ai)):Bool:=E.any (bz g)
theorem vm{g:ByteArray}{E:List (List ai)}:aG g E=true↔∃e,bz g (al E e)=true:=by
 simp only[aG,List.any_eq_true];constructor
 ·rintro⟨l,b,h⟩;obtain⟨e,a,rfl⟩:=List.mem_iff_getElem.1 b;refine⟨e,?_⟩;unfold al;rw[en,bc a];exact h
 rintro⟨e,h⟩;by_cases a:e<E.length
 ·refine⟨E[e],eG a,?_⟩;unfold al at h;rw[en,bc a]at h;exact h
 unfold al at h;rw[en,iV om]at h;cases h
theorem zk(E:List (List ai))(l:List ai)(e:Nat):al (E++[l]) e=if e=E.length then l else al E e:=by
 unfold al;rw[en,en];rcases Nat.lt_trichotomy e E.length with h|h|h
 ·rw[ag om,gO h]
 ·rw[ak h,h,jb nl];simp
 rw[ag om,jb om,iV (by simp;omega),iV om]
theorem wU(E:List (List ai)){e:Nat}(h:E.length<=e):al E e=[]:=by unfold al;rw[en,iV h];rfl
theorem zQ{E:List (List ai)}{e:Nat}(h:e<E.length):al E e∈E:=by unfold al;rw[en,bc h];exact eG h
section
open Go.RowKit Go.Maps
structure ax (F:Nat->Prop) (w w':Ω):Prop where
 f:w'.os=w.os
 h:w'.tape=w.tape
 g:w'.output=w.output
 c:w.1.size<=w'.1.size
 b:∀k,k<w.1.size->¬F k->w'.1[k]?=w.1[k]?
theorem ax.j(F:Nat->Prop)(w:Ω):ax F w w:=⟨rfl,rfl,rfl,aa _,λ_ _ _=>rfl⟩
theorem ax.a{F:Nat->Prop}{a b c:Ω}(h:ax F a b)(k:ax F b c):ax F a c:=
 ⟨k.f.trans h.f,k.h.trans h.h,k.g.trans h.g,aP h.c k.c,λi d e=>(k.b i (bg d h.c) e).trans (h.b i d e)⟩
theorem ax.e{F G:Nat->Prop}{a b:Ω}(h:ax F a b)(k:∀i,i<a.1.size->F i->G i):ax G a b:=
 ⟨h.f,h.h,h.g,h.c,λi d l=>h.b i d (λj=>l (k i d j))⟩
theorem ax.d{F G:Nat->Prop}{a b c:Ω}(h:ax F a b)(k:ax G b c)(l:∀i,i<a.1.size->G i->F i):ax F a c:=
 ⟨k.f.trans h.f,k.h.trans h.h,k.g.trans h.g,aP h.c k.c,λi e j=>(k.b i (bg e h.c) (λm=>j (l i e m))).trans (h.b i e j)⟩
theorem bH{a b:Ω}(h:B a.1.size a b)(F:Nat->Prop):ax F a b:=⟨h.os,h.tape,h.output,h.size,λk c _=>h.block k c⟩
theorem eV{a b:Ω}{r:Option Nat}(h:a.grownBy b r){F:Nat->Prop}(c:∀k,r=O k->F k):ax F a b:=
 ⟨h.os,h.tape,h.output,h.size,λk f d=>h.block k f (λe=>d (c k e.symm))⟩
theorem qe(F:Nat->Prop)(w:Ω)(o:Obj):ax F w (w.alloc o):=bH ((aj _ w).l nl o) F
theorem ko{F:Nat->Prop}(w:Ω)(a:Addr)(v:Value)(h:F a.block):ax F w (w.setCell a v):=
 ⟨rfl,rfl,rfl,by simp[World.setCell],λk _ b=>bN _ _ _ _ (λe=>b (e ▸ h))⟩
theorem ax.i{F:Nat->Prop}{a b:Ω}{d:Nat}(h:ax F a b)(l:d<=a.1.size)(j:∀k,k<d->¬F k):B d a b:=
 ⟨h.f,h.h,h.g,h.c,λk e=>h.b k (bg e l) (j k e)⟩
theorem ki{H:Type}{P:Program}{k:TypeId}{R:Value->Option (DataW H×List MemPlace)}{w w':Ω}{b n:Nat}{D:DataW H}(h:w.ownsMap P k R b n D)(e:w'.1[b]?=w.1[b]?):w'.ownsMap P k R b n D:=by obtain⟨d,a,c,r⟩:=h;exact⟨d,a,by rw[e];exact c,r⟩
structure mV (w:Ω) (b o:Nat) (x:ai):Prop where
 d:w.cell? ⟨b,o,J⟩=O (I Q x.c)
 e:w.cell? ⟨b,o+1,J⟩=O (I Q x.b)
 f:w.cell? ⟨b,o+1+1,J⟩=O (I Q x.d)
 c:w.cell? ⟨b,o+1+1+1,J⟩=O (Z x.a)
theorem mV.a{w w':Ω}{b o:Nat}{x:ai}(h:mV w b o x)(e:w'.1[b]?=w.1[b]?):mV w' b o x where
 d:=by rw[bW (w:=w) e];exact h.d
 e:=by rw[bW (w:=w) e];exact h.e
 f:=by rw[bW (w:=w) e];exact h.f
 c:=by rw[bW (w:=w) e];exact h.c
structure cZ (w:Ω) (p:Option Addr) (xs:List ai):Prop where
 a:xs≠[]->∃b o,p=O ⟨b,o,J⟩/\b<w.1.size/\∀k x,xs[k]?=O x->mV w b (o+k*4) x
theorem cZ.d{V V':Ω}{p:Option Addr}{xs:List ai}(h:cZ V p xs)(i:V.1.size<=V'.1.size)(g:∀b o,p=O ⟨b,o,J⟩->b<V.1.size->V'.1[b]?=V.1[b]?):cZ V' p xs where
 a:=λe=>by obtain⟨b,o,rfl,c,f⟩:=h.a e;exact⟨b,o,rfl,bg c i,λk x j=>(f k x j).a (g b o rfl c)⟩
theorem cZ.e{V V':Ω}{p:Option Addr}{xs:List ai}(h:cZ V p xs)(c:B V.1.size V V'):cZ V' p xs:=h.d c.size (λb _ _ a=>c.block b a)
theorem cZ.c{V:Ω}{p:Option Addr}:cZ V p []:=⟨λa=>absurd rfl a⟩
def jg(x:ai):List Value:=[I Q x.c,I Q x.b,I Q x.d,Z x.a]
def bL(xs:List ai):List Value:=xs.flatMap jg
theorem zm(xs:List ai)(x:ai):bL (xs++[x])=bL xs++[I Q x.c,I Q x.b,I Q x.d,Z x.a]:=by simp[bL,jg]
theorem Cn(xs a:List ai):bL (xs++a)=bL xs++bL a:=by simp[bL]
theorem qg:∀xs:List ai,(bL xs).length=xs.length*4
 |[]=>rfl
 |x::xs=>by show (jg x++bL xs).length=_;rw[bU,qg xs,eF];show 4+_=_;omega
theorem vz:∀(xs:List ai)(k j:Nat)(x:ai),xs[k]?=O x->j<4->(bL xs)[k*4+j]?=(jg x)[j]?
 |y::xs,0,j,x,hx,hj=>by simp at hx;subst hx;show (jg y++bL xs)[0*4+j]?=_;rw[gO (by show 0*4+j<4;omega)];congr 1;omega
 |y::xs,k+1,j,x,hx,hj=>by show (jg y++bL xs)[(k+1)*4+j]?=_;have a:(jg y).length=4:=rfl;rw[jb (by rw[a];omega),a,show (k+1)*4+j-4=k*4+j by omega];exact vz xs k j x (by simpa using hx) hj
 |[],_,_,_,hx,_=>by simp at hx
theorem dD(g j:Nat):(⟨g,0,J⟩:Addr).add j=⟨g,j,J⟩:=by unfold Addr.add;split<;>simp_all
theorem aS{V V':Ω}{b:Nat}{e:TypeId}{a:Nat}{v:Value}{n:Nat}{xs:List Value}(h:V.ownsRow b e a v n xs)(d:∀k,v.ownBlock=O k->V'.1[k]?=V.1[k]?):V'.ownsRow b e a v n xs:=by
 obtain⟨f,c⟩:=h;refine⟨f,?_⟩;rcases c with c|⟨g,cap,cur,hv,hg,hh,r⟩
 ·exact af c
 refine ah ⟨g,cap,cur,hv,hg,?_,r⟩;rw[d g (by rw[hv];rfl)];exact hh
theorem aU{V:Ω}{a:Nat}{e:TypeId}{b:Nat}{v:Value}{n:Nat}{xs:List Value}(h:V.ownsRow a e b v n xs){k:Nat}(c:v.ownBlock=O k):k<V.1.size:=(h.lt k c).2
theorem lK{V:Ω}{a:Nat}{e:TypeId}{b:Nat}{v:Value}{n:Nat}{xs:List Value}(h:V.ownsRow a e b v n xs){k:Nat}(c:v.ownBlock=O k):∃cur,V.1[k]?=O (Δ cur e (0,0)):=by
 rcases h.2 with ⟨rfl,_⟩|⟨g,cap,cur,rfl,hg,hh,r⟩
 ·simp[Value.ownBlock]at c
 simp[Value.ownBlock]at c;subst c;exact⟨cur,hh⟩
theorem sk{V:Ω}{c a:Nat}{e:TypeId}{b:Nat}{v:Value}{n:Nat}{xs:List Value}(h:V.ownsRow c e b v n xs)(i:a<=c):V.ownsRow a e b v n xs:=by
 obtain⟨f,d⟩:=h;refine⟨f,?_⟩;rcases d with d|⟨g,cap,cur,hv,hg,r⟩
 ·exact af d
 exact ah ⟨g,cap,cur,hv,om,r⟩
theorem AA{V:Ω}{d:Nat}{v:Value}{xs:List ai}(h:V.ownsRow d 156 4 v xs.length (bL xs)):∃p a,v=M p xs.length a/\cZ V p xs:=by
 by_cases b:xs=[]
 ·subst b;rcases h.2 with ⟨rfl,h0⟩|⟨g,a,cur,hv,_⟩
  ·exact⟨J,0,rfl,cZ.c⟩
  exact⟨_,a,hv,cZ.c⟩
 obtain⟨g,a,rfl,n,i⟩:=h.form (jl.2 b);refine⟨_,a,rfl,⟨λ_=>⟨g,0,rfl,i,λk x l=>?_⟩⟩⟩;have e:∀j u,j<4->(jg x)[j]?=O u->V.cell? ⟨g,0+k*4+j,J⟩=O u:=by intro j u m f;have:=h.cells (g:=g) rfl (k*4+j) u (by rw[vz xs k j x l m];exact f);rw[dD]at this;rw[dj];exact this
 exact⟨e 0 _ om rfl,e 1 _ om rfl,e 2 _ om rfl,e 3 _ om rfl⟩
def cB(v:Value):Option (DataW Value×List MemPlace):=O (.held v,[])
theorem gX:Keyed prog 3:=int_keyed underlying3
theorem ju:Keyed prog 9:=string_keyed underlying9
def qN(zd:DataW Value):Option Nat->DataW Value
 |some b=>.held (.map (O b))
 |none=>zd
theorem Py(o:Option Nat):qN (.held (.map J)) o=.held (.map o):=by cases o<;>rfl
def lL(g:ByteArray)(l:List ai)(p:Int)(zd:DataW Value):DataW Value:=if dl g p l=true then .lit (.int Q (cA g p l)) else zd
structure dI (w:Ω) (tb mb m:Nat) (D:DataW Value) (tr:ByteArray->Option Nat) (sp:ByteArray->Nat->Option Nat) (who:Nat->Nat×ByteArray×Nat) (W need n r:Nat) (ep:Nat->List ai):Prop where
 o:w.1[tb]?=O (Δ #[I Q (W:Int),I Q (need:Int),I Q (n:Int),.map (O mb)] 221)
 h:w.ownsMap prog 9 cB mb m D
 t:m<=r
 f:∀(g:ByteArray)(zd:DataW Value),D.atKey (.string g.1.toList) zd=qN zd (tr g)
 v:∀g b,tr g=O b->∃(m:Nat) (D:DataW Value),w.ownsMap prog 3 cB b m D/\m<=r/\∀(e:Nat)(zd:DataW Value),D.atKey (.int Q (e:Int)) zd=qN zd (sp g e)
 η:∀g e b,sp g e=O b->∃(m:Nat) (D:DataW Value),w.ownsMap prog 3 (plainElem prog 2) b m D/\m<=r/\∀(p:Int)(zd:DataW Value),D.atKey (.int Q p) zd=lL g (ep e) p zd
 u:∀g,(tr g).isSome=true↔∃e,bz g (ep e)=true
 q:∀g e,(sp g e).isSome=bz g (ep e)
 d:who tb=(1,⟨#[]⟩,0)
 i:who mb=(2,⟨#[]⟩,0)
 c:∀g b,tr g=O b->who b=(3,g,0)
 j:∀g e b,sp g e=O b->who b=(4,g,e)
 a:∀b,(who b).1≠0->b<w.1.size
 δ:∀e,(ep e).length<=20000
 l:∀e x,x∈ep e->dm x=true
structure cd (w:Ω) (tb:Nat) (who:Nat->Nat×ByteArray×Nat) (W need n r:Nat) (ep:Nat->List ai):Prop where
 c:∃(mb m:Nat) (D:DataW Value) (tr:ByteArray->Option Nat) (sp:ByteArray->Nat->Option Nat),dI w tb mb m D tr sp who W need n r ep
def bC(who:Nat->Nat×ByteArray×Nat)(b:Nat):Prop:=(who b).1≠0
section
variable {w:Ω}{tb mb m:Nat}{D:DataW Value}{tr:ByteArray->Option Nat}{sp:ByteArray->Nat->Option Nat}{who:Nat->Nat×ByteArray×Nat}{W need n r:Nat}{ep:Nat->List ai}
theorem dI.ν(d:dI w tb mb m D tr sp who W need n r ep):w.cell? ⟨tb,0,J⟩=O (I Q (W:Int)):=by simp[World.cell?,d.o]
theorem dI.ξ(d:dI w tb mb m D tr sp who W need n r ep):w.cell? ⟨tb,1,J⟩=O (I Q (need:Int)):=by simp[World.cell?,d.o]
theorem dI.s(d:dI w tb mb m D tr sp who W need n r ep):w.cell? ⟨tb,2,J⟩=O (I Q (n:Int)):=by simp[World.cell?,d.o]
theorem dI.y(d:dI w tb mb m D tr sp who W need n r ep):w.cell? ⟨tb,3,J⟩=O (.map (O mb)):=by simp[World.cell?,d.o]
theorem dI.ο(d:dI w tb mb m D tr sp who W need n r ep)(i:Nat):w.frozen? ⟨tb,i,J⟩=false:=by simp[World.frozen?,d.o]
theorem dI.θ(d:dI w tb mb m D tr sp who W need n r ep):bC who tb:=by unfold bC;rw[d.d];simp
theorem dI.κ(d:dI w tb mb m D tr sp who W need n r ep):bC who mb:=by unfold bC;rw[d.i];simp
theorem dI.z(d:dI w tb mb m D tr sp who W need n r ep){g:ByteArray}{b:Nat}(h:tr g=O b):bC who b:=by unfold bC;rw[d.c g b h];simp
theorem dI.γ(d:dI w tb mb m D tr sp who W need n r ep){g:ByteArray}{e b:Nat}(h:sp g e=O b):bC who b:=by unfold bC;rw[d.j g e b h];simp
theorem dI.ε(d:dI w tb mb m D tr sp who W need n r ep):tb<w.1.size:=d.a _ d.θ
theorem dI.ζ(d:dI w tb mb m D tr sp who W need n r ep):mb<w.1.size:=d.a _ d.κ
theorem dI.ι(d:dI w tb mb m D tr sp who W need n r ep):mb≠tb:=λe=>by have a:=d.i;rw[e,d.d]at a;simp at a
theorem dI.μ{w':Ω}(d:dI w tb mb m D tr sp who W need n r ep)(A:w.1.size<=w'.1.size)(s:∀k,k<w.1.size->bC who k->w'.1[k]?=w.1[k]?):dI w' tb mb m D tr sp who W need n r ep where
 o:=by rw[s tb d.ε d.θ];exact d.o
 h:=ki d.h (s mb d.ζ d.κ)
 t:=d.t
 f:=d.f
 v:=λg b h=>by obtain⟨m,D,p,y,x⟩:=d.v g b h;exact⟨m,D,ki p (s b p.lt (d.z h)),y,x⟩
 η:=λg e b h=>by obtain⟨m,D,p,y,x⟩:=d.η g e b h;exact⟨m,D,ki p (s b p.lt (d.γ h)),y,x⟩
 u:=d.u
 q:=d.q
 d:=d.d
 i:=d.i
 c:=d.c
 j:=d.j
 a:=λb C=>bg (d.a b C) A
 δ:=d.δ
 l:=d.l
theorem dI.k{w':Ω}(d:dI w tb mb m D tr sp who W need n r ep)(a:B w.1.size w w'):dI w' tb mb m D tr sp who W need n r ep:=d.μ a.size (λk b _=>a.block k b)
theorem cd.b{w':Ω}(d:cd w tb who W need n r ep)(g:w.1.size<=w'.1.size)(e:∀k,k<w.1.size->bC who k->w'.1[k]?=w.1[k]?):cd w' tb who W need n r ep:=by obtain⟨h,m,D,a,f,d⟩:=d.c;exact⟨h,m,D,a,f,d.μ g e⟩
theorem cd.a{w':Ω}(d:cd w tb who W need n r ep)(c:B w.1.size w w'):cd w' tb who W need n r ep:=d.b c.size (λk e _=>c.block k e)
theorem cd.f(d:cd w tb who W need n r ep):tb<w.1.size:=by obtain⟨e,m,D,a,b,d⟩:=d.c;exact d.ε
theorem cd.d(d:cd w tb who W need n r ep){b:Nat}(h:bC who b):b<w.1.size:=by obtain⟨g,m,D,e,f,d⟩:=d.c;exact d.a b h
theorem AV(k:Int):WideAt.IsKeyLit (.int Q k):=by simp[WideAt.IsKeyLit]
theorem uw(l:List UInt8):WideAt.IsKeyLit (.string l):=by simp[WideAt.IsKeyLit]
def mW(who:Nat->Nat×ByteArray×Nat)(g:ByteArray)(n T S:Nat)(b:Nat):Nat×ByteArray×Nat:=if b=T then (3,g,0) else if b=S then (4,g,n) else who b
def nK(ep:Nat->List ai)(n:Nat)(x:ai)(e:Nat):List ai:=if e=n then ep n++[x] else ep e
theorem Ty{w':Ω}{x:ai}{m' mT mS T S:Nat}{X DT DS:DataW Value}(d:dI w tb mb m D tr sp who W need n r ep)(hx:dm x=true)(hn:(ep n).length<20000)
  (hT:tr x.a=O T\/(tr x.a=J/\w.1.size<=T))(hS:sp x.a n=O S\/(sp x.a n=J/\w.1.size<=S))(hTS:T≠S)(hlt:T<w'.1.size)(hls:S<w'.1.size)(hsz:w.1.size<=w'.1.size)
  (hk:∀b,b<w.1.size->bC who b->b≠mb->b≠T->b≠S->w'.1[b]?=w.1[b]?)
  (hm:w'.ownsMap prog 9 cB mb m' X)(hm':m'<=r+1)(K:∀(g:ByteArray)(zd:DataW Value),X.atKey (.string g.1.toList) zd=qN zd (if g=x.a then O T else tr g))
  (ht:w'.ownsMap prog 3 cB T mT DT)(hmT:mT<=r+1)(htk:∀(e:Nat)(zd:DataW Value),DT.atKey (.int Q (e:Int)) zd=qN zd (if e=n then O S else sp x.a e))
  (hs:w'.ownsMap prog 3 (plainElem prog 2) S mS DS)(V:mS<=r+1)(hsk:∀(p:Int)(zd:DataW Value),DS.atKey (.int Q p) zd=lL x.a (ep n++[x]) p zd):
  dI w' tb mb m' X (λg=>if g=x.a then O T else tr g) (λg e=>if g=x.a/\e=n then O S else sp g e) (mW who x.a n T S) W need n (r+1) (nK ep n x):=by
 have hTw:∀b,who b=(3,x.a,0)\/(who b).1≠3\/b≠T:=by
  intro b;by_cases G:b=T
  ·rcases hT with h|⟨t,E⟩
   ·left;rw[G];exact d.c _ _ h
   right;left;by_cases hz:(who b).1=0
   ·rw[hz];simp
   have:=d.a b hz;omega
  right;right;exact G
 have R:∀b k,who b=k->k.1≠0->k.1≠3->b≠T:=by
  intro b k t E A e;subst e;rcases hT with h|⟨_,h4⟩
  ·rw[d.c _ _ h]at t;rw[<-t]at A;simp at A
  have:=d.a b (by rw[t];exact E);omega
 have L:∀b k,who b=k->k.1≠0->k.1≠4->b≠S:=by
  intro b k t E A e;subst e;rcases hS with h|⟨_,h4⟩
  ·rw[d.j _ _ _ h]at t;rw[<-t]at A;simp at A
  have:=d.a b (by rw[t];exact E);omega
 have oT:∀g b,tr g=O b->g≠x.a->b≠T:=by
  intro g b h f e;subst e;rcases hT with h'|⟨_,h4⟩
  ·have t:=d.c _ _ h;rw[d.c _ _ h']at t;exact f (by simpa using t.symm)
  have:=d.a b (d.z h);omega
 have oS:∀g e b,sp g e=O b->¬(g=x.a/\e=n)->b≠S:=by
  intro g e b h f e';subst e';rcases hS with h'|⟨_,h4⟩
  ·have t:=d.j _ _ _ h;rw[d.j _ _ _ h']at t;simp at t;exact f ⟨t.1.symm,t.2.symm⟩
  have:=d.a b (d.γ h);omega
 have C:∀e,nK ep n x e=if e=n then ep n++[x] else ep e:=λe=>rfl
 refine⟨?_,hm,hm',K,?_,?_,?_,?_,?_,?_,?_,?_,?_,?_,?_⟩
 ·rw[hk tb d.ε d.θ (λe=>d.ι e.symm) (R _ _ d.d sm sm) (L _ _ d.d sm sm)];exact d.o
 ·intro g b h;by_cases f:g=x.a
  ·rw[ak f]at h;simp at h;subst h f;refine⟨mT,DT,ht,hmT,λe zd=>?_⟩;rw[htk];by_cases s:e=n
   ·rw[ak s,ak ⟨rfl,s⟩]
   rw[ag s,ag (λh=>s h.2)]
  rw[ag f]at h;obtain⟨m0,D0,t,E,A⟩:=d.v g b h;have F:=d.c _ _ h;refine⟨m0,D0,ki t (hk b t.lt (d.z h) (λe=>?_) (oT g b h f) (L _ _ F sm sm)),om,λe zd=>?_⟩
  ·rw[e,d.i]at F;simp at F
  rw[A,ag (λh=>f h.1)]
 ·intro g e b h;by_cases f:g=x.a/\e=n
  ·rw[ak f]at h;simp at h;obtain⟨rfl,rfl⟩:=f;subst h;refine⟨mS,DS,hs,V,λp zd=>?_⟩;rw[hsk,C,ak rfl]
  rw[ag f]at h;obtain⟨m0,D0,t,E,A⟩:=d.η g e b h;have F:=d.j _ _ _ h;refine⟨m0,D0,ki t (hk b t.lt (d.γ h) (λe=>?_) (R _ _ F sm sm) (oS g e b h f)),om,λp zd=>?_⟩
  ·rw[e,d.i]at F;simp at F
  rw[A,C];by_cases s:e=n
  ·have U:¬x.a=g:=λe'=>f ⟨e'.symm,s⟩;subst s;have hf:fC g p x=false:=(by simp[fC,U]);rw[ak rfl];unfold lL;rw[wB,uZ,hf];simp
  rw[ag s]
 ·intro g;by_cases f:g=x.a
  ·rw[ak f];refine⟨λ_=>⟨n,?_⟩,λ_=>rfl⟩;rw[C,ak rfl,vg,f];simp
  rw[ag f,d.u g];constructor
  ·rintro⟨e,h⟩;refine⟨e,?_⟩;rw[C];by_cases s:e=n
   ·rw[ak s,vg,<-s,h];rfl
   rw[ag s];exact h
  rintro⟨e,h⟩;refine⟨e,?_⟩;rw[C]at h;by_cases s:e=n
  ·rw[ak s,vg,<-s]at h;have:¬x.a=g:=λe=>f e.symm;simpa [this] using h
  rw[ag s]at h;exact h
 ·intro g e;rw[C];by_cases s:e=n
  ·rw[ak s,vg];by_cases f:g=x.a
   ·rw[ak ⟨f,s⟩,f];simp
   have:¬x.a=g:=λe=>f e.symm;rw[ag (λh=>f h.1),d.q,s];simp[this]
  rw[ag s,ag (λh=>s h.2),d.q]
 ·show mW who x.a n T S tb=_;unfold mW;rw[ag (R _ _ d.d sm sm),ag (L _ _ d.d sm sm)];exact d.d
 ·show mW who x.a n T S mb=_;unfold mW;rw[ag (R _ _ d.i sm sm),ag (L _ _ d.i sm sm)];exact d.i
 ·intro g b h;show mW who x.a n T S b=_;unfold mW;by_cases f:g=x.a
  ·rw[ak f]at h;simp at h;rw[ak h.symm,f]
  rw[ag f]at h;rw[ag (oT g b h f),ag (L _ _ (d.c _ _ h) sm sm)];exact d.c _ _ h
 ·intro g e b h;show mW who x.a n T S b=_;unfold mW;by_cases f:g=x.a/\e=n
  ·rw[ak f]at h;simp at h;rw[ag (λe=>hTS (e.symm.trans h.symm)),ak h.symm,f.1,f.2]
  rw[ag f]at h;rw[ag (R _ _ (d.j _ _ _ h) sm sm),ag (oS g e b h f)];exact d.j _ _ _ h
 ·intro b G;by_cases t:b=T
  ·omega
  by_cases E:b=S
  ·omega
  unfold mW at G;rw[ag t,ag E]at G;exact bg (d.a b G) hsz
 ·intro e;rw[C];by_cases s:e=n
  ·rw[ak s];simp;omega
  rw[ag s];exact d.δ e
 intro e y P;rw[C]at P;by_cases s:e=n
 ·rw[ak s]at P;rcases dP.1 P with h|h
  ·exact d.l _ _ h
  simp at h;rw[h];exact hx
 rw[ag s]at P;exact d.l _ _ P
theorem MO{g:ByteArray}{T S b:Nat}(d:dI w tb mb m D tr sp who W need n r ep)(e:tr g=O T\/(tr g=J/\w.1.size<=T))(f:sp g n=O S\/(sp g n=J/\w.1.size<=S))(h:bC (mW who g n T S) b):bC who b\/w.1.size<=b:=by
 by_cases a:b=T
 ·rcases e with h'|⟨_,h'⟩
  ·left;rw[a];exact d.z h'
  right;omega
 by_cases c:b=S
 ·rcases f with h'|⟨_,h'⟩
  ·left;rw[c];exact d.γ h'
  right;omega
 left;unfold bC mW at h;rw[ag a,ag c]at h;exact h
theorem dI.π(d:dI w tb mb m D tr sp who W need n r ep){z:Int}(A:z=((n+1:Nat):Int)):dI (w.setCell ⟨tb,2,J⟩ (I Q z)) tb mb m D tr sp who W need (n+1) r ep where
 o:=by subst A;simp[World.setCell,dU,d.o]
 h:=d.h.setCell d.ι _
 t:=d.t
 f:=d.f
 v:=λg b h=>by obtain⟨m,D,s,x,p⟩:=d.v g b h;exact⟨m,D,s.setCell (λe=>by have k:=d.c _ _ h;rw[show b=tb from e,d.d]at k;simp at k) _,x,p⟩
 η:=λg e b h=>by obtain⟨m,D,s,x,p⟩:=d.η g e b h;exact⟨m,D,s.setCell (λe=>by have k:=d.j _ _ _ h;rw[show b=tb from e,d.d]at k;simp at k) _,x,p⟩
 u:=d.u
 q:=d.q
 d:=d.d
 i:=d.i
 c:=d.c
 j:=d.j
 a:=λb y=>by simp[World.setCell];exact d.a b y
 δ:=d.δ
 l:=d.l
end
end
section
open Go.RowKit Go.Maps
def dw(n lo hi:Int):Bool:=decide (lo<=n)&&decide (n<=hi)
theorem IY(n b c:Int)(w:Ω):
  Φ prog 133 #[I Q n,I Q b,I Q c] w λe f=>e=N (.bool (dw n b c))/\f=w:=by
 by_cases d:b<=n
 ·by_cases g:n<=c
  ·have a:dw n b c=true:=(by simp[dw,d,g]);rw[a];clear a;go_enter func133,ntmps133;go_wp2;go_ret;exact⟨rfl,rfl⟩
  have a:dw n b c=false:=(by simp[dw];omega);rw[a];clear a;go_enter func133,ntmps133;go_wp2;go_ret;exact⟨by simp,rfl⟩
 have a:dw n b c=false:=by simp[dw];omega
 rw[a];clear a;have h:decide (b<=n)=false:=by simpa using d
 go_enter func133,ntmps133;go_wp2;go_ret;exact⟨rfl,rfl⟩
theorem lE{n b a:Int}{r:Bool}(h:dw n b a=r)(w:Ω):
  Φ prog 133 #[I Q n,I Q b,I Q a] w λe c=>e=N (.bool r)/\c=w:=h ▸ IY n b a w
def bB(n:Nat):Value:=if n=0 then .nilIface else .iface 57 (I Q n)
theorem pi{n:Nat}(h:n≠0):bB n=.iface 57 (I Q n):=by simp[bB,h]
theorem gp(w:Ω)(n:Nat):B w.1.size w (w.drewN n):=⟨rfl,rfl,rfl,aa _,λ_ _=>rfl⟩
theorem yG(n:Int)(w:Ω):(Instr.typeAssert (.iface 57 (I Q n)) 25 57 true).run prog w=.ok (Ψ #[I Q n,.bool true]) w:=kr
theorem zn(s:ByteArray)(w:Ω)(h:s.size<=100000):
  Φ prog 94 #[Z s] w λe a=>e=N (Z s)/\B w.1.size w a:=by
 go_enter func94,ntmps94;go_wp2_with fail;refine(stringslite_Clone s w om).m ?_;rintro e a ⟨rfl,b⟩;have c:H (B w.1.size w a):=b;clear b;go_wp2;go_ret;exact⟨rfl,c.o⟩
def qD(M T:Nat)(b:Nat):Nat×ByteArray×Nat:=if b=M then (2,⟨#[]⟩,0) else if b=T then (1,⟨#[]⟩,0) else (0,⟨#[]⟩,0)
theorem E1{a T b:Nat}(h:bC (qD a T) b):b=a\/b=T:=by
 unfold bC qD at h;by_cases c:b=a
 ·exact af c
 by_cases d:b=T
 ·exact ah d
 rw[ag c,ag d]at h;exact absurd rfl h
theorem MP(w:Ω)(W a:Nat):cd ((w.alloc (.map #[] 0)).alloc (Δ #[I Q (W:Int),I Q (a:Int),I Q 0,.map (O w.1.size)] 221)) (w.1.size+1) (qD w.1.size (w.1.size+1)) W a 0 0 (al []):=by
 refine⟨w.1.size,0,.map [],λ_=>J,λ_ _=>J,?_⟩;have c:∀e,al [] e=[]:=λe=>wU [] (aX _);refine⟨?_,?_,aa _,λg i=>rfl,λg b h=>by simp at h,λg e b h=>by simp at h,λg=>?_,λg e=>?_,?_,?_,λg b h=>by simp at h,λg e b h=>by simp at h,λb f=>?_,λe=>?_,λe x d=>?_⟩
 ·have:=bn (w.alloc (.map #[] 0)) (Δ #[I Q (W:Int),I Q (a:Int),I Q 0,.map (O w.1.size)] 221);simpa using this
 ·exact(oU w prog 9 cB).alloc _
 ·constructor
  ·intro h;simp at h
  rintro⟨e,h⟩;rw[c]at h;cases h
 ·rw[c];rfl
 ·unfold qD;rw[ag om,ak rfl]
 ·unfold qD;rw[ak rfl]
 ·rcases E1 f with h|h<;>rw[h]<;>simp<;>omega
 ·rw[c];simp
 rw[c]at d;simp at d
theorem xN(W a:Nat)(w:Ω)(h:1<=W)(j:W<=8)(k:1<=a)(i:a<=W):
  Φ prog 96 #[I Q (W:Int),I Q (a:Int)] w λe b=>e=N (Ψ #[Y (O ⟨w.1.size+1,0,J⟩),.nilIface])/\b.1.size=w.1.size+2/\cd b (w.1.size+1) (qD w.1.size (w.1.size+1)) W a 0 0 (al [])/\B w.1.size w b:=by
 have c:=@run_makeMap prog;have g:dw (W:Int) 1 8=true:=by simp[dw];omega
 have d:dw (a:Int) 1 W=true:=by simp[dw];omega
 have f:H _:=MP w W a;go_enter func96,ntmps96;go_wp2_with fail;refine(lE g _).m ?_;rintro e b ⟨rfl,rfl⟩;go_wp2_with fail;refine(lE d _).m ?_;rintro e b ⟨rfl,rfl⟩;go_wp2;go_ret2;exact⟨rfl,by simp,f.o,ba.l sm _⟩
theorem Pz(W a:Int)(w:Ω)(h:¬(1<=W/\W<=8/\1<=a/\a<=W)):
  Φ prog 96 #[I Q W,I Q a] w λe b=>e=N (Ψ #[Y J,.iface 57 (I Q 1)])/\b=w:=by
 cases b1:dw W 1 8 with
 |false=>
  go_enter func96,ntmps96;go_wp2_with fail;refine(lE b1 _).m ?_;rintro e b ⟨rfl,rfl⟩;go_wp2;go_ret2;exact⟨rfl,rfl⟩
 |true=>
  have c:dw a 1 W=false:=by simp[dw]at b1⊢;omega
  go_enter func96,ntmps96;go_wp2_with fail;refine(lE b1 _).m ?_;rintro e b ⟨rfl,rfl⟩;go_wp2_with fail;refine(lE c _).m ?_;rintro e b ⟨rfl,rfl⟩;go_wp2;go_ret2;exact⟨rfl,rfl⟩
section
variable {w:Ω}{tb:Nat}{who:Nat->Nat×ByteArray×Nat}{W need n r:Nat}{ep:Nat->List ai}
theorem yS(d:cd w tb who W need n r ep):
  Φ prog 194 #[Y (O ⟨tb,0,J⟩)] w λe a=>e=N (I Q (n:Int))/\a=w:=by
 obtain⟨h,m,D,b,g,d⟩:=d.c;have f:=d.s;clear d;go_enter func194,ntmps194;go_wp2;go_ret;exact⟨rfl,rfl⟩
end
end
section
theorem aF{P:Program}{f:Region.Mode}{e:Array Oper}{Q:Exit->Act->Ω->Prop}{S:Ω->Prop}(i d:Nat)(v:Value){j:Oper}{fuel:Nat}{b:Array Bool}{a:Act}{w:Ω}(l:e[i]?=O j)(m:j.dst=O d)
  (g:(Region.noSelect e&&(Region.free f e b i&&(Region.ready f e b).contains i))=true)
  (k:∀c a w,Q (.panic c) (a.put (O d) v) w->Q (.panic c) a w)(hy:YieldsIf P e S j v a)(n:S w)
  (h:wpAnyH P f e Q S fuel (b.setIfInBounds i true) (a.put (O d) v) w):wpAnyH P f e Q S (fuel+1) b a w:=by
 rw[<-m]at k h;simp only[jo]at g;exact kc l g.1 g.2.1 g.2.2 k hy n h
theorem az{α:Type}{l:List α}{i:Nat}{a:α}:l.toArray.setIfInBounds i a=(l.set i a).toArray:=jk ..
theorem aA{α:Type}{x a:α}{l:List α}:(x::l).set 0 a=a::l:=rfl
theorem aB{α:Type}{x a:α}{l:List α}{n:Nat}:(x::l).set (n+1) a=x::l.set n a:=rfl
open Go.RowKit
theorem ar{P:Program}{f:Region.Mode}{e:Array Oper}{Q:Exit->Act->Ω->Prop}{S:Ω->Prop}(i d:Nat)(v:Value){g:Oper}{fuel:Nat}{b:Array Bool}{a j:Act}{w:Ω}(p:S w)
  (h:wpAnyH P f e Q S fuel (b.setIfInBounds i true) j w)(m:e[i]?=O g:=by rfl)(n:g.dst=O d:=by rfl)
  (l:(Region.noSelect e&&(Region.free f e b i&&(Region.ready f e b).contains i))=true:=by kernel_rfl)
  (o:∀c a w,Q (.panic c) (a.put (O d) v) w->Q (.panic c) a w:=by exact λ_ _ _ h=>h)(hy:YieldsIf P e S g v a:=by exact Or.inl ⟨by rfl,λwx _=>by go_simp⟩)
  (k:a.put (O d) v=j:=by simp only[Act.put,az,aA,aB];rfl):wpAnyH P f e Q S (fuel+1) b a w:=by
 subst k;exact aF i d v m n l o hy p h
end
section
open Go.RowKit Go.Maps
theorem vA(w:Ω):(zeroValue 290).run prog w=.ok (.map J) w:=kr
theorem rp(w:Ω):(zeroValue 316).run prog w=.ok (.map J) w:=kr
theorem uC(w:Ω):(zeroValue 2).run prog w=.ok (I Q 0) w:=kr
theorem AW(T:Nat)(w:Ω):(binOp .eql 290 (.map (O T)) (.map J)).run prog w=.ok (.bool false) w:=kr
theorem FM(w:Ω):(binOp .eql 290 (.map J) (.map J)).run prog w=.ok (.bool true) w:=kr
theorem Q4(T:Nat)(w:Ω):(binOp .eql 316 (.map (O T)) (.map J)).run prog w=.ok (.bool false) w:=kr
theorem FN(w:Ω):(binOp .eql 316 (.map J) (.map J)).run prog w=.ok (.bool true) w:=kr
theorem mJ{V:Ω}{t e k b n:Nat}{D:DataW Value}(d:V.ownsMap prog k cB b n D)(K:Keyed prog k)(j:prog.underlying t=O (.map k e))(l:∀w,(zeroValue e).run prog w=.ok (.map J) w){f:Value}{h:Lit}(c:keyOf prog k f=O h){o:Option Nat}(i:∀zd,D.atKey h zd=qN zd o):
  (Instr.lookup t (.map (O b)) f false).run prog V=.ok (.map o) V:=by
 obtain⟨u,m,a,g⟩:=d.lookup K j (l V) (zd:=.held (.map J)) (zp:=[]) rfl c;rw[i,Py]at g;unfold cB at g;simp at g;obtain⟨rfl,_⟩:=g;exact a
theorem lM{g:ByteArray}(h:g.size<=maxLen):keyOf prog 9 (Z g)=O (.string g.1.toList):=WideMaps.keyOf_string_mk underlying9 h
theorem jv{k:Int}(a:-1000000<=k)(h:k<=1000000):keyOf prog 3 (I Q k)=O (.int Q k):=keyOf_int_mk underlying3 (pO (n:=k) om)
theorem pW{a b:ByteArray}(h:a.1.toList=b.1.toList):a=b:=by obtain⟨⟨a⟩⟩:=a;obtain⟨⟨b⟩⟩:=b;simp at h;rw[h]
section
variable {w:Ω}{tb:Nat}{who:Nat->Nat×ByteArray×Nat}{W need n r:Nat}{ep:Nat->List ai}
structure jZ (w V:Ω) (x:ai) (tb mb m m' T S mT mS:Nat) (D D' DT DS:DataW Value) (tr:ByteArray->Option Nat) (sp:ByteArray->Nat->Option Nat) (who:Nat->Nat×ByteArray×Nat) (W need n r:Nat) (ep:Nat->List ai):Prop where
 a:dI w tb mb m D tr sp who W need n r ep
 u:tr x.a=O T\/(tr x.a=J/\w.1.size<T)
 k:sp x.a n=O S\/(sp x.a n=J/\w.1.size<S)
 f:T≠S
 γ:V.ownsMap prog 9 cB mb m' D'
 δ:m'<=r+1
 z:∀(g:ByteArray)(zd:DataW Value),D'.atKey (.string g.1.toList) zd=qN zd (if g=x.a then O T else tr g)
 l:V.ownsMap prog 3 cB T mT DT
 ε:mT<=r+1
 j:∀(e:Nat)(zd:DataW Value),DT.atKey (.int Q (e:Int)) zd=qN zd (if e=n then O S else sp x.a e)
 c:V.ownsMap prog 3 (plainElem prog 2) S mS DS
 h:mS<=r
 i:∀(p:Int)(zd:DataW Value),DS.atKey (.int Q p) zd=lL x.a (ep n) p zd
 q:V.1[w.1.size]?=O (Δ #[I Q x.c,I Q x.b,I Q x.d,Z x.a] 156)
 v:ax (bC who) w V
 y:∀b,b<w.1.size->bC who b->b≠mb->b≠T->V.1[b]?=w.1[b]?
theorem jZ.o{V:Ω}{x:ai}{mb m q T S s l:Nat}{D g t p:DataW Value}{c:ByteArray->Option Nat}{f:ByteArray->Nat->Option Nat}(h:jZ w V x tb mb m q T S s l D g t p c f who W need n r ep):S≠mb/\S≠tb/\S≠w.1.size:=by
 rcases h.k with h1|⟨_,h1⟩
 ·have b:=h.a.j _ _ _ h1;refine⟨λe=>?_,λe=>?_,λe=>?_⟩
  ·rw[e,h.a.i]at b;simp at b
  ·rw[e,h.a.d]at b;simp at b
  have:=h.a.a _ (h.a.γ h1);omega
 have v:=h.a.ε;have u:=h.a.ζ;omega
theorem jZ.ζ{V:Ω}{x:ai}{mb m o T S p k:Nat}{D j q l:DataW Value}{f:ByteArray->Option Nat}{g:ByteArray->Nat->Option Nat}(h:jZ w V x tb mb m o T S p k D j q l f g who W need n r ep):T≠mb/\T≠tb/\T≠w.1.size:=by
 rcases h.u with h1|⟨_,h1⟩
 ·have b:=h.a.c _ _ h1;refine⟨λe=>?_,λe=>?_,λe=>?_⟩
  ·rw[e,h.a.i]at b;simp at b
  ·rw[e,h.a.d]at b;simp at b
  have:=h.a.a _ (h.a.z h1);omega
 have t:=h.a.ε;have s:=h.a.ζ;omega
theorem jZ.s{V V':Ω}{x:ai}{mb m m' T S mT mS:Nat}{D U DT X:DataW Value}{L:ByteArray->Option Nat}{R:ByteArray->Nat->Option Nat}{c:Int}(h:jZ w V x tb mb m m' T S mT mS D U DT X L R who W need n r ep)(hx:dm x=true)(hl:(ep n).length<20000)
  (t:V.grownBy V' (O S))(hc:c=cA x.a x.c (ep n))(ho:V'.ownsMap prog 3 (plainElem prog 2) S (mS+1) (X.put (.int Q x.c) (.lit (.int Q (c+x.b))))):
  ∃who',cd V' tb who' W need n (r+1) (nK ep n x)/\ax (bC who) w V'/\∀b,bC who' b->bC who b\/w.1.size<=b:=by
 have E:=t.size;have h0:=h.v.c;have G:=h.o;have tne:=h.ζ;have q:L x.a=O T\/(L x.a=J/\w.1.size<=T):=h.u.imp id (λh=>⟨h.1,om⟩);have g:R x.a n=O S\/(R x.a n=J/\w.1.size<=S):=h.k.imp id (λh=>⟨h.1,om⟩);refine⟨mW who x.a n T S,⟨mb,m',U,_,_,Ty h.a hx hl q g h.f (bg h.l.lt E) (bg h.c.lt E) (aP h0 E) (λb A h2 h3 h4 h5=>?_) (h.γ.kept t (λe=>G.1 (by simpa using e.symm))) h.δ h.z (h.l.kept t (λe=>h.f (by simpa using e))) h.ε h.j ho (by have:=h.h;omega) (λp zd=>?_)⟩,?_,λb hb=>MO h.a q g hb⟩
 ·rw[t.block b om (λe=>h5 (by simpa using e))];exact h.y b A h2 h3 h4
 ·by_cases P:p=x.c
  ·subst P;rw[rL h.c.isMap (AV x.c)];unfold lL;have K:fC x.a x.c x=true:=xC.2 ⟨rfl,rfl⟩;rw[wB,uZ,K,hc];simp
  rw[qV (λe=>P (by simpa using e)),h.i];unfold lL
  have K:fC x.a p x=false:=by
   cases h':fC x.a p x
   ·rfl
   exact absurd (xC.1 h').2.symm P
  rw[wB,uZ,K];simp
 refine h.v.d (eV (F:=λb=>b=S) t (λk hk=>by simpa using hk.symm)) (λi hi C=>?_);have C:=C;subst C;rcases h.k with A|⟨_,A⟩
 ·exact h.a.γ A
 omega
theorem jZ.t{V:Ω}{x:ai}{mb m p T S s g:Nat}{D e A o:DataW Value}{b:ByteArray->Option Nat}{d:ByteArray->Nat->Option Nat}(h:jZ w V x tb mb m p T S s g D e A o b d who W need n r ep):jZ w V.drew x tb mb m p T S s g D e A o b d who W need n r ep:=
 ⟨h.a,h.u,h.k,h.f,h.γ.drew,h.δ,h.z,h.l.drew,h.ε,h.j,h.c.drew,h.h,h.i,h.q,h.v.a (bH (gp V 1) _),h.y⟩
theorem zo{V:Ω}{x:ai}{mb m t T S f o:Nat}{D k g p:DataW Value}{i:ByteArray->Option Nat}{j:ByteArray->Nat->Option Nat}(h:jZ w V x tb mb m t T S f o D k g p i j who W need n r ep):
  V.drew.cell? ⟨tb,2,J⟩=O (I Q (n:Int))/\V.drew.cell? ⟨w.1.size,0,J⟩=O (I Q x.c)/\V.drew.cell? ⟨w.1.size,1,J⟩=O (I Q x.b)/\V.drew.ownsMap prog 3 cB T f g:=by
 have d:=h.ζ;refine⟨?_,?_,?_,h.l.drew⟩
 ·show V.cell? _=_;rw[bW (w:=w) (h.y tb h.a.ε h.a.θ (λe=>h.a.ι e.symm) (λe=>d.2.1 e.symm))];exact h.a.s
 ·show V.cell? _=_;simp[World.cell?,h.q]
 show V.cell? _=_;simp[World.cell?,h.q]
theorem So(x:ai){mb m:Nat}{D:DataW Value}{A:ByteArray->Option Nat}{C:ByteArray->Nat->Option Nat}{T S:Nat}(d:dI w tb mb m D A C who W need n r ep)(i:A x.a=O T)(p:C x.a n=O S)(q:Nat):
  ∃z F E y,jZ w ((w.alloc (Δ #[I Q x.c,I Q x.b,I Q x.d,Z x.a] 156)).drewN q) x tb mb m m T S z E D D F y A C who W need n r ep:=by
 have s:B w.1.size w ((w.alloc (Δ #[I Q x.c,I Q x.b,I Q x.d,Z x.a] 156)).drewN q):=((aj _ w).l nl _).t ((gp _ q).m sm);have u:=d.k s;obtain⟨z,F,R,V,P⟩:=u.v _ _ i;obtain⟨E,y,U,K,G⟩:=u.η _ _ _ p;have X:=d.t;refine⟨z,F,E,y,d,af i,af p,λe=>?_,u.h,om,λg L=>?_,R,om,λe L=>?_,U,K,G,bn w _,bH s _,λb o _ _ _=>s.block b o⟩
 ·have o:=d.c _ _ i;rw[e,d.j _ _ _ p]at o;simp at o
 ·rw[d.f];by_cases h:g=x.a
  ·rw[ak h,h,i]
  rw[ag h]
 rw[P];by_cases h:e=n
 ·rw[ak h,h,p]
 rw[ag h]
theorem Q6(x:ai){mb m:Nat}{D:DataW Value}{tr:ByteArray->Option Nat}{sp:ByteArray->Nat->Option Nat}{T S:Nat}(d:dI w tb mb m D tr sp who W need n r ep)(hx:dm x=true)(hg:x.a.size<=100000)(hn:n<=1000)(hr:r<=100000)(hl:(ep n).length<20000)(hT:tr x.a=O T)(E:sp x.a n=O S):
  Φ prog 193 #[Y (O ⟨tb,0,J⟩),.agg #[I Q x.c,I Q x.b,I Q x.d,Z x.a]] w λe w'=>e=N (Ψ #[])/\∃who',cd w' tb who' W need n (r+1) (nK ep n x)/\ax (bC who) w w'/\∀b,bC who' b->bC who b\/w.1.size<=b:=by
 have mixed:prog.follows .mixedOrders=true:=kr;have HX:=hid hx;have HL:=hid hl;have HSB:H (∀y,y∈ep n->0<=y.b/\y.b<=255):=λy hy=>(km.1 (d.l n y hy)).2;obtain⟨⟨xp0,xp1⟩,xs0,xs1⟩:=km.1 hx;have HMQ:H (∀q,∃X DT mS DS,jZ w ((w.alloc (Δ #[I Q x.c,I Q x.b,I Q x.d,Z x.a] 156)).drewN q) x tb mb m m T S X mS D D DT DS tr sp who W need n r ep):=λq=>So x d hT E q;obtain⟨z,A,P,C⟩:=x;simp only at hT E hg xp0 xp1 xs0 xs1⊢;have hd1:∀q,dI ((w.alloc (Δ #[I Q z,I Q A,I Q P,Z C] 156)).drewN q) tb mb m D tr sp who W need n r ep:=λq=>d.k (((aj _ w).l nl _).t ((gp _ q).m sm));have F:∀q,(Instr.lookup 219 (.map (O mb)) (Z C) false).run prog ((w.alloc (Δ #[I Q z,I Q A,I Q P,Z C] 156)).drewN q)=.ok (.map (O T)) ((w.alloc (Δ #[I Q z,I Q A,I Q P,Z C] 156)).drewN q):=λq=>mJ (hd1 q).h ju underlying219 vA (lM (g:=C) (by unfold maxLen;omega)) (λzd=>by rw[d.f C,hT]);have hrun2:∀q,(Instr.lookup 290 (.map (O T)) (I Q (n:Int)) false).run prog ((w.alloc (Δ #[I Q z,I Q A,I Q P,Z C] 156)).drewN q)=.ok (.map (O S)) ((w.alloc (Δ #[I Q z,I Q A,I Q P,Z C] 156)).drewN q):=λq=>by obtain⟨X,DT,h1,_,h3⟩:=(hd1 q).v C T hT;exact mJ h1 gX underlying290 rp (jv om om) (λzd=>by rw[h3,E])
 have hd0:dI (w.alloc (Δ #[I Q z,I Q A,I Q P,Z C] 156)) tb mb m D tr sp who W need n r ep:=d.k ((aj _ w).l nl _);have c3:=hd0.y;have c2:=hd0.s;have q1:=AW T;have q2:=Q4 S;go_enter func193,ntmps193;go_wp2;go_quiet (fail);go_wp2;obtain⟨X,DT,mS,DS,hM⟩:=HMQ.o nq;obtain⟨V,hV⟩:∃V,V=(w.alloc (Δ #[I Q z,I Q A,I Q P,Z C] 156)).drewN nq:=⟨_,rfl⟩;rw[<-hV]at hM⊢;have L:=hid hM;have HS0:H (∀V,jZ w V ⟨z,A,P,C⟩ tb mb m m T S X mS D D DT DS tr sp who W need n r ep->V.drew.cell? ⟨tb,2,J⟩=O (I Q (n:Int))/\V.drew.cell? ⟨w.1.size,0,J⟩=O (I Q z)/\V.drew.cell? ⟨w.1.size,1,J⟩=O (I Q A)/\V.drew.ownsMap prog 3 cB T X DT):=λV h=>zo h;clear hM hV HMQ d;have hs0:=HS0.o V L.o;have p:=hs0;have HLT:H (∀U:Ω,U.ownsMap prog 3 cB T X DT->(Instr.lookup 290 (.map (O T)) (I Q (n:Int)) false).run prog U=.ok (.map (O S)) U):=λU hU=>mJ hU gX underlying290 rp (jv om om) (λzd=>by rw[L.o.j,ak rfl]);obtain⟨c,hrunc,u,hwc⟩:=L.o.c.lookup_int gX underlying316 underlying2 (uC V) (jv (k:=z) om om)
 have HC:H (c=cA C z (ep n)):=by
  rw[L.o.i]at u;unfold lL at u;cases hse:dl C z (ep n)
  ·rw[hse]at u;simp at u;show c=_;rw[tJ hse];omega
  rw[hse]at u;simp at u;exact u.symm
 have hcb:=rS C z (ep n) HSB.o;rw[<-HC.o]at hcb;have hc0:=hcb.1;have hc1:c<=5100000:=by have:=hcb.2;have:=HL.o;omega
 have R:(Instr.lookup 316 (.map (O S)) (I Q z) false).run prog V.drew=.ok (I Q c) V.drew:=by obtain⟨c',hr',ha',_⟩:=(L.o.c.drew).lookup_int gX underlying316 underlying2 (uC V.drew) (jv (k:=z) om om);rw[u]at ha';simp at ha';rw[ha'];exact hr'
 obtain⟨w4,hrun4,hm4,G⟩:=(L.o.c.drew).update (val:=I Q (c+A)) (d:=.lit (.int Q (c+A))) (ps:=[]) gX underlying316 (by have:=L.o.h;unfold maxLen;omega) (jv (k:=z) om om) (plainElem_int underlying2 (pO (n:=c+A) om));have HR:=hid R;have HU:=hid hrun4;have HFIN:=hid (L.o.t.s (x:=⟨z,A,P,C⟩) HX.o HL.o G HC.o hm4);have HS4:H (w4.cell? ⟨tb,2,J⟩=O (I Q (n:Int))/\w4.cell? ⟨w.1.size,0,J⟩=O (I Q z)/\w4.cell? ⟨w.1.size,1,J⟩=O (I Q A)/\w4.ownsMap prog 3 cB T X DT):=by obtain⟨s1,s2,s3,s4⟩:=hs0;have hne:=L.o.o;exact⟨G.cell s1 (λe=>hne.2.1 (by simpa using e.symm)),G.cell s2 (λe=>hne.2.2 (by simpa using e.symm)),G.cell s3 (λe=>hne.2.2 (by simpa using e.symm)),s4.kept G (λe=>L.o.f (by simpa using e))⟩
 refine fG (S:=λU=>U.cell? ⟨tb,2,J⟩=O (I Q (n:Int))/\U.cell? ⟨w.1.size,0,J⟩=O (I Q z)/\U.cell? ⟨w.1.size,1,J⟩=O (I Q A)/\U.ownsMap prog 3 cB T X DT) kr p (λ_=>?_);refine ar 0 36 (.map (O T)) p ?_;refine ar 1 37 (Y (O ⟨tb,0,J⟩)) p ?_;refine ar 2 38 (Y (O ⟨tb,0,J⟩)) p ?_;refine ar 3 39 (Y (O ⟨tb,2,J⟩)) p ?_;refine aF 4 40 (I Q (n:Int)) rfl rfl kr (λ_ _ _ h=>h) (af ⟨by rfl,λwx E=>by (try dsimp only at E);obtain⟨s1,s2,s3,s4⟩:=E;go_simp⟩) p ?_;simp only[Act.put,az,aA,aB];refine aF 5 41 (.map (O S)) rfl rfl kr (λ_ _ _ h=>h) (af ⟨by rfl,λwx E=>by (try dsimp only at E);obtain⟨s1,s2,s3,s4⟩:=E;have F:=HLT.o _ s4;go_simp⟩) p ?_;simp only[Act.put,az,aA,aB];refine ar 6 42 (Y (O ⟨w.1.size,0,J⟩)) p ?_;refine aF 7 43 (I Q z) rfl rfl kr (λ_ _ _ h=>h) (af ⟨by rfl,λwx E=>by (try dsimp only at E);obtain⟨s1,s2,s3,s4⟩:=E;go_simp⟩) p ?_;simp only[Act.put,az,aA,aB];refine ar 9 45 (Y (O ⟨w.1.size,1,J⟩)) p ?_;refine aF 10 46 (I Q A) rfl rfl kr (λ_ _ _ h=>h) (af ⟨by rfl,λwx E=>by (try dsimp only at E);obtain⟨s1,s2,s3,s4⟩:=E;go_simp⟩) p ?_;simp only[Act.put,az,aA,aB];refine a9 (rs:=[8]) kr sm ?_;refine aQ rfl (λK hK=>?_) aZ;have F:=HR.o;go_simp;refine hK.out _ _ p (λ_=>?_);refine aF 11 47 (I Q (c+A)) rfl rfl kr (λ_ _ _ h=>h) (af ⟨by rfl,λwx _=>by go_simp;exact IntWalk.i64_in _ om⟩) p ?_;simp only[Act.put,az,aA,aB];refine a9 (rs:=[12]) kr sm ?_;refine aQ rfl (λK hK=>?_) aZ;have F:=HU.o;go_simp;refine hK.out _ _ HS4.o (λ_=>?_);refine ea kr ?_ _;go_wp2;go_end0;exact⟨rfl,HFIN.o⟩
theorem Db{g:ByteArray}{l:List ai}{p:Int}{zd:DataW Value}(h:bz g l=false):lL g l p zd=zd:=by unfold lL;rw[ag (λa=>by rw[yJ a]at h;cases h)]
theorem Sn(x:ai){mb m F:Nat}{D A:DataW Value}{K:ByteArray->Option Nat}{y:ByteArray->Nat->Option Nat}{T:Nat}{V v:Ω}(d:dI w tb mb m D K y who W need n r ep)(o:K x.a=O T)(U:y x.a n=J)(C:B w.1.size w V)(u:w.1.size<V.1.size)(E:V.1[w.1.size]?=O (Δ #[I Q x.c,I Q x.b,I Q x.d,Z x.a] 156))
  (a0:F<=r)(P:∀(e:Nat)(zd:DataW Value),A.atKey (.int Q (e:Int)) zd=qN zd (y x.a e))(L:(V.alloc (.map #[] 0)).grownBy v (O T))(ho:v.ownsMap prog 3 cB T (F+1) (A.put (.int Q (n:Int)) (.held (.map (O V.1.size)))))(s:IsMap A):
  jZ w v x tb mb m m T V.1.size (F+1) 0 D D (A.put (.int Q (n:Int)) (.held (.map (O V.1.size)))) (.map []) K y who W need n r ep:=by
 have hr:=d.t;have R:=d.a T (d.z o);have G:mb≠T:=λe=>by have l:=d.c _ _ o;rw[<-e,d.i]at l;simp at l
 have S:=d.k C;have j:∀b,b<V.1.size->b≠T->v.1[b]?=V.1[b]?:=λb l h2=>by rw[L.block b (by simp;omega) (λe=>h2 (by simpa using e))];exact cX V _ b l
 refine⟨d,af o,ah ⟨U,u⟩,om,ki S.h (j mb S.ζ G),om,λg zd=>?_,ho,om,λe zd=>?_,?_,aX _,λp zd=>?_,?_,?_,λb l _ _ X=>?_⟩
 ·rw[d.f];by_cases h:g=x.a
  ·rw[ak h,h,o]
  rw[ag h]
 ·by_cases h:e=n
  ·rw[ak h,h,rL s (AV n)];rfl
  rw[ag h,qV (λe'=>h (by simp at e';omega)),P]
 ·refine ki (oU V prog 3 (plainElem prog 2)) (L.block _ sm (λe=>?_));simp at e;omega
 ·rw[Db (by rw[<-d.q,U];rfl)];rfl
 ·rw[j _ u om];exact E
 ·exact(bH C _).d ((qe (λb=>b=T) V _).a (eV L (λk hk=>by simpa using hk.symm))) (λi _ h=>by rw[show i=T from h];exact d.z o)
 rw[j b om X];exact C.block b l
theorem Q5(x:ai){mb m:Nat}{D:DataW Value}{tr:ByteArray->Option Nat}{sp:ByteArray->Nat->Option Nat}{T:Nat}(d:dI w tb mb m D tr sp who W need n r ep)(hx:dm x=true)(hg:x.a.size<=100000)(hn:n<=1000)(hr:r<=100000)(hl:(ep n).length<20000)(hT:tr x.a=O T)(C:sp x.a n=J):
  Φ prog 193 #[Y (O ⟨tb,0,J⟩),.agg #[I Q x.c,I Q x.b,I Q x.d,Z x.a]] w λe w'=>e=N (Ψ #[])/\∃who',cd w' tb who' W need n (r+1) (nK ep n x)/\ax (bC who) w w'/\∀b,bC who' b->bC who b\/w.1.size<=b:=by
 have mixed:prog.follows .mixedOrders=true:=kr;have hmm:=@run_makeMap prog;have HX:=hid hx;have HL:=hid hl;have HSB:H (∀y,y∈ep n->0<=y.b/\y.b<=255):=λy hy=>(km.1 (d.l n y hy)).2;obtain⟨⟨xp0,xp1⟩,xs0,xs1⟩:=km.1 hx;obtain⟨mT,DT,t1,t2,t3⟩:=d.v _ _ hT;have R:∀q,B w.1.size w ((w.alloc (Δ #[I Q x.c,I Q x.b,I Q x.d,Z x.a] 156)).drewN q):=λq=>((aj _ w).l nl _).t ((gp _ q).m sm)
 have HMQ:H (∀q w1,(((w.alloc (Δ #[I Q x.c,I Q x.b,I Q x.d,Z x.a] 156)).drewN q).alloc (.map #[] 0)).grownBy w1 (O T)->w1.ownsMap prog 3 cB T (mT+1) (DT.put (.int Q (n:Int)) (.held (.map (O (w.1.size+1)))))->jZ w w1 x tb mb m m T (w.1.size+1) (mT+1) 0 D D (DT.put (.int Q (n:Int)) (.held (.map (O (w.1.size+1))))) (.map []) tr sp who W need n r ep):=λq w1 h1 h2=>by
  have hz:((w.alloc (Δ #[I Q x.c,I Q x.b,I Q x.d,Z x.a] 156)).drewN q).1.size=w.1.size+1:=by show (w.alloc _).1.size=_;simp
  have:=Sn x d hT C (R q) (by rw[hz];omega) (bn w _) t2 t3 h1 (by rw[hz];exact h2) t1.isMap;rw[hz]at this;exact this
 have L:∀q,(((w.alloc (Δ #[I Q x.c,I Q x.b,I Q x.d,Z x.a] 156)).drewN q).alloc (.map #[] 0)).ownsMap prog 3 cB T mT DT:=λq=>(ki t1 ((R q).block _ t1.lt)).alloc _;obtain⟨z,A,xt,G⟩:=x;simp only at hT C hg xp0 xp1 xs0 xs1 t3 L R⊢;have hd1:∀q,dI ((w.alloc (Δ #[I Q z,I Q A,I Q xt,Z G] 156)).drewN q) tb mb m D tr sp who W need n r ep:=λq=>d.k (R q);have P:∀q,(Instr.lookup 219 (.map (O mb)) (Z G) false).run prog ((w.alloc (Δ #[I Q z,I Q A,I Q xt,Z G] 156)).drewN q)=.ok (.map (O T)) ((w.alloc (Δ #[I Q z,I Q A,I Q xt,Z G] 156)).drewN q):=λq=>mJ (hd1 q).h ju underlying219 vA (lM (g:=G) (by unfold maxLen;omega)) (λzd=>by rw[d.f G,hT])
 have hrun2:∀q,(Instr.lookup 290 (.map (O T)) (I Q (n:Int)) false).run prog ((w.alloc (Δ #[I Q z,I Q A,I Q xt,Z G] 156)).drewN q)=.ok (.map J) ((w.alloc (Δ #[I Q z,I Q A,I Q xt,Z G] 156)).drewN q):=λq=>
  mJ (ki t1 ((R q).block _ t1.lt)) gX underlying290 rp (jv om om) (λzd=>by rw[t3,C])
 have hd0:dI (w.alloc (Δ #[I Q z,I Q A,I Q xt,Z G] 156)) tb mb m D tr sp who W need n r ep:=d.k ((aj _ w).l nl _);have c3:=hd0.y;have c2:=hd0.s;have q1:=AW T;have q2:=FN;have hmT:mT<maxLen:=by unfold maxLen;omega
 go_enter func193,ntmps193;go_wp2;go_quiet (fail);go_wp2_with (first|(at_mapUpdate;refine wpList_mapUpdate_own _ rfl _ _ _ 290 rfl 3 316 gX underlying290 _ T mT DT rfl (L nq) hmT _ _ _ rfl rfl (jv (k:=(n:Int)) om om) _ [] rfl ?_;intro V hown1 hgrow1));have hM:=HMQ.o nq V hgrow1 hown1;obtain⟨S,hSS⟩:∃S,S=w.1.size+1:=⟨_,rfl⟩;obtain⟨F,hDT⟩:∃F,F=DT.put (.int Q (n:Int)) (.held (.map (O (w.1.size+1)))):=⟨_,rfl⟩;obtain⟨E,hmT'⟩:∃E,E=mT+1:=⟨_,rfl⟩;rw[<-hDT,<-hmT',<-hSS]at hM;have HM:=hid hM;have HS0:H (∀V,jZ w V ⟨z,A,xt,G⟩ tb mb m m T S E 0 D D F (.map []) tr sp who W need n r ep->V.drew.cell? ⟨tb,2,J⟩=O (I Q (n:Int))/\V.drew.cell? ⟨w.1.size,0,J⟩=O (I Q z)/\V.drew.cell? ⟨w.1.size,1,J⟩=O (I Q A)/\V.drew.ownsMap prog 3 cB T E F):=λV h=>zo h;clear hM hSS;have hs0:=HS0.o V HM.o;have p:=hs0;have HLT:H (∀U:Ω,U.ownsMap prog 3 cB T E F->(Instr.lookup 290 (.map (O T)) (I Q (n:Int)) false).run prog U=.ok (.map (O S)) U):=λU hU=>mJ hU gX underlying290 rp (jv om om) (λzd=>by rw[HM.o.j,ak rfl]);obtain⟨c,hrunc,u,hwc⟩:=HM.o.c.lookup_int gX underlying316 underlying2 (uC V) (jv (k:=z) om om)
 have HC:H (c=cA G z (ep n)):=by
  rw[HM.o.i]at u;unfold lL at u;cases hse:dl G z (ep n)
  ·rw[hse]at u;simp at u;show c=_;rw[tJ hse];omega
  rw[hse]at u;simp at u;exact u.symm
 have hcb:=rS G z (ep n) HSB.o;rw[<-HC.o]at hcb;have hc0:=hcb.1;have hc1:c<=5100000:=by have:=hcb.2;have:=HL.o;omega
 have hrunc':(Instr.lookup 316 (.map (O S)) (I Q z) false).run prog V.drew=.ok (I Q c) V.drew:=by obtain⟨c',hr',ha',_⟩:=(HM.o.c.drew).lookup_int gX underlying316 underlying2 (uC V.drew) (jv (k:=z) om om);rw[u]at ha';simp at ha';rw[ha'];exact hr'
 obtain⟨w4,hrun4,hm4,X⟩:=(HM.o.c.drew).update (val:=I Q (c+A)) (d:=.lit (.int Q (c+A))) (ps:=[]) gX underlying316 (by have:=HM.o.h;unfold maxLen;omega) (jv (k:=z) om om) (plainElem_int underlying2 (pO (n:=c+A) om));have HR:=hid hrunc';have HU:=hid hrun4;have HFIN:=hid (HM.o.t.s (x:=⟨z,A,xt,G⟩) HX.o HL.o X HC.o hm4);have HS4:H (w4.cell? ⟨tb,2,J⟩=O (I Q (n:Int))/\w4.cell? ⟨w.1.size,0,J⟩=O (I Q z)/\w4.cell? ⟨w.1.size,1,J⟩=O (I Q A)/\w4.ownsMap prog 3 cB T E F):=by obtain⟨s1,s2,s3,s4⟩:=hs0;have hne:=HM.o.o;exact⟨X.cell s1 (λe=>hne.2.1 (by simpa using e.symm)),X.cell s2 (λe=>hne.2.2 (by simpa using e.symm)),X.cell s3 (λe=>hne.2.2 (by simpa using e.symm)),s4.kept X (λe=>HM.o.f (by simpa using e))⟩
 refine fG (S:=λU=>U.cell? ⟨tb,2,J⟩=O (I Q (n:Int))/\U.cell? ⟨w.1.size,0,J⟩=O (I Q z)/\U.cell? ⟨w.1.size,1,J⟩=O (I Q A)/\U.ownsMap prog 3 cB T E F) kr p (λ_=>?_);refine ar 0 36 (.map (O T)) p ?_;refine ar 1 37 (Y (O ⟨tb,0,J⟩)) p ?_;refine ar 2 38 (Y (O ⟨tb,0,J⟩)) p ?_;refine ar 3 39 (Y (O ⟨tb,2,J⟩)) p ?_;refine aF 4 40 (I Q (n:Int)) rfl rfl kr (λ_ _ _ h=>h) (af ⟨by rfl,λwx C=>by (try dsimp only at C);obtain⟨s1,s2,s3,s4⟩:=C;go_simp⟩) p ?_;simp only[Act.put,az,aA,aB];refine aF 5 41 (.map (O S)) rfl rfl kr (λ_ _ _ h=>h) (af ⟨by rfl,λwx C=>by (try dsimp only at C);obtain⟨s1,s2,s3,s4⟩:=C;have P:=HLT.o _ s4;go_simp⟩) p ?_;simp only[Act.put,az,aA,aB];refine ar 6 42 (Y (O ⟨w.1.size,0,J⟩)) p ?_;refine aF 7 43 (I Q z) rfl rfl kr (λ_ _ _ h=>h) (af ⟨by rfl,λwx C=>by (try dsimp only at C);obtain⟨s1,s2,s3,s4⟩:=C;go_simp⟩) p ?_;simp only[Act.put,az,aA,aB];refine ar 9 45 (Y (O ⟨w.1.size,1,J⟩)) p ?_;refine aF 10 46 (I Q A) rfl rfl kr (λ_ _ _ h=>h) (af ⟨by rfl,λwx C=>by (try dsimp only at C);obtain⟨s1,s2,s3,s4⟩:=C;go_simp⟩) p ?_;simp only[Act.put,az,aA,aB];refine a9 (rs:=[8]) kr sm ?_;refine aQ rfl (λK hK=>?_) aZ;have P:=HR.o;go_simp;refine hK.out _ _ p (λ_=>?_);refine aF 11 47 (I Q (c+A)) rfl rfl kr (λ_ _ _ h=>h) (af ⟨by rfl,λwx _=>by go_simp;exact IntWalk.i64_in _ om⟩) p ?_;simp only[Act.put,az,aA,aB];refine a9 (rs:=[12]) kr sm ?_;refine aQ rfl (λK hK=>?_) aZ;have P:=HU.o;go_simp;refine hK.out _ _ HS4.o (λ_=>?_);refine ea kr ?_ _;go_wp2;go_end0;exact⟨rfl,HFIN.o⟩
end
end
def bF(n:Nat):List UInt8:=Lib.decDigits n
def nH(a:Nat)(l:List UInt8):Nat:=l.foldl (λa c=>a*10+(c.toNat-48)) a
def uI(l:List UInt8):Prop:=∀c∈l,48<=c.toNat/\c.toNat<=57
theorem E2:∀(l:List UInt8)(a:Nat),a<=nH a l
 |[],a=>aa _
 |c::l,a=>by have:=E2 l (a*10+(c.toNat-48));show a<=nH (a*10+(c.toNat-48)) l;omega
theorem Dc:∀(l:List UInt8)(a:Nat),uI l->nH a l<1000000000000000000->Lib.parseUint10 a l=.ok (nH a l)
 |[],a,_,_=>rfl
 |c::l,a,hd,hv=>by have b:=hd c sm;have d:nH (a*10+(c.toNat-48)) l<1000000000000000000:=hv;have f:=E2 l (a*10+(c.toNat-48));rw[Lib.parseUint10,ak b,ag om,ag om];exact Dc l _ (λx e=>hd x (by simp[e])) d
theorem wC{i:Nat}(h:i<10):(UInt8.ofNat (48+i)).toNat=48+i:=by rw[UInt8.toNat_ofNat'];omega
theorem og(n:Nat):uI (bF n):=by
 induction n using Nat.strongRecOn with
 |ind n ih=>
  unfold bF at *;rw[Lib.decDigits];by_cases h:n<10
  ·rw[dif_pos h];intro c a;simp only[pP]at a;subst a;rw[wC h];omega
  rw[dif_neg h];intro c a;rcases dP.1 a with a|a
  ·exact ih (n/10) om c a
  simp only[pP]at a;subst a;rw[wC om];omega
theorem xD(n:Nat):nH 0 (bF n)=n:=by
 induction n using Nat.strongRecOn with
 |ind n ih=>
  unfold bF at *;rw[Lib.decDigits];by_cases h:n<10
  ·rw[dif_pos h];simp only[nH,ka,List.foldl_nil,wC h];omega
  rw[dif_neg h];have:=ih (n/10) om;unfold nH at this⊢;rw[qX,this];simp only[ka,List.foldl_nil,wC (show n%10<10 by omega)];omega
theorem FO(n:Nat):bF n≠[]:=by
 unfold bF;rw[Lib.decDigits];split
 ·simp
 simp
theorem pj{n:Nat}(h:n<100):(bF n).length<=2:=by
 unfold bF;rw[Lib.decDigits];split
 ·simp
 rw[Lib.decDigits,dif_pos om];simp
theorem KP{l:List UInt8}{n:Nat}(b:uI l)(a:l≠[])(e:nH 0 l=n)(f:n<1000000000000000000):Lib.atoiAll l=.ok (n:Int):=by
 match l,a with
 |c::r,_=>
  have g:=b c sm;have d:Lib.parseUint10 0 (c::r)=.ok n:=by rw[Dc _ _ b om,e]
  unfold Lib.atoiAll Lib.parseMag;simp only[show ¬(c.toNat=43\/c.toNat=45) by omega,fL,d,reduceCtorEq];rw[ag om,ag om,ag om]
theorem yT:∀(a b:List UInt8)(c:UInt8),c∉a->Lib.index (a++c::b) [c]=(a.length:Int)
 |[],b,c,_=>by simp[Lib.index]
 |x::a,b,c,h=>by have f:¬c=x:=λe=>h (by simp[e]);have:=yT a b c (λd=>h (by simp[d]));rw[ni,Lib.index,this];rw[ag (by simp[f]),ag sm];simp
theorem Co:∀(a:List UInt8)(c:UInt8),c∉a->Lib.index a [c]=-1
 |[],c,_=>by simp[Lib.index]
 |x::a,c,h=>by have d:¬c=x:=λe=>h (by simp[e]);have:=Co a c (λb=>h (by simp[b]));rw[Lib.index,this];rw[ag (by simp[d]),ak sm]
def ct(l:List UInt8):List UInt8:=(Lib.cut l [32]).1
def au(l:List UInt8):List UInt8:=(Lib.cut l [32]).2.1
theorem ol{a:List UInt8}(b:List UInt8)(h:(32:UInt8)∉a):ct (a++32::b)=a:=by unfold ct Lib.cut;rw[yT a b 32 h,ak om];simp
theorem mi{a:List UInt8}(b:List UInt8)(h:(32:UInt8)∉a):au (a++32::b)=b:=by unfold au Lib.cut;rw[yT a b 32 h,ak om];simp
theorem FP{a:List UInt8}(h:(32:UInt8)∉a):ct a=a:=by unfold ct Lib.cut;rw[Co a 32 h,ag om]
theorem AX(l:List UInt8):(ct l).length<=l.length:=by
 unfold ct Lib.cut;split
 ·simp only[fj];omega
 exact aa _
theorem qv(l:List UInt8):(au l).length<=l.length:=by
 unfold au Lib.cut;split
 ·simp only[jm];omega
 exact aX _
def fD(n lo hi:Int):Bool:=decide (lo<=n)&&decide (n<=hi)
theorem jO{n b a:Int}:fD n b a=true↔b<=n/\n<=a:=by simp[fD]
theorem KQ{n b a:Int}:fD n b a=false↔¬(b<=n/\n<=a):=by rw[<-jO];simp
structure aq where
 a:ByteArray
 e:Int
 c:Int
 g:Int
 b:Int
 d:Int
def mr(c:UInt8):Prop:=97<=c.toNat/\c.toNat<=122
def kt(l:List UInt8):Prop:=1<=l.length/\l.length<=12/\∀c∈l,mr c
def aq.l(r:aq):Prop:=kt r.a.1.toList
def aq.j(r:aq):Prop:=(0<=r.e/\r.e<=3)/\(0<=r.c/\r.c<=7)/\(0<=r.g/\r.g<=7)/\(-1<=r.b/\r.b<=7)/\(1<=r.d/\r.d<=50)
def aq.m(r:aq):Prop:=r.c≠r.g/\r.c≠r.b/\r.g≠r.b
def aq.h(r:aq):Prop:=r.l/\r.j/\r.m
def aq.i(r:aq)(n:Nat):Prop:=(¬r.l/\n=4)\/(r.l/\¬r.j/\n=1)\/(r.l/\r.j/\¬r.m/\n=3)\/(r.h/\n=0)
theorem mO{r:aq}{n:Nat}(h:r.i n):n=0↔r.h:=by
 rcases h with ⟨h1,rfl⟩|⟨_,h1,rfl⟩|⟨_,_,h1,rfl⟩|⟨h1,rfl⟩
 ·exact⟨λh=>by omega,λh=>absurd h.1 h1⟩
 ·exact⟨λh=>by omega,λh=>absurd h.2.1 h1⟩
 ·exact⟨λh=>by omega,λh=>absurd h.2.2 h1⟩
 exact⟨λ_=>h1,λ_=>rfl⟩
theorem vL(r:aq):∃n,r.i n:=by
 by_cases a:r.l
 ·by_cases b:r.j
  ·by_cases c:r.m
   ·exact⟨0,ah (ah (ah ⟨⟨a,b,c⟩,rfl⟩))⟩
   exact⟨3,ah (ah (af ⟨a,b,c,rfl⟩))⟩
  exact⟨1,ah (af ⟨a,b,rfl⟩)⟩
 exact⟨4,af ⟨a,rfl⟩⟩
theorem qh{r:aq}{n m:Nat}(h:r.i n)(d:r.i m):n=m:=by rcases h with ⟨a,rfl⟩|⟨a,b,rfl⟩|⟨a,b,c,rfl⟩|⟨a,rfl⟩<;>rcases d with ⟨a',rfl⟩|⟨a',b',rfl⟩|⟨a',b',c',rfl⟩|⟨a',rfl⟩<;>first|rfl|(exfalso;first|exact a a'|exact a' a|exact b b'|exact b' b|exact c c'|exact c' c|exact a a'.1|exact b a'.2.1|exact c a'.2.2|exact a' a.1|exact b' a.2.1|exact c' a.2.2)
def iw:Nat->List UInt8|0=>[97,110,121]|1=>[105,116,101,109]|2=>[99,97,115,101]|_=>[112,97,108,108,101,116]
def rz:List UInt8:=[116,104,101,110]
def kj:List UInt8:=[119,105,116,104,111,117,116]
def mK:List UInt8:=[119,105,116,104,105,110]
def qE(r:aq):List (List UInt8):=[mK,bF r.d.toNat]
def ry(r:aq):List (List UInt8):=if r.b=-1 then qE r else kj::bF r.b.toNat::qE r
def oo(r:aq):List (List UInt8):=(r.a.1.toList++[58])::iw r.e.toNat::bF r.c.toNat::rz::bF r.g.toNat::ry r
def qy(r:aq):List UInt8:=Lib.join (oo r) [32]
def gV(r:aq):ByteArray:=⟨(qy r).toArray⟩
theorem tK(r:aq):(gV r).1.toList=qy r:=List.toList_toArray
theorem me(x y:List UInt8)(r:List (List UInt8)):Lib.join (x::y::r) [32]=x++32::Lib.join (y::r) [32]:=by rw[Lib.join_cons,Lib.join_cons];simp[Lib.joinTail]
def rA(r:aq):List UInt8:=mK++32::bF r.d.toNat
def sK(r:aq):List UInt8:=if r.b=-1 then rA r else kj++32::(bF r.b.toNat++32::rA r)
theorem vo(r:aq):qy r=(r.a.1.toList++[58])++32::(iw r.e.toNat++32::(bF r.c.toNat++32::(rz++32::(bF r.g.toNat++32::sK r)))):=by
 unfold qy oo ry sK qE rA;split
 ·rw[me,me,me,me,me,me,Lib.join_one]
 rw[me,me,me,me,me,me,me,me,Lib.join_one]
theorem qZ{l:List UInt8}(h:uI l):(32:UInt8)∉l:=by intro a;have:=(h 32 a).1;exact absurd this dc
theorem DY(k:Nat):(32:UInt8)∉iw k:=by unfold iw;split<;>decide
theorem Cz{l:List UInt8}(h:kt l):(32:UInt8)∉l++[58]:=by
 intro a;rcases dP.1 a with a|a
 ·have:=(h.2.2 32 a).1;exact absurd this dc
 simp at a
theorem FQ(k:Nat):(iw k).length<=6:=by unfold iw;split<;>decide
theorem KR{r:aq}(h:r.h):(qy r).length<=60:=by obtain⟨a,⟨s,j,q,l,k⟩,p⟩:=h;have u:=a.2.1;have i:=FQ r.e.toNat;have f:=pj (n:=r.c.toNat) om;have m:=pj (n:=r.g.toNat) om;have o:=pj (n:=r.b.toNat) om;have t:=pj (n:=r.d.toNat) om;rw[vo];unfold sK rA rz kj mK;split<;>simp only[bU,eF,mH]<;>omega
def ef(x:List UInt8):Int:=match Lib.atoiAll x with
 |.ok v=>v
 |.range=>Lib.atoiSat x
 |_=>0
theorem su{n:Int}(a:0<=n)(h:n<1000):ef (bF n.toNat)=n:=by unfold ef;rw[KP (n:=n.toNat) (og _) (FO _) (xD _) om];show ((n.toNat:Nat):Int)=n;omega
def mq(x:List UInt8):Int:=if iw 0=x then 0 else if iw 1=x then 1 else if iw 2=x then 2 else if iw 3=x then 3 else -1
theorem DZ{k:Int}(a:0<=k)(h:k<=3):mq (iw k.toNat)=k:=by have:k=0\/k=1\/k=2\/k=3:=om;rcases this with rfl|rfl|rfl|rfl<;>decide
def mh(l:List UInt8):aq:=
 if ct (au (au (au (au (au l)))))=kj then
  ⟨⟨(Lib.trimSuffix (ct l) [58]).toArray⟩,mq (ct (au l)),ef (ct (au (au l))),ef (ct (au (au (au (au l))))),ef (ct (au (au (au (au (au (au l))))))),ef (ct (au (au (au (au (au (au (au (au l)))))))))⟩
 else
  ⟨⟨(Lib.trimSuffix (ct l) [58]).toArray⟩,mq (ct (au l)),ef (ct (au (au l))),ef (ct (au (au (au (au l))))),-1,ef (ct (au (au (au (au (au (au l)))))))⟩
theorem CA(l:List UInt8):Lib.trimSuffix (l++[58]) [58]=l:=by unfold Lib.trimSuffix Lib.hasSuffix;rw[ak (by rw[List.isSuffixOf_iff_suffix];exact List.suffix_append _ _)];simp
theorem JD{r:aq}(h:r.h):mh (qy r)=r:=by
 obtain⟨z,⟨a,i,m,y,x⟩,A⟩:=h;obtain⟨o,k,f,t,p,j⟩:=r;simp only at a i m y x;have d:=Cz (l:=o.1.toList) z;have c:=DY k.toNat;have b:=qZ (og f.toNat);have v:(32:UInt8)∉rz:=by decide
 have g:=qZ (og t.toNat);have n:(32:UInt8)∉mK:=by decide
 have s:(32:UInt8)∉kj:=by decide
 have q:=qZ (og p.toNat);have w:=qZ (og j.toNat);have e:(⟨o.1.toList.toArray⟩:ByteArray)=o:=by simp
 rw[vo];unfold mh sK rA;by_cases u:p=-1
 ·subst u;simp only[ol _ d,mi _ d,ol _ c,mi _ c,ol _ b,mi _ b,mi _ v,ol _ g,mi _ g,ol _ n,mi _ n,FP w,iP,CA,DZ a.1 a.2,su i.1 om,su m.1 om,su (show 0<=j by omega) om,e];rw[ag dc]
 simp only[ag u,ol _ d,mi _ d,ol _ c,mi _ c,ol _ b,mi _ b,mi _ v,ol _ g,mi _ g,mi _ n,ol _ s,mi _ s,ol _ q,mi _ q,FP w,iP,CA,DZ a.1 a.2,su i.1 om,su m.1 om,su (show 0<=j by omega) om,su (show 0<=p by omega) om,e]
def bT(s:ByteArray)(r:aq):Prop:=r.h/\gV r=s
theorem yK{s:ByteArray}{r:aq}(h:bT s r):mh s.1.toList=r:=by rw[<-h.2,tK];exact JD h.1
theorem JE{s:ByteArray}{r a:aq}(h:bT s r)(b:bT s a):r=a:=(yK h).symm.trans (yK b)
section
open Go.RowKit
theorem nV(n a b:Int)(w:Ω):
  Φ prog 177 #[I Q n,I Q a,I Q b] w λe f=>e=N (.bool (fD n a b))/\f=w:=by
 by_cases d:a<=n
 ·by_cases g:n<=b
  ·have c:fD n a b=true:=(by simp[fD,d,g]);rw[c];go_enter func177,ntmps177;go_wp2;go_ret;exact⟨rfl,rfl⟩
  have c:fD n a b=false:=(by simp[fD];omega);rw[c];go_enter func177,ntmps177;go_wp2;go_ret;exact⟨by simp,rfl⟩
 have c:fD n a b=false:=by simp[fD];omega
 rw[c];have h:decide (a<=n)=false:=by simpa using d
 go_enter func177,ntmps177;go_wp2;go_ret;exact⟨rfl,rfl⟩
def ox(s:ByteArray)(k:Nat):Prop:=∀c∈s.1.toList.take k,mr c
theorem D2{s:ByteArray}{k:Nat}(d:k<s.size):ox s (k+1)↔ox s k/\mr s[k]:=by
 unfold ox;have b:k<s.1.toList.length:=by simpa using d
 rw[iA b];constructor
 ·intro h;exact⟨λc a=>h c (rQ _ a),h _ (List.mem_append_right _ (by simp;rfl))⟩
 rintro⟨e,f⟩ c a;rcases dP.1 a with a|a
 ·exact e c a
 simp only[pP]at a;rw[a];exact f
theorem E4{s:ByteArray}:ox s s.size↔∀c∈s.1.toList,mr c:=by unfold ox;rw[ip sm]
theorem vh(s:ByteArray):s.1.toList.length=s.size:=by simp
theorem xk{s:ByteArray}{k:Nat}(d:k<s.size)(h:¬mr s[k]):¬∀c∈s.1.toList,mr c:=by
 intro b;refine h (b _ ?_);have a:k<s.1.toList.length:=by simpa using d
 exact eG a
theorem JF(s:ByteArray)(w:Ω)(F:s.size<=9223372036854775807){b:Bool}(y:b=true↔kt s.1.toList):
  Φ prog 176 #[Z s] w λe r=>e=N (.bool b)/\r=w:=by
 have p:=hid y;by_cases j:fD (s.size:Int) 1 12=true
 case neg=>
  have j:fD (s.size:Int) 1 12=false:=by simpa using j
  go_enter func176,ntmps176;go_wp2_with (first|(go_at_call 177;refine(nV _ _ _ _).m ?_;rintro e r ⟨rfl,rfl⟩;rw[j]));go_ret;have E:=KQ.1 j;have C:¬kt s.1.toList:=by unfold kt;rw[vh];omega
  have f:b=false:=by rw[<-kR,p.o];exact C
  rw[f];exact⟨rfl,rfl⟩
 have P:=jO.1 j;have n:s.size<=12:=om;have x:1<=s.size:=om;go_enter func176,ntmps176;go_wp2_with (first|(go_at_call 177;refine(nV _ _ _ _).m ?_;rintro e r ⟨rfl,rfl⟩;rw[j]));go_loop [3,10] (λ_ i=>∃k:Nat,k<=s.size/\i=I Q k/\ox s k) (λ_ i=>s.size-(intOf i).toNat)
 case atStart=>exact⟨0,aX _,rfl,λc D=>by simp at D⟩
 case round=>
  obtain⟨k,L,rfl,l⟩:=hrel;have z:=hid l;by_cases d:k<s.size
  case neg=>
   obtain rfl:k=s.size:=om;go_wp2;go_ret
   have f:b=true:=p.o.2 (by
    unfold kt;rw[vh];exact⟨x,n,E4.1 z.o⟩)
   rw[f];exact⟨rfl,rfl⟩
  have A:(k:Int)<s.size:=om;have y:=s[k].toNat_lt;by_cases K:s[k].toNat<97
  ·have a:(s[k].toNat:Int)<97:=om;have v:decide ((s[k].toNat:Int)<97)=true:=(by simpa using a);have u:H (¬∀c∈s.1.toList,mr c):=xk d (λh=>by unfold mr at h;omega);go_wp2;go_ret;have f:b=false:=(by rw[<-kR,p.o];exact λh=>u.o h.2.2);rw[f];exact⟨rfl,rfl⟩
  have a:¬(s[k].toNat:Int)<97:=om;have v:decide ((s[k].toNat:Int)<97)=false:=(by simpa using a);by_cases G:122<s[k].toNat
  ·have g:122<(s[k].toNat:Int):=om;have t:decide (122<(s[k].toNat:Int))=true:=(by simpa using g);have u:H (¬∀c∈s.1.toList,mr c):=xk d (λh=>by unfold mr at h;omega);go_wp2;go_ret;have f:b=false:=(by rw[<-kR,p.o];exact λh=>u.o h.2.2);rw[f];exact⟨rfl,rfl⟩
  have g:¬122<(s[k].toNat:Int):=om;have t:decide (122<(s[k].toNat:Int))=false:=(by simpa using g);have q:=hid ((D2 d).2 ⟨z.o,by unfold mr;omega⟩);go_wp2;go_round
  case rel=>exact⟨k+1,om,by go_num,q.o⟩
  simp[intOf];omega
def aL(r:aq):Value:=.agg #[Z r.a,I Q r.e,I Q r.c,I Q r.g,I Q r.b,I Q r.d]
def lc(n:Nat):Value:=if n=0 then .nilIface else .iface 57 (I Q (n:Int))
theorem E3(r:aq):r.j↔fD r.e 0 3=true/\fD r.c 0 7=true/\fD r.g 0 7=true/\fD r.b (-1) 7=true/\fD r.d 1 50=true:=by simp only[jO];exact Iff.rfl
theorem wV(r:aq)(w:Ω)(hs:r.a.size<=9223372036854775807){n:Nat}(E:r.i n):
  Φ prog 130 #[aL r] w λe f=>e=N (lc n)/\B w.1.size w f:=by
 have g:=E3 r;obtain⟨u,K,F,T,c,d⟩:=r;simp only at hs g;unfold aL;simp only;have HN:H (∀V (b:Bool),(b=true↔kt u.1.toList)->Φ prog 176 #[Z u] V λe f=>e=N (.bool b)/\f=V):=λV b hb=>JF u V hs hb;by_cases p:kt u.1.toList
 case neg=>have W:=qh E (af ⟨p,rfl⟩);subst W;have k:H (∀V,Φ prog 176 #[Z u] V λe f=>e=N (.bool false)/\f=V):=λV=>HN.o V false ⟨λh=>Bool.noConfusion h,λh=>absurd h p⟩;go_enter func130,ntmps130;go_wp2_with (first|(go_at_call 176;refine(k.o _).m ?_;rintro e f ⟨rfl,rfl⟩));go_ret;exact⟨rfl,ba⟩
 have k:H (∀V,Φ prog 176 #[Z u] V λe f=>e=N (.bool true)/\f=V):=λV=>HN.o V true ⟨λ_=>p,λ_=>rfl⟩;have s:H (¬(aq.mk u K F T c d).j->n=1):=λh=>qh E (ah (af ⟨p,h,rfl⟩));have X:H ((aq.mk u K F T c d).j->¬(F≠T/\F≠c/\T≠c)->n=3):=λh U=>qh E (ah (ah (af ⟨p,h,U,rfl⟩)));have a1:H ((aq.mk u K F T c d).j->(F≠T/\F≠c/\T≠c)->n=0):=λh U=>qh E (ah (ah (ah ⟨⟨p,h,U⟩,rfl⟩)));by_cases A:fD K 0 3=true
 case neg=>
  have l:=s.o (λh=>A (g.1 h).1);subst l;have A:fD K 0 3=false:=by simpa using A
  go_enter func130,ntmps130;go_wp2_with (first|(go_at_call 176;refine(k.o _).m ?_;rintro e f ⟨rfl,rfl⟩)|(go_at_call 177;refine(nV _ _ _ _).m ?_;rintro e f ⟨rfl,rfl⟩));go_ret;exact⟨rfl,ba⟩
 by_cases G:fD F 0 7=true
 case neg=>
  have l:=s.o (λh=>G (g.1 h).2.1);subst l;have G:fD F 0 7=false:=by simpa using G
  go_enter func130,ntmps130;go_wp2_with (first|(go_at_call 176;refine(k.o _).m ?_;rintro e f ⟨rfl,rfl⟩)|(go_at_call 177;refine(nV _ _ _ _).m ?_;rintro e f ⟨rfl,rfl⟩));go_ret;exact⟨rfl,ba⟩
 by_cases L:fD T 0 7=true
 case neg=>
  have l:=s.o (λh=>L (g.1 h).2.2.1);subst l;have L:fD T 0 7=false:=by simpa using L
  go_enter func130,ntmps130;go_wp2_with (first|(go_at_call 176;refine(k.o _).m ?_;rintro e f ⟨rfl,rfl⟩)|(go_at_call 177;refine(nV _ _ _ _).m ?_;rintro e f ⟨rfl,rfl⟩));go_ret;exact⟨rfl,ba⟩
 by_cases z:fD c (-1) 7=true
 case neg=>
  have l:=s.o (λh=>z (g.1 h).2.2.2.1);subst l;have z:fD c (-1) 7=false:=by simpa using z
  go_enter func130,ntmps130;go_wp2_with (first|(go_at_call 176;refine(k.o _).m ?_;rintro e f ⟨rfl,rfl⟩)|(go_at_call 177;refine(nV _ _ _ _).m ?_;rintro e f ⟨rfl,rfl⟩));go_ret;exact⟨rfl,ba⟩
 by_cases D:fD d 1 50=true
 case neg=>
  have l:=s.o (λh=>D (g.1 h).2.2.2.2);subst l;have D:fD d 1 50=false:=by simpa using D
  go_enter func130,ntmps130;go_wp2_with (first|(go_at_call 176;refine(k.o _).m ?_;rintro e f ⟨rfl,rfl⟩)|(go_at_call 177;refine(nV _ _ _ _).m ?_;rintro e f ⟨rfl,rfl⟩));go_ret;exact⟨rfl,ba⟩
 have hB:=g.2 ⟨A,G,L,z,D⟩;have t:=hid (X.o hB);have v:=hid (a1.o hB);by_cases C:F=T
 case pos=>
  have q:=t.o (λh=>absurd C h.1);subst q;have R:(F == T)=true:=by simpa using C
  go_enter func130,ntmps130;go_wp2_with (first|(go_at_call 176;refine(k.o _).m ?_;rintro e f ⟨rfl,rfl⟩)|(go_at_call 177;refine(nV _ _ _ _).m ?_;rintro e f ⟨rfl,rfl⟩));go_ret;exact⟨rfl,ba⟩
 have R:(F == T)=false:=by simpa using C
 by_cases x:F=c
 case pos=>
  have q:=t.o (λh=>absurd x h.2.1);subst q;have P:(F == c)=true:=by simpa using x
  clear t v x;go_enter func130,ntmps130;go_wp2_with (first|(go_at_call 176;refine(k.o _).m ?_;rintro e f ⟨rfl,rfl⟩)|(go_at_call 177;refine(nV _ _ _ _).m ?_;rintro e f ⟨rfl,rfl⟩));go_ret;exact⟨rfl,ba⟩
 have P:(F == c)=false:=by simpa using x
 by_cases y:T=c
 case pos=>
  have q:n=3:=t.o (λh=>absurd y h.2.2);subst q;have S:(T == c)=true:=by simpa using y
  clear t v y;go_enter func130,ntmps130;go_wp2_with (first|(go_at_call 176;refine(k.o _).m ?_;rintro e f ⟨rfl,rfl⟩)|(go_at_call 177;refine(nV _ _ _ _).m ?_;rintro e f ⟨rfl,rfl⟩));go_ret;exact⟨rfl,ba⟩
 have S:(T == c)=false:=by simpa using y
 have a0:=v.o ⟨C,x,y⟩;subst a0;go_enter func130,ntmps130;go_wp2_with (first|(go_at_call 176;refine(k.o _).m ?_;rintro e f ⟨rfl,rfl⟩)|(go_at_call 177;refine(nV _ _ _ _).m ?_;rintro e f ⟨rfl,rfl⟩));go_ret;exact⟨rfl,ba⟩
end
section
open Go.RowKit
def cR(j:Nat):ByteArray:=⟨(iw j).toArray⟩
structure aT (w : Ω):Prop where
 b : 11<=w.1.size
 d:∀ j:Nat,j<4->w.cell? ⟨0,j,J⟩=O (Z (cR j))
 h:Lib.TabIs prog w "internal/strconv.uint64pow10" .u64 Lib.pow10Tab
 g:∃ m,w.cell? ⟨4,0,J⟩=O (I Q m)
 f:∃ te pe,w.cell? ⟨5,0,J⟩=O (.iface te pe)
 e:∃ te pe,w.cell? ⟨6,0,J⟩=O (.iface te pe)
theorem Ha:prog.globalNamed "internal/strconv.uint64pow10"=O 3:=kr
theorem aT.c{w w':Ω}{a:Nat}(h:aT w)(i:B a w w')(l:11<=a):aT w' where
 b:=aP h.b i.size
 d:=λj k=>by rw[i.cell (by show 0<a;omega)];exact h.d j k
 h:=var?_below i Ha om h.h
 g:=by rw[i.cell (by show 4<a;omega)];exact h.g
 f:=by rw[i.cell (by show 5<a;omega)];exact h.f
 e:=by rw[i.cell (by show 6<a;omega)];exact h.e
theorem aT.a{w w':Ω}(h:aT w)(d:B w.1.size w w'):aT w':=h.c d h.b
theorem D3(a b:ByteArray):(a.toList == b.toList)=true↔a=b:=by rw[beq_iff_eq,cY,cY];exact⟨λh=>ke (nU.1 h),λh=>by rw[h]⟩
theorem pX{a b:ByteArray}(h:a=b):(a.toList == b.toList)=true:=(D3 a b).2 h
theorem pU{a b:ByteArray}(h:¬a=b):(a.toList == b.toList)=false:=by rw[<-kR,D3];exact h
theorem MS{a:List UInt8}{b:ByteArray}:(⟨a.toArray⟩:ByteArray)=b↔a=b.1.toList:=by
 constructor
 ·rintro rfl;simp
 intro h;rw[h]
theorem Hb(a b c d:Value)(w:Ω):(Instr.index 81 (.agg #[a,b,c,d]) (I Q 0)).run prog w=.ok a w:=kr
theorem Hc(a b c d:Value)(w:Ω):(Instr.index 81 (.agg #[a,b,c,d]) (I Q 1)).run prog w=.ok b w:=kr
theorem Hd(a b c d:Value)(w:Ω):(Instr.index 81 (.agg #[a,b,c,d]) (I Q 2)).run prog w=.ok c w:=kr
theorem He(a b c d:Value)(w:Ω):(Instr.index 81 (.agg #[a,b,c,d]) (I Q 3)).run prog w=.ok d w:=kr
theorem JG(b:ByteArray)(w:Ω)(s:w.cell? ⟨0,0,J⟩=O (Z (cR 0)))(y:w.cell? ⟨0,1,J⟩=O (Z (cR 1)))(v:w.cell? ⟨0,2,J⟩=O (Z (cR 2)))(u:w.cell? ⟨0,3,J⟩=O (Z (cR 3))):
  Φ prog 129 #[Z b] w λe n=>e=N (I Q (mq b.1.toList))/\n=w:=by
 have r:=Hb;have q:=Hc;have t:=Hd;have x:=He;have f:H (∀j:Nat,cR j=b↔iw j=b.1.toList):=λj=>MS;go_enter func129,ntmps129;go_wp2;go_loop [3,4,6] (λ_ _ i=>∃k:Nat,k<=4/\i=I Q k/\∀j:Nat,j<k->¬cR j=b) (λ_ _ i=>4-(intOf i).toNat)
 case atStart=>exact⟨0,aX _,rfl,λj h=>by omega⟩
 case round=>
  obtain⟨k,p,rfl,m⟩:=hrel;have g:=hid m
  match k,p with
 |0,_=>
   by_cases a:cR 0=b
   ·have c:=pX a;have d:=hid a;go_wp2;go_ret;refine⟨?_,rfl⟩;unfold mq;rw[ak ((f.o 0).1 d.o)];rfl
   ·have c:=pU a;have d:=hid a;go_wp2;go_round
    case rel=>exact⟨1,om,rfl,λj l=>by
     by_cases e:j=0
     ·subst e;exact d.o
     ·exact g.o j om⟩
    simp[intOf]
 |1,_=>
   by_cases a:cR 1=b
   ·have c:=pX a;have d:=hid a;go_wp2;go_ret;refine⟨?_,rfl⟩;unfold mq;rw[ag (λh=>g.o 0 om ((f.o 0).2 h))];rw[ak ((f.o 1).1 d.o)];rfl
   ·have c:=pU a;have d:=hid a;go_wp2;go_round
    case rel=>exact⟨2,om,rfl,λj l=>by
     by_cases e:j=1
     ·subst e;exact d.o
     ·exact g.o j om⟩
    simp[intOf]
 |2,_=>
   by_cases a:cR 2=b
   ·have c:=pX a;have d:=hid a;go_wp2;go_ret;refine⟨?_,rfl⟩;unfold mq;rw[ag (λh=>g.o 0 om ((f.o 0).2 h))];rw[ag (λh=>g.o 1 om ((f.o 1).2 h))];rw[ak ((f.o 2).1 d.o)];rfl
   ·have c:=pU a;have d:=hid a;go_wp2;go_round
    case rel=>exact⟨3,om,rfl,λj l=>by
     by_cases e:j=2
     ·subst e;exact d.o
     ·exact g.o j om⟩
    simp[intOf]
 |3,_=>
   by_cases a:cR 3=b
   ·have c:=pX a;have d:=hid a;go_wp2;go_ret;refine⟨?_,rfl⟩;unfold mq;rw[ag (λh=>g.o 0 om ((f.o 0).2 h))];rw[ag (λh=>g.o 1 om ((f.o 1).2 h))];rw[ag (λh=>g.o 2 om ((f.o 2).2 h))];rw[ak ((f.o 3).1 d.o)];rfl
   ·have c:=pU a;have d:=hid a;go_wp2;go_round
    case rel=>exact⟨4,om,rfl,λj l=>by
     by_cases e:j=3
     ·subst e;exact d.o
     ·exact g.o j om⟩
    simp[intOf]
 |4,_=>
   go_wp2;go_ret;refine⟨?_,rfl⟩;unfold mq;rw[ag (λh=>g.o 0 om ((f.o 0).2 h)),ag (λh=>g.o 1 om ((f.o 1).2 h)),ag (λh=>g.o 2 om ((f.o 2).2 h)),ag (λh=>g.o 3 om ((f.o 3).2 h))];rfl
end
section
open Go.RowKit
structure ed (V:Ω) (r:Nat) (a b c d e f:Value):Prop where
 m:V.cell? ⟨r,0,J⟩=O a
 j:V.cell? ⟨r,1,J⟩=O b
 k:V.cell? ⟨r,2,J⟩=O c
 l:V.cell? ⟨r,3,J⟩=O d
 g:V.cell? ⟨r,4,J⟩=O e
 h:V.cell? ⟨r,5,J⟩=O f
 n:∀i:Nat,V.frozen? ⟨r,i,J⟩=false
 o:r<V.1.size
theorem CB{V V':Ω}{r:Nat}(h:V'.1[r]?=V.1[r]?)(i:Nat):V'.frozen? ⟨r,i,J⟩=V.frozen? ⟨r,i,J⟩:=by unfold World.frozen?;simp only[h]
theorem ed.p{V V':Ω}{r:Nat}{a b c d e f:Value}(h:ed V r a b c d e f)(q:V'.1[r]?=V.1[r]?)(s:V.1.size<=V'.1.size):ed V' r a b c d e f where
 m:=by rw[bW q];exact h.m
 j:=by rw[bW q];exact h.j
 k:=by rw[bW q];exact h.k
 l:=by rw[bW q];exact h.l
 g:=by rw[bW q];exact h.g
 h:=by rw[bW q];exact h.h
 n:=λi=>by rw[CB q];exact h.n i
 o:=bg h.o s
theorem ed.q{V:Ω}{r:Nat}{a b c d e f:Value}(h:ed V r a b c d e f)(p:Addr)(v:Value)(g:r≠p.block):ed (V.setCell p v) r a b c d e f:=
 h.p (bN V p v r g) (by simp[World.setCell])
end
section
open Go.RowKit
def ae(l:List UInt8):ByteArray:=⟨l.toArray⟩
theorem bX(l:List UInt8):(ae l).1.toList=l:=List.toList_toArray
theorem aV(l:List UInt8):(ae l).size=l.length:=by show l.toArray.size=_;simp
theorem xE(s:ByteArray):ae s.1.toList=s:=by unfold ae;simp
theorem PB(l:List UInt8)(w:Ω)(c:aT w)(b:l.length<4294967281):
  Φ prog 126 #[Z (ae l),Z ⟨#[32]⟩] w λe a=>e=N (Ψ #[Z (ae (ct l)),Z (ae (au l)),.bool (Lib.cut l [32]).2.2])/\∃n,a=w.drewN n:=by
 obtain⟨m,d⟩:=c.g;have h:=strings_Cut (ae l) ⟨#[32]⟩ m w (by rw[aV];exact b) d;rw[bX]at h;exact h
theorem yA(w:Ω)(t:ByteArray):B w.1.size w (Lib.bytesWorld w 5 t):=by exact⟨rfl,rfl,rfl,by rw[Lib.bytesWorld_size];omega,λj a=>Lib.bytesWorld_at_old w 5 t j a⟩
structure Sp (l:List UInt8) (w:Ω) (e:Ending) (w':Ω):Prop where
 b:∃v,e=N (Ψ #[I Q (ef l),v])
 a:B w.1.size w w'
theorem MT(l:List UInt8)(w:Ω)(n:aT w)(o:l.length<4294967281):
  Φ prog 91 #[Z (ae l)] w λe g=>Sp l w e g:=by
 have p:=aV l;have d:=bX l;cases h':Lib.atoiAll l with
 |ok v=>
  refine(strconv_Atoi_ok (ae l) om v (by rw[d];exact h') w).m ?_;have c:ef l=v:=by unfold ef;rw[h']
  rintro e g ⟨b,rfl|⟨t,rfl⟩⟩
  ·exact⟨⟨_,by rw[c];exact b⟩,aj _ _⟩
  exact⟨⟨_,by rw[c];exact b⟩,yA w t⟩
 |«syntax»=>
  obtain⟨h,k,j⟩:=n.f;refine(strconv_Atoi_syntax (ae l) om (by rw[d];exact h') _ w j (ah ⟨h,k,rfl⟩)).m ?_;have c:ef l=0:=by unfold ef;rw[h']
  rintro e g ⟨a,b,_,_,i⟩;exact⟨⟨_,by rw[c];exact b⟩,i⟩
 |range=>
  obtain⟨h,k,j⟩:=n.e;refine(strconv_Atoi_range (ae l) om (by rw[d];exact h') _ w j (ah ⟨h,k,rfl⟩)).m ?_;have c:ef l=Lib.atoiSat l:=by unfold ef;rw[h']
  rintro e g ⟨a,b,_,_,i⟩;exact⟨⟨_,by rw[c,<-d];exact b⟩,i⟩
theorem MV(l:List UInt8)(w:Ω)(b:l.length<4294967281):
  Φ prog 128 #[Z (ae l),Z ⟨#[58]⟩] w λe a=>e=N (Z (ae (Lib.trimSuffix l [58])))/\a=w:=by
 have h:=strings_TrimSuffix (ae l) ⟨#[58]⟩ w (by rw[aV];omega);rw[bX]at h;exact h
theorem KS(w:Ω)(a:Addr)(v:Value)(d:Nat):(w.drewN d).setCell a v=(w.setCell a v).drewN d:=by
 induction d with
 |zero=>rfl
 |succ d ih=>exact congrArg World.drew ih
theorem MU(l:List UInt8)(w:Ω)(a:Nat)(f:aT w)(c:l.length<4294967281)(h:w.cell? ⟨a,0,J⟩=O (Z (ae l)))(j:w.frozen? ⟨a,0,J⟩=false):
  Φ prog 125 #[Y (O ⟨a,0,J⟩)] w λe b=>e=N (Z (ae (ct l)))/\∃d,b=(w.setCell ⟨a,0,J⟩ (Z (ae (au l)))).drewN d:=by
 have g:=hid f;go_enter func125,ntmps125;go_wp2_with fail;refine(PB l _ g.o c).m ?_;rintro e i ⟨rfl,d,rfl⟩;have k:=KS;go_wp2;go_ret;exact⟨rfl,_,rfl⟩
open Go.RowKit
structure lT (w V:Ω) (cur:List UInt8) (a b c d e f:Value):Prop where
 s:11<=w.1.size
 j:aT V
 k:B w.1.size w V
 o:V.cell? ⟨w.1.size,0,J⟩=O (Z (ae cur))
 q:V.frozen? ⟨w.1.size,0,J⟩=false
 h:V.cell? ⟨w.1.size+1+1,0,J⟩=O (.func (.func 125) #[] #[Y (O ⟨w.1.size,0,J⟩)])
 g:ed V (w.1.size+1+1+1) a b c d e f
 i:ed V (w.1.size+1) (Z ⟨#[]⟩) (I Q 0) (I Q 0) (I Q 0) (I Q 0) (I Q 0)
theorem lT.t{w V V':Ω}{n:List UInt8}{a b c d e f:Value}(h:lT w V n a b c d e f)(l:B V.1.size V V'):lT w V' n a b c d e f where
 s:=h.s
 j:=h.j.a l
 k:=h.k.t (l.m h.k.size)
 o:=by rw[l.cell (by have:=h.g.o;show w.1.size<_;omega)];exact h.o
 q:=by rw[CB (l.block _ (by have:=h.g.o;omega))];exact h.q
 h:=by rw[l.cell (by have:=h.g.o;show w.1.size+1+1<_;omega)];exact h.h
 g:=h.g.p (l.block _ h.g.o) l.size
 i:=h.i.p (l.block _ h.i.o) l.size
theorem ed.x{V:Ω}{r:Nat}{a b c d e f:Value}(h:ed V r a b c d e f)(x:Value):ed (V.setCell ⟨r,0,J⟩ x) r x b c d e f where
 m:=nR _ _ _ (by rw[h.m];rfl)
 j:=by rw[dB (a:=⟨r,0,J⟩) (b:=⟨r,1,J⟩) (h:=by intro p;cases p)];exact h.j
 k:=by rw[dB (a:=⟨r,0,J⟩) (b:=⟨r,2,J⟩) (h:=by intro p;cases p)];exact h.k
 l:=by rw[dB (a:=⟨r,0,J⟩) (b:=⟨r,3,J⟩) (h:=by intro p;cases p)];exact h.l
 g:=by rw[dB (a:=⟨r,0,J⟩) (b:=⟨r,4,J⟩) (h:=by intro p;cases p)];exact h.g
 h:=by rw[dB (a:=⟨r,0,J⟩) (b:=⟨r,5,J⟩) (h:=by intro p;cases p)];exact h.h
 n:=λi=>by rw[oR];exact h.n i
 o:=by simpa [World.setCell] using h.o
theorem ed.t{V:Ω}{r:Nat}{a b c d e f:Value}(h:ed V r a b c d e f)(x:Value):ed (V.setCell ⟨r,1,J⟩ x) r a x c d e f where
 m:=by rw[dB (a:=⟨r,1,J⟩) (b:=⟨r,0,J⟩) (h:=by intro p;cases p)];exact h.m
 j:=nR _ _ _ (by rw[h.j];rfl)
 k:=by rw[dB (a:=⟨r,1,J⟩) (b:=⟨r,2,J⟩) (h:=by intro p;cases p)];exact h.k
 l:=by rw[dB (a:=⟨r,1,J⟩) (b:=⟨r,3,J⟩) (h:=by intro p;cases p)];exact h.l
 g:=by rw[dB (a:=⟨r,1,J⟩) (b:=⟨r,4,J⟩) (h:=by intro p;cases p)];exact h.g
 h:=by rw[dB (a:=⟨r,1,J⟩) (b:=⟨r,5,J⟩) (h:=by intro p;cases p)];exact h.h
 n:=λi=>by rw[oR];exact h.n i
 o:=by simpa [World.setCell] using h.o
theorem ed.u{V:Ω}{r:Nat}{a b c d e f:Value}(h:ed V r a b c d e f)(x:Value):ed (V.setCell ⟨r,2,J⟩ x) r a b x d e f where
 m:=by rw[dB (a:=⟨r,2,J⟩) (b:=⟨r,0,J⟩) (h:=by intro p;cases p)];exact h.m
 j:=by rw[dB (a:=⟨r,2,J⟩) (b:=⟨r,1,J⟩) (h:=by intro p;cases p)];exact h.j
 k:=nR _ _ _ (by rw[h.k];rfl)
 l:=by rw[dB (a:=⟨r,2,J⟩) (b:=⟨r,3,J⟩) (h:=by intro p;cases p)];exact h.l
 g:=by rw[dB (a:=⟨r,2,J⟩) (b:=⟨r,4,J⟩) (h:=by intro p;cases p)];exact h.g
 h:=by rw[dB (a:=⟨r,2,J⟩) (b:=⟨r,5,J⟩) (h:=by intro p;cases p)];exact h.h
 n:=λi=>by rw[oR];exact h.n i
 o:=by simpa [World.setCell] using h.o
theorem ed.v{V:Ω}{r:Nat}{a b c d e f:Value}(h:ed V r a b c d e f)(x:Value):ed (V.setCell ⟨r,3,J⟩ x) r a b c x e f where
 m:=by rw[dB (a:=⟨r,3,J⟩) (b:=⟨r,0,J⟩) (h:=by intro p;cases p)];exact h.m
 j:=by rw[dB (a:=⟨r,3,J⟩) (b:=⟨r,1,J⟩) (h:=by intro p;cases p)];exact h.j
 k:=by rw[dB (a:=⟨r,3,J⟩) (b:=⟨r,2,J⟩) (h:=by intro p;cases p)];exact h.k
 l:=nR _ _ _ (by rw[h.l];rfl)
 g:=by rw[dB (a:=⟨r,3,J⟩) (b:=⟨r,4,J⟩) (h:=by intro p;cases p)];exact h.g
 h:=by rw[dB (a:=⟨r,3,J⟩) (b:=⟨r,5,J⟩) (h:=by intro p;cases p)];exact h.h
 n:=λi=>by rw[oR];exact h.n i
 o:=by simpa [World.setCell] using h.o
theorem ed.w{V:Ω}{r:Nat}{a b c d e f:Value}(h:ed V r a b c d e f)(x:Value):ed (V.setCell ⟨r,4,J⟩ x) r a b c d x f where
 m:=by rw[dB (a:=⟨r,4,J⟩) (b:=⟨r,0,J⟩) (h:=by intro p;cases p)];exact h.m
 j:=by rw[dB (a:=⟨r,4,J⟩) (b:=⟨r,1,J⟩) (h:=by intro p;cases p)];exact h.j
 k:=by rw[dB (a:=⟨r,4,J⟩) (b:=⟨r,2,J⟩) (h:=by intro p;cases p)];exact h.k
 l:=by rw[dB (a:=⟨r,4,J⟩) (b:=⟨r,3,J⟩) (h:=by intro p;cases p)];exact h.l
 g:=nR _ _ _ (by rw[h.g];rfl)
 h:=by rw[dB (a:=⟨r,4,J⟩) (b:=⟨r,5,J⟩) (h:=by intro p;cases p)];exact h.h
 n:=λi=>by rw[oR];exact h.n i
 o:=by simpa [World.setCell] using h.o
theorem ed.s{V:Ω}{r:Nat}{a b c d e f:Value}(h:ed V r a b c d e f)(x:Value):ed (V.setCell ⟨r,5,J⟩ x) r a b c d e x where
 m:=by rw[dB (a:=⟨r,5,J⟩) (b:=⟨r,0,J⟩) (h:=by intro p;cases p)];exact h.m
 j:=by rw[dB (a:=⟨r,5,J⟩) (b:=⟨r,1,J⟩) (h:=by intro p;cases p)];exact h.j
 k:=by rw[dB (a:=⟨r,5,J⟩) (b:=⟨r,2,J⟩) (h:=by intro p;cases p)];exact h.k
 l:=by rw[dB (a:=⟨r,5,J⟩) (b:=⟨r,3,J⟩) (h:=by intro p;cases p)];exact h.l
 g:=by rw[dB (a:=⟨r,5,J⟩) (b:=⟨r,4,J⟩) (h:=by intro p;cases p)];exact h.g
 h:=nR _ _ _ (by rw[h.h];rfl)
 n:=λi=>by rw[oR];exact h.n i
 o:=by simpa [World.setCell] using h.o
theorem lT.l{w V:Ω}{g:List UInt8}{a b c d e f n u r t v f':Value}(h:lT w V g a b c d e f){i:Nat}{x:Value}
  (y:ed (V.setCell ⟨w.1.size+1+1+1,i,J⟩ x) (w.1.size+1+1+1) n u r t v f'):lT w (V.setCell ⟨w.1.size+1+1+1,i,J⟩ x) g n u r t v f':=by
 have m:B (w.1.size+1+1+1) V (V.setCell ⟨w.1.size+1+1+1,i,J⟩ x):=(aj _ V).c (p:=⟨w.1.size+1+1+1,i,J⟩) nl _;have z:=h.s;refine⟨z,h.j.c m om,h.k.c (by show w.1.size<=w.1.size+1+1+1;omega) _,?_,?_,?_,y,h.i.q _ _ (by show w.1.size+1≠w.1.size+1+1+1;omega)⟩
 ·rw[m.cell (by show w.1.size<_;omega)];exact h.o
 ·rw[oR];exact h.q
 rw[m.cell (by show w.1.size+1+1<_;omega)];exact h.h
theorem lT.u{w V:Ω}{m l:List UInt8}{a b c d e f:Value}(h:lT w V m a b c d e f)(n:Nat):lT w ((V.setCell ⟨w.1.size,0,J⟩ (Z (ae l))).drewN n) l a b c d e f:=by
 have v:B w.1.size V (V.setCell ⟨w.1.size,0,J⟩ (Z (ae l))):=(aj _ V).c (p:=⟨w.1.size,0,J⟩) nl _;have r:=h.s
 have x:lT w (V.setCell ⟨w.1.size,0,J⟩ (Z (ae l))) l a b c d e f:=by
  refine⟨r,h.j.c v om,h.k.c nl _,?_,?_,?_,h.g.q _ _ (by show w.1.size+1+1+1≠w.1.size;omega),h.i.q _ _ (by show w.1.size+1≠w.1.size;omega)⟩
  ·exact nR _ _ _ (by rw[h.o];rfl)
  ·rw[oR];exact h.q
  rw[bW (bN V _ _ _ (by show w.1.size+1+1≠w.1.size;omega))];exact h.h
 exact x.t (kT br n)
theorem lT.m{w V:Ω}{g:List UInt8}{a b c d e f:Value}(h:lT w V g a b c d e f)(k:g.length<4294967281):
  Φ prog 125 #[Y (O ⟨w.1.size,0,J⟩)] V λx i=>x=N (Z (ae (ct g)))/\lT w i (au g) a b c d e f:=by
 refine(MU g V w.1.size h.j k h.o h.q).m ?_;rintro x i ⟨rfl,n,rfl⟩;exact⟨rfl,h.u n⟩
theorem lT.n{w V:Ω}{i:List UInt8}{a b c d e f:Value}(h:lT w V i a b c d e f)(p:i.length<4294967281):
  Φ prog 127 #[Y (O ⟨w.1.size+1+1,0,J⟩)] V λx s=>x=N (I Q (ef (ct i)))/\lT w s (au i) a b c d e f:=by
 have A:=h.h;have g:=hid (h.m p);have u:=hid (nc (AX i) p);go_enter func127,ntmps127;go_wp2_with fail;refine ac g.o ?_;rintro x y ⟨rfl,r⟩;have l:=hid r;go_wp2_with fail;refine(MT (ct i) _ l.o.j u.o).m ?_;rintro x z ⟨⟨v,rfl⟩,q⟩;have k:=hid (l.o.t q);go_wp2;go_ret;exact⟨rfl,k.o⟩
end

end Go.Proofs.YtlaodjjfmhipnaaGreatDoor
