/-
  Part of it.
-/
import Derived.Test.YtlaodjjfmhipnaaGreatDoorSae
import Derived.Test.YtlaodjjfmhipnaaGreatDoorSan
set_option maxRecDepth 100000
set_option maxHeartbeats 8000000
set_option linter.all false
namespace Go.Proofs.YtlaodjjfmhipnaaGreatDoor
open Go.Proofs.Tryz
open Value renaming int→I,string→Z,pointer→Y,slice→M,tuple→Ψ
open Ending renaming returned→N
open Obj renaming cells→Δ
open Go renaming World→Ω,Calls→Φ
open IntKind renaming i64→Q
open Option renaming some→O,none→J
open RowKit renaming Below→B,Hid→H
def pB(c ws:Int->Bool)(lo hi:Int):Prop:=∃e,lo<=e/\e<hi/\c e=true/\∀x,e<x->x<hi->ws x=false
def qI(c ws:Int->Bool)(hi e:Int):Prop:=∀x,e<x->x<hi->c x=false/\ws x=false
theorem Kd(c ws:Int->Bool)(a:Int):qI c ws a (a-1):=λx b d=>by omega
theorem LC{c ws:Int->Bool}{a e:Int}(h:qI c ws a e)(b:c e=false)(g:ws e=false):qI c ws a (e-1):=λx i d=>by
 by_cases f:x=e
 ·subst f;exact⟨b,g⟩
 exact h x om d
theorem NG{c ws:Int->Bool}{f d e:Int}(h:qI c ws d e)(i:f<=e)(j:e<d)(g:c e=true):pB c ws f d:=⟨e,i,j,g,λx a b=>(h x a b).2⟩
theorem P0{c ws:Int->Bool}{f d e:Int}(h:qI c ws d e)(g:e<d)(i:c e=false)(m:ws e=true):¬pB c ws f d:=by
 rintro⟨y,n,k,a,j⟩;by_cases l:y=e
 ·subst l;rw[i]at a;cases a
 by_cases b:y<e
 ·have:=j e b g;rw[m]at this;cases this
 have:=(h y om k).1;rw[a]at this;cases this
theorem NF{c ws:Int->Bool}{a b e:Int}(h:qI c ws b e)(g:e<a):¬pB c ws a b:=by rintro⟨y,i,f,d,_⟩;have:=(h y om f).1;rw[d]at this;cases this
def nO(c ws:Int->Bool)(lo hi e:Int):Prop:=∀y,lo<=y->y<e->¬(c y=true/\∀x,y<x->x<hi->ws x=false)
theorem Er(c ws:Int->Bool)(a b:Int):nO c ws a b a:=λy d e=>by omega
theorem xJ{c ws:Int->Bool}{b a e:Int}(h:nO c ws b a e)(d:¬(c e=true/\∀x,e<x->x<a->ws x=false)):nO c ws b a (e+1):=λy f i=>by
 by_cases g:y=e
 ·subst g;exact d
 exact h y f om
theorem FZ{c ws:Int->Bool}{b a e:Int}(h:nO c ws b a e)(i:a<=e):¬pB c ws b a:=by rintro⟨y,g,j,d,f⟩;exact h y g om ⟨d,f⟩
section
open Go.RowKit
def pF(s:ByteArray)(k:Int):Bool:=decide (0<aD s)&&(k == 0||(aD s:Int) == k)
theorem IN(s:ByteArray)(k:Int)(w:Ω)(i:dy w)(m:s.size<=100000):
  Φ prog 199 #[Z s,I Q k] w λe h=>e=N (.bool (pF s k))/\B w.1.size w h:=by
 have b:=hid (wK s w i (by unfold maxLen;omega));unfold pF;rcases zr s with ⟨h0,F,P,C,R,S,hv⟩|⟨h0,hv⟩
 ·rw[hv]at b;have j:decide (0<aD s)=true:=by simpa using h0
  rw[j];unfold nD at b;generalize aD s=n at *;simp only[Bool.true_and];by_cases g:k=0
  ·subst g;simp only[beq_self_eq_true,Bool.true_or];go_enter func199,ntmps199;go_wp2_with fail;refine ac b.o ?_;rintro e c ⟨rfl,a⟩;have d:H (∀o,B w.1.size w (c.alloc o)):=λo=>a.l a.size o;go_wp2;go_ret;exact⟨rfl,d.o _⟩
  have f:(k == 0)=false:=(by simpa using g);rw[f];simp only[Bool.false_or];go_enter func199,ntmps199;go_wp2_with fail;refine ac b.o ?_;rintro e c ⟨rfl,a⟩;have d:H (∀o,B w.1.size w (c.alloc o)):=λo=>a.l a.size o;go_wp2;go_ret;exact⟨rfl,d.o _⟩
 rw[hv]at b;unfold cJ at b;rw[h0];simp only[Nat.lt_irrefl,decide_false,Bool.false_and];go_enter func199,ntmps199;go_wp2_with fail;refine ac b.o ?_;rintro e c ⟨rfl,a⟩;have d:H (∀o,B w.1.size w (c.alloc o)):=λo=>a.l a.size o;go_wp2;go_ret;exact⟨rfl,d.o _⟩
section
variable {w:Ω}{tb:Nat}{who:Nat->Nat×ByteArray×Nat}{W need n r:Nat}{ep:Nat->List ai}
def uK(n:Nat)(t:Bool)(p e v:Int):Bool:=decide ((bV n t e v).2=0)&&(p != -1)&&((bV n t e v).1 == p)
theorem LD(g:ByteArray)(p e:Int){t:Bool}(d:cd w tb who W need n r ep)(y:W<=8)(s:n<=1000)(z:g.size<=100000)(v:t=true↔∃e,bz g (ep e)=true):
  Φ prog 201 #[Y (O ⟨tb,0,J⟩),Z g,I Q p,I Q e] w λx u=>x=N (.bool (uK n t p e (aI g ep W need e.toNat)))/\B w.1.size w u:=by
 have f:=hid (zG g e d y s z v);unfold uK;generalize bV n t e (aI g ep W need e.toNat)=a at *;obtain⟨q,k⟩:=a;simp only at *;by_cases h:k=0
 ·subst h;rw[show bB 0=.nilIface from rfl]at f;by_cases l:p=-1
  ·subst l;simp only[decide_true,bne_self_eq_false,Bool.and_false,Bool.false_and];go_enter func201,ntmps201;go_wp2_with fail;refine ac f.o ?_;rintro x m ⟨rfl,c⟩;have b:=hid c;go_wp2;go_ret;exact⟨rfl,b.o⟩
  have j:(p != -1)=true:=(by simpa using l);rw[j];simp only[decide_true,Bool.true_and];go_enter func201,ntmps201;go_wp2_with fail;refine ac f.o ?_;rintro x m ⟨rfl,c⟩;have b:=hid c;go_wp2;go_ret;exact⟨rfl,b.o⟩
 rw[pi h]at f;have i:decide (k=0)=false:=by simpa using h
 rw[i];simp only[Bool.false_and];go_enter func201,ntmps201;go_wp2_with fail;refine ac f.o ?_;rintro x m ⟨rfl,c⟩;have b:=hid c;go_wp2;go_ret;exact⟨rfl,b.o⟩
end
end
section
open Go.RowKit
def eI(g:ByteArray)(ep:Nat->List ai)(W need n:Nat)(t:Bool)(p e:Int):Bool:=mp n t p e (λe=>aI g ep W need e.toNat)
def eT(g:ByteArray)(ep:Nat->List ai)(W need n:Nat)(t:Bool)(p e:Int):Bool:=uK n t p e (aI g ep W need e.toNat)
def pz(g:ByteArray)(ep:Nat->List ai)(W need n:Nat)(t:Bool)(r:aq)(e:Int):Prop:=
 r.h/\pF g r.e=true/\eI g ep W need n t r.g e=true/\pB (eI g ep W need n t r.c) (eT g ep W need n t r.b) (max 0 (e-r.d)) e
structure ta (w V:Ω) (tb:Nat) (who:Nat->Nat×ByteArray×Nat) (W need n q:Nat) (ep:Nat->List ai) (r:aq):Prop where
 a:B w.1.size w V
 e:cd V tb who W need n q ep
 f:dy V
 b:ed V w.1.size (Z r.a) (I Q r.e) (I Q r.c) (I Q r.g) (I Q r.b) (I Q r.d)
section
variable {w:Ω}{tb:Nat}{who:Nat->Nat×ByteArray×Nat}{W need n q:Nat}{ep:Nat->List ai}
theorem ta.c{V V':Ω}{r:aq}(h:ta w V tb who W need n q ep r)(d:B V.1.size V V'):ta w V' tb who W need n q ep r:=
 ⟨h.a.t (d.m h.a.size),h.e.a d,h.f.b d h.f.a,h.b.p (d.block _ h.b.o) d.size⟩
theorem Rr(r:aq)(d:cd w tb who W need n q ep)(h:dy w):ta w (w.alloc (Δ #[Z r.a,I Q r.e,I Q r.c,I Q r.g,I Q r.b,I Q r.d] 65)) tb who W need n q ep r:=by
 have f:B w.1.size w (w.alloc (Δ #[Z r.a,I Q r.e,I Q r.c,I Q r.g,I Q r.b,I Q r.d] 65)):=(aj _ w).l nl _;refine⟨f,d.a f,h.b f h.a,⟨?_,?_,?_,?_,?_,?_,?_,?_⟩⟩
 all_goals first|go_simp|(intro i;go_simp)
theorem LE(r:aq)(g:ByteArray)(e:Int){t b:Bool}(d:cd w tb who W need n q ep)(hT:dy w)(hW:W<=8)(hn:n<=1000)(hg:g.size<=100000)(ht:t=true↔∃e,bz g (ep e)=true)(he0:-1<=e)(he1:e<=1000)(hnm:r.a.size<=9223372036854775807)
   (hb:b=true↔pz g ep W need n t r e):
   Φ prog 151 #[Y (O ⟨tb,0,J⟩),aL r,Z g,I Q e] w λx u=>x=N (.bool b)/\B w.1.size w u:=by
  have U:=hid hb;have HN:=hid (vL r);have HC:H (∀(V:Ω)(p x:Int),cd V tb who W need n q ep->-1000<=x->x<=1000->Φ prog 200 #[Y (O ⟨tb,0,J⟩),Z g,I Q p,I Q x] V λy u=>y=N (.bool (eI g ep W need n t p x))/\B V.1.size V u):=λV p x hV h0 h1=>Ly g p x hV hW om hg ht h0 h1;have HWA:H (∀(V:Ω)(p x:Int),cd V tb who W need n q ep->Φ prog 201 #[Y (O ⟨tb,0,J⟩),Z g,I Q p,I Q x] V λy u=>y=N (.bool (eT g ep W need n t p x))/\B V.1.size V u):=λV p x hV=>LD g p x hV hW om hg ht;have HK:H (∀(V:Ω)(k:Int),dy V->Φ prog 199 #[Z g,I Q k] V λy u=>y=N (.bool (pF g k))/\B V.1.size V u):=λV k hV=>IN g k V hV hg;have HH:=hid (Rr r d hT);have G:H (∀(V:Ω)(m:Nat),r.i m->Φ prog 130 #[aL r] V λy u=>y=N (lc m)/\B V.1.size V u):=λV m hm=>wV r V hnm hm;unfold aL at G⊢;by_cases v:r.h
  case neg=>
   have s:b=false:=by rw[<-kR,U.o];exact λh=>v h.1
   subst s;obtain⟨m,hm⟩:=HN.o;have hm0:m≠0:=λh=>v ((mO hm).1 h);have HX:H (∀V:Ω,Φ prog 130 #[.agg #[Z r.a,I Q r.e,I Q r.c,I Q r.g,I Q r.b,I Q r.d]] V λy u=>y=N (.iface 57 (I Q (m:Int)))/\B V.1.size V u):=λV=>by have h:=G.o V m hm;rw[show lc m=.iface 57 (I Q (m:Int)) from ag hm0]at h;exact h
   go_enter func151,ntmps151;go_wp2_with fail;refine(HX.o _).m ?_;rintro y V1 ⟨rfl,F⟩;have HB1:=hid ((HH.o.c F).a);go_wp2;go_ret;exact⟨rfl,HB1.o⟩
  have HX:H (∀V:Ω,Φ prog 130 #[.agg #[Z r.a,I Q r.e,I Q r.c,I Q r.g,I Q r.b,I Q r.d]] V λy u=>y=N .nilIface/\B V.1.size V u):=λV=>G.o V 0 (ah (ah (ah ⟨v,rfl⟩)));have hF:=v.2.1.2.1;have hI:=v.2.1.2.2.2.2;have HOK:=hid v;go_enter func151,ntmps151;go_wp2_with fail;refine(HX.o _).m ?_;rintro y V1 ⟨rfl,F⟩;have P:=hid (HH.o.c F);have c1:=P.o.b.j;go_wp2_with fail;refine(HK.o _ r.e P.o.f).m ?_;rintro y V2 ⟨rfl,hb2⟩;have z:=hid (P.o.c hb2);cases hkd:pF g r.e with
 |false=>
   have s:b=false:=by rw[<-kR,U.o];exact λh=>by have h2:=h.2.1;rw[hkd]at h2;exact Bool.noConfusion h2
   subst s;go_wp2;go_ret;exact⟨rfl,z.o.a⟩
 |true=>
   have c3:=z.o.b.l;go_wp2_with fail;refine(HC.o _ r.g e z.o.e om om).m ?_;rintro y V3 ⟨rfl,hb3⟩;have R:=hid (z.o.c hb3);cases hct:eI g ep W need n t r.g e with
  |false=>
    have s:b=false:=(by rw[<-kR,U.o];exact λh=>by have h2:=h.2.2.1;rw[hct]at h2;exact Bool.noConfusion h2);subst s;go_wp2;go_ret;exact⟨rfl,R.o.a⟩
  |true=>
    have D:H (b=true↔pB (eI g ep W need n t r.c) (eT g ep W need n t r.b) (max 0 (e-r.d)) e):=⟨λh=>(U.o.1 h).2.2.2,λh=>U.o.2 ⟨HOK.o,hkd,hct,h⟩⟩;have w1:IntKind.i64.wrap (e-1)=e-1:=(by simp[IntKind.wrap,IntKind.bits,IntKind.signed];omega);have w2:IntKind.i64.wrap (e-r.d)=e-r.d:=(by simp[IntKind.wrap,IntKind.bits,IntKind.signed];omega);go_wp2;go_loopw [9] (λi V=>∃x:Int,-1000<=x/\x<e/\i=I Q x/\qI (eI g ep W need n t r.c) (eT g ep W need n t r.b) e x/\ta w V tb who W need n q ep r) (λi _=>((intOf i)+1000).toNat)
    case atStart=>exact⟨e-1,om,om,rfl,Kd _ _ _,R.o⟩
    obtain⟨x,hx0,X,rfl,hdn,K⟩:=hrel;have A:=hid hdn;have E:=hid K;have c5:=K.b.h;have c2:=K.b.k;by_cases L:max 0 (e-r.d)<=x
    case neg=>have hl1:decide (max 0 (e-r.d)<=x)=false:=(by simpa using L);have s:b=false:=(by rw[<-kR,D.o];exact NF A.o om);subst s;go_wp2;go_ret;exact⟨rfl,E.o.a⟩
    have hl1:decide (max 0 (e-r.d)<=x)=true:=(by simpa using L);go_wp2_with fail;refine(HC.o _ r.c x E.o.e om om).m ?_;rintro y V4 ⟨rfl,hb4⟩;have C:=hid (E.o.c hb4);cases hcf:eI g ep W need n t r.c x with
   |true=>
     have hbt:=D.o.2 (NG A.o L X hcf);subst hbt;go_wp2;go_ret;exact⟨rfl,C.o.a⟩
   |false=>
     have c4:=C.o.b.g;go_wp2_with fail;refine(HWA.o _ r.b x C.o.e).m ?_;rintro y V5 ⟨rfl,hb5⟩;have T:=hid (C.o.c hb5);cases hwf:eT g ep W need n t r.b x with
    |true=>
      have s:b=false:=(by rw[<-kR,D.o];exact P0 A.o X hcf hwf);subst s;go_wp2;go_ret;exact⟨rfl,T.o.a⟩
    |false=>
      have S:=hid (LC A.o hcf hwf);have w3:IntKind.i64.wrap (x-1)=x-1:=(by simp[IntKind.wrap,IntKind.bits,IntKind.signed];omega);go_wp2;go_roundw
      case rel=>exact⟨x-1,om,om,rfl,S.o,T.o⟩
      simp[intOf];omega
end
end
structure aE where
 b:Nat
 e:Nat
 d:Nat
 c:Nat
 f:Nat
 g:Nat
 a:Nat->Nat->Int
structure aE.h (c:aE):Prop where
 d:1<=c.b
 e:c.b<=50
 g:c.e<=50
 n:1<=c.d
 b:c.d<=8
 h:1<=c.c
 m:c.c<=c.d
 l:1<=c.f
 f:c.f<=8
 i:1<=c.g
 j:c.g<=c.f
 k:∀r a,r<4->a<4->-1<=c.a r a/\c.a r a<=7
structure ay where
 f:Nat->List UInt8
 g:Nat->Nat
 q:Nat->Int
 a:List ai
 b:Nat
 n:Nat
 p:Nat
 l:Nat
 o:Nat
def ay.k:ay:=⟨λ_=>[],λ_=>0,λ_=>-1,[],0,0,0,0,0⟩
def fT{α:Type}(f:Nat->α)(k:Nat)(v:α)(i:Nat): α:=if i=k then v else f i
theorem vx{α:Type}(f:Nat->α)(k:Nat)(v:α):fT f k v k=v:=by simp[fT]
theorem zJ{α:Type}(f:Nat->α){k i:Nat}(v:α)(h:i≠k):fT f k v i=f i:=by simp[fT,h]
def gY(l:List ByteArray)(g:ByteArray):Bool:=l.any (λh=>decide (h=g))
theorem sn{l:List ByteArray}{g:ByteArray}:gY l g=true↔g∈l:=by simp[gY]
def jY(l:List ByteArray)(g:ByteArray):List ByteArray:=if gY l g=true then l else l++[g]
def bJ(l:List ai):List ByteArray:=l.foldl (λt x=>jY t x.a) []
theorem vG(l:List ai)(x:ai):bJ (l++[x])=jY (bJ l) x.a:=by unfold bJ;rw[qX];rfl
theorem Af(l:List ByteArray)(g h:ByteArray):h∈jY l g↔h∈l\/h=g:=by
 unfold jY;split
 ·rename_i hg;rw[sn]at hg;constructor
  ·exact af
  rintro(a|rfl)
  ·exact a
  exact hg
 simp
theorem Ke{l:List ByteArray}(h:l.Nodup)(g:ByteArray):(jY l g).Nodup:=by
 unfold jY;split
 ·exact h
 rename_i hg;rw[sn]at hg;rw[List.nodup_append];refine⟨h,by simp,λa d b c=>?_⟩;simp at c;subst c;intro e;subst e;exact hg d
theorem LF(xs:List ai):∀(l:List ByteArray)(h:ByteArray),h∈xs.foldl (λt x=>jY t x.a) l↔h∈l\/∃x,x∈xs/\x.a=h:=by
 induction xs with
 |nil=>intro l h;simp
 |cons y xs ih=>
  intro l h;rw[ka,ih,Af];constructor
  ·rintro((b|b)|⟨x,b,c⟩)
   ·exact af b
   ·exact ah ⟨y,by simp,b.symm⟩
   exact ah ⟨x,by simp[b],c⟩
  rintro(b|⟨x,b,c⟩)
  ·exact af (af b)
  rcases jN.1 b with rfl|b
  ·exact af (ah c.symm)
  exact ah ⟨x,b,c⟩
theorem Jn(xs:List ai):∀(l:List ByteArray),l.Nodup->(xs.foldl (λt x=>jY t x.a) l).Nodup:=by
 induction xs with
 |nil=>intro l h;exact h
 |cons y xs ih=>intro l h;exact ih _ (Ke h _)
theorem xQ(l:List ai)(g:ByteArray):g∈bJ l↔∃x,x∈l/\x.a=g:=by unfold bJ;rw[LF];simp
theorem NK(l:List ai):(bJ l).Nodup:=Jn l [] List.nodup_nil
def qA(c:aE)(r:Nat)(s:ay)(x:dr):ai:=⟨c.a r x.b.toNat,x.d,(s.b:Int)-x.e,x.c⟩
def ay.e(c:aE)(r:Nat)(s:ay)(x:dr):ay:=
 if aD x.c=0 then { s with n:=s.n+1 }
 else if c.a r x.b.toNat=-1 then { s with p:=s.p+1 }
 else if gY (bJ s.a) x.c=false/\12<=(bJ s.a).length then { s with o:=s.o+1 }
 else if ey c.b c.e s.b (qA c r s x)≠0 then { s with l:=s.l+1 }
 else { s with a:=s.a++[qA c r s x] }
def ay.s(r:Nat)(s:ay)(f:bf):ay:=if f.b=3 then { s with q:=fT s.q r f.c } else s
def ay.i(c:aE)(r:Nat)(s:ay)(f:bf):ay:=f.a.foldl (ay.e c r) (s.s r f)
def ay.j(r:Nat)(s:ay)(R:List UInt8)(n:Nat):ay:={ s with f:=fT s.f r R,g:=fT s.g r n }
def ay.r(c:aE)(r:Nat)(s:ay)(b:List UInt8):ay:=
 (aW (s.f r++b)).1.foldl (ay.i c r) (s.j r (aW (s.f r++b)).2.2 (s.g r+(aW (s.f r++b)).2.1))
def ay.h(s:ay)(n:Nat):ay:={ s with b:=s.b+n }
def ay.c(c:aE)(s:ay):Nat:=bD c.b c.e s.b
theorem LL(c:aE)(r a:Nat)(s:ay)(x:dr)(R:List UInt8)(n:Nat):(s.j a R n).e c r x=(s.e c r x).j a R n:=by
 unfold ay.e ay.j qA;simp only
 repeat' split
 all_goals rfl
theorem C3(c:aE)(r a:Nat)(R:List UInt8)(n:Nat):∀(l:List dr)(s:ay),l.foldl (ay.e c r) (s.j a R n)=(l.foldl (ay.e c r) s).j a R n
 |[],s=>rfl
 |x::l,s=>by rw[ka,ka,LL,C3 c r a R n l]
theorem LJ(r a:Nat)(s:ay)(f:bf)(R:List UInt8)(n:Nat):(s.j a R n).s r f=(s.s r f).j a R n:=by unfold ay.s;split<;>rfl
theorem LG(c:aE)(r a:Nat)(s:ay)(f:bf)(R:List UInt8)(n:Nat):(s.j a R n).i c r f=(s.i c r f).j a R n:=by unfold ay.i;rw[LJ,C3]
theorem C2(c:aE)(r a:Nat)(R:List UInt8)(n:Nat):∀(l:List bf)(s:ay),l.foldl (ay.i c r) (s.j a R n)=(l.foldl (ay.i c r) s).j a R n
 |[],s=>rfl
 |x::l,s=>by rw[ka,ka,LG,C2 c r a R n l]
theorem xd(c:aE)(r:Nat)(s:ay)(x:dr):(s.e c r x).f=s.f/\(s.e c r x).g=s.g/\(s.e c r x).b=s.b/\(s.e c r x).q=s.q:=by
 unfold ay.e
 repeat' split
 all_goals exact⟨rfl,rfl,rfl,rfl⟩
theorem rX(c:aE)(r:Nat):∀(l:List dr)(s:ay),(l.foldl (ay.e c r) s).f=s.f/\(l.foldl (ay.e c r) s).g=s.g/\(l.foldl (ay.e c r) s).b=s.b/\(l.foldl (ay.e c r) s).q=s.q
 |[],s=>⟨rfl,rfl,rfl,rfl⟩
 |x::l,s=>by obtain⟨i,j,a,h⟩:=rX c r l (s.e c r x);obtain⟨k,n,m,d⟩:=xd c r s x;rw[ka];exact⟨i.trans k,j.trans n,a.trans m,h.trans d⟩
theorem LH(c:aE)(r:Nat)(s:ay)(f:bf):(s.i c r f).f=s.f/\(s.i c r f).g=s.g/\(s.i c r f).b=s.b:=by
 unfold ay.i;obtain⟨e,h,d,_⟩:=rX c r f.a (s.s r f);have:(s.s r f).f=s.f/\(s.s r f).g=s.g/\(s.s r f).b=s.b:=by unfold ay.s;split<;>exact⟨rfl,rfl,rfl⟩
 exact⟨e.trans this.1,h.trans this.2.1,d.trans this.2.2⟩
theorem q8(c:aE)(r:Nat):∀(l:List bf)(s:ay),(l.foldl (ay.i c r) s).f=s.f/\(l.foldl (ay.i c r) s).g=s.g/\(l.foldl (ay.i c r) s).b=s.b
 |[],s=>⟨rfl,rfl,rfl⟩
 |x::l,s=>by obtain⟨d,e,a⟩:=q8 c r l (s.i c r x);obtain⟨h,k,j⟩:=LH c r s x;rw[ka];exact⟨d.trans h,e.trans k,a.trans j⟩
theorem NH(c:aE)(r:Nat)(s:ay)(b:List UInt8):(s.r c r b).b=s.b:=(q8 c r _ _).2.2
def ay.m(s:ay):Nat:=s.a.length+s.n+s.p+s.l+s.o
theorem Es(c:aE)(r:Nat)(s:ay)(x:dr):(s.e c r x).m=s.m+1:=by
 unfold ay.e ay.m
 repeat' split
 all_goals simp;omega
theorem xe(c:aE)(r:Nat):∀(l:List dr)(s:ay),(l.foldl (ay.e c r) s).m=s.m+l.length
 |[],s=>rfl
 |x::l,s=>by rw[ka,xe c r l,Es,eF];omega
theorem NJ(c:aE)(r:Nat)(s:ay)(f:bf):(s.i c r f).m=s.m+f.a.length:=by unfold ay.i;rw[xe];congr 1;unfold ay.s;split<;>rfl
def iN(l:List bf):Nat:=(l.map (λf=>f.a.length)).sum
theorem zI(c:aE)(r:Nat):∀(l:List bf)(s:ay),(l.foldl (ay.i c r) s).m=s.m+iN l
 |[],s=>rfl
 |x::l,s=>by
  rw[ka,zI c r l,NJ];have:iN (x::l)=x.a.length+iN l:=by simp[iN]
  omega
theorem Fn:∀(l:List bf),(∀f∈l,eC f)->iN l<=oX l
 |[],_=>aa _
 |x::l,h=>by
  have d:=Fn l (λf b=>h f (by simp[b]));have e:=jc x;have c:=Dz (h x sm);have g:iN (x::l)=x.a.length+iN l:=by simp[iN]
  have i:oX (x::l)=(aJ x).length+oX l:=by simp[oX]
  omega
def ay.d(s:ay):Nat:=s.m+((s.f 0).length+(s.f 1).length+(s.f 2).length+(s.f 3).length)+(s.g 0+s.g 1+s.g 2+s.g 3)
theorem Et{s:ay}{r:Nat}(h:r<4):s.m+(s.f r).length+s.g r<=s.d:=by
 unfold ay.d
 match r,h with
 |0,_=>omega
 |1,_=>omega
 |2,_=>omega
 |3,_=>omega
theorem Ag(c:aE)(r:Nat)(s:ay)(b:List UInt8)(i:r<4):(s.r c r b).d<=s.d+b.length:=by
 have h:=Lm (s.f r++b);have n:=Fn _ (xu (s.f r++b));have a:=zI c r (aW (s.f r++b)).1 (s.j r (aW (s.f r++b)).2.2 (s.g r+(aW (s.f r++b)).2.1));obtain⟨k,l,_⟩:=q8 c r (aW (s.f r++b)).1 (s.j r (aW (s.f r++b)).2.2 (s.g r+(aW (s.f r++b)).2.1));have e:(s.j r (aW (s.f r++b)).2.2 (s.g r+(aW (s.f r++b)).2.1)).m=s.m:=rfl;rw[bU]at h;unfold ay.d ay.r;rw[k,l,a,e];unfold ay.j fT;simp only
 match r,i with
 |0,_=>simp;omega
 |1,_=>simp;omega
 |2,_=>simp;omega
 |3,_=>simp;omega
def aC(c:aE)(s:ay)(k:Nat):List (List ai):=(List.range k).map (λj=>bE (aR c.b s.a j))
theorem sG(c:aE)(s:ay)(k:Nat):(aC c s k).length=k:=by simp[aC]
theorem xK(c:aE)(s:ay)(k:Nat):aC c s (k+1)=aC c s k++[bE (aR c.b s.a k)]:=by unfold aC;rw[l8,iY];rfl
theorem sy(c:aE)(s:ay)(k j:Nat):al (aC c s k) j=if j<k then bE (aR c.b s.a j) else []:=by
 unfold al aC;by_cases h:j<k
 ·rw[ak h,en,eE,rR h];rfl
 rw[ag h,en,iV (by simp;omega)];rfl
theorem P2(c:aE)(s:ay){k m:Nat}(h:k<=m):(aC c s m).take k=aC c s k:=by unfold aC;rw[<-List.map_take,List.take_range,Nat.min_eq_left h]
theorem Cg(c:aE)(s:ay)(x:ai)(k:Nat)(h:k<=bR c.b x):aC c { s with a:=s.a++[x] } k=aC c s k:=by unfold aC;refine tw λj d=>?_;have:j<k:=List.mem_range.1 d;simp only;rw[wu _ _ om]
theorem DE(n:Nat)(k:Nat):∀l:List ai,(l.filter (λx=>decide (bR n x<k+1))).length=(l.filter (λx=>decide (bR n x<k))).length+(l.filter (λx=>decide (bR n x=k))).length
 |[]=>rfl
 |x::l=>by
  have c:=DE n k l;rcases Nat.lt_trichotomy (bR n x) k with h|h|h
  ·have a:bR n x<k+1:=om;have b:¬bR n x=k:=om;simp[h,a,b,c];omega
  ·have a:bR n x<k+1:=om;have b:¬bR n x<k:=om;simp[h,c];omega
  have a:¬bR n x<k+1:=om;have b:¬bR n x=k:=om;have d:¬bR n x<k:=om;simp[a,b,d,c]
theorem Kg(c:aE)(s:ay)(k:Nat):(aC c s k).flatten.length=(s.a.filter (λx=>decide (bR c.b x<k))).length:=by
 induction k with
 |zero=>
  have e:s.a.filter (λx=>decide (bR c.b x<0))=[]:=List.filter_eq_nil_iff.2 (λx _=>by simp);rw[e];rfl
 |succ k ih=>
  rw[xK,List.flatten_append,bU,ih,DE];simp[lZ,aR]
theorem Fo(c:aE)(s:ay)(k:Nat):(aC c s k).flatten.length<=s.a.length:=by rw[Kg];exact List.length_filter_le _ _
def oB(a b:ByteArray):Bool:=decide (Lib.compareBytes a.1.toList b.1.toList<=0)
theorem LO(a b c:ByteArray)(d:oB a b=true)(e:oB b c=true):oB a c=true:=by unfold oB at *;simp only[kO]at *;exact yY.b _ _ _ d e
theorem LM(a b:ByteArray):(oB a b||oB b a)=true:=by unfold oB;have:=yY.a a.1.toList b.1.toList;simp only[Bool.or_eq_true,kO];omega
theorem Rs{a b:ByteArray}(h:oB a b=true)(c:a≠b):a.toList<b.toList:=by unfold oB at h;simp only[kO]at h;have f:=ui h;rw[cY,cY];refine A4 (λg=>?_) (λe=>c (ke (nU.1 e.symm)));have d:=List.le_of_lt g;have:=List.le_antisymm f d;exact c (ke (nU.1 this))
def gJ(E:List (List ai)):List ByteArray:=(bJ E.flatten).mergeSort oB
theorem LP{E:List (List ai)}{g:ByteArray}:g∈bJ E.flatten↔aG g E=true:=by
 rw[xQ];unfold aG;simp only[List.any_eq_true,re,List.mem_flatten];constructor
 ·rintro⟨x,⟨l,b,c⟩,a⟩;exact⟨l,b,x,c,a⟩
 rintro⟨l,b,x,c,a⟩;exact⟨x,⟨l,b,c⟩,a⟩
theorem si{E:List (List ai)}{g:ByteArray}:g∈gJ E↔aG g E=true:=by unfold gJ;rw[List.mem_mergeSort,LP]
theorem zK(E:List (List ai)):(gJ E).Pairwise (λa b=>a.toList<b.toList):=by have d:(gJ E).Pairwise (λa b=>oB a b=true):=List.pairwise_mergeSort LO LM _;have e:(gJ E).Nodup:=(tu _ _).nodup_iff.2 (NK _);exact List.Pairwise.imp₂ (λa b h c=>Rs h c) d e
theorem vk{L:List ByteArray}(h:L.Pairwise (λa b=>a.toList<b.toList)):L.Nodup:=
 List.Pairwise.imp (λc e=>by rw[e]at c;exact List.lt_irrefl _ c) h
theorem NL{L c:List ByteArray}(h:L.Pairwise (λa b=>a.toList<b.toList))(d:c.Pairwise (λa b=>a.toList<b.toList))(i:∀g,g∈L↔g∈c):L=c:=by
 refine List.Perm.eq_of_pairwise (le:=λa b:ByteArray=>a.toList<b.toList) (λa b _ _ e f=>?_) h d ?_
 ·exact absurd (List.lt_trans e f) (List.lt_irrefl _)
 exact(List.perm_ext_iff_of_nodup (vk h) (vk d)).2 i
theorem Ew{E:List (List ai)}{L:List ByteArray}(h:L.Pairwise (λa b=>a.toList<b.toList))(c:∀g,g∈L↔aG g E=true):L=gJ E:=
 NL h (zK E) (λg=>by rw[c,si])
def oJ(g:ByteArray)(ep:Nat->List ai)(W need:Nat)(r:aq)(e:Nat):Bool:=
 pF g r.e&&eI g ep W need (e+1) true r.g (e:Int)&&(List.range e).any (λy=>decide ((e:Int)-r.d<=(y:Int))&&eI g ep W need (e+1) true r.c (y:Int)&&(List.range e).all (λx=>!decide (y<x) || !eT g ep W need (e+1) true r.b (x:Int)))
theorem xR{g:ByteArray}{ep:Nat->List ai}{W a:Nat}{r:aq}{e:Nat}(o:r.h):oJ g ep W a r e=true↔pz g ep W a (e+1) true r (e:Int):=by
 unfold oJ pz pB;simp only[jo,List.any_eq_true,List.mem_range,kO,kQ,Bool.or_eq_true,Bool.not_eq_true',decide_eq_false_iff_not];constructor
 ·rintro⟨⟨c,d⟩,y,p,⟨i,b⟩,l⟩;refine⟨o,c,d,(y:Int),om,om,b,λx k j=>?_⟩;obtain⟨z,rfl⟩:∃z:Nat,x=(z:Int):=⟨x.toNat,om⟩;rcases l z om with h|h
  ·omega
  exact h
 rintro⟨_,c,d,y,m,n,i,b⟩;obtain⟨z,rfl⟩:∃z:Nat,y=(z:Int):=⟨y.toNat,om⟩;refine⟨⟨c,d⟩,z,om,⟨om,i⟩,λx q=>?_⟩;by_cases f:z<x
 ·exact ah (b (x:Int) om om)
 exact af f
structure dG where
 a:Nat
 b:Nat
 c:ByteArray
def ei(W need:Nat)(ep:Nat->List ai)(L:List ByteArray)(e:Nat)(r:aq)(i:Nat):List dG:=(L.filter (λg=>oJ g ep W need r e)).map (λg=>⟨i,e,g⟩)
def jS(W need:Nat)(ep:Nat->List ai)(L:List ByteArray)(e:Nat):List aq->Nat->List dG
 |[],_=>[]
 |r::rs,i=>ei W need ep L e r i++jS W need ep L e rs (i+1)
def gN(W need:Nat)(ep:Nat->List ai)(L:List ByteArray)(e:Nat)(rs:List aq):List dG:=jS W need ep L e rs 0
theorem Cj(W a:Nat)(ep:Nat->List ai)(L:List ByteArray)(e:Nat)(r:aq):∀(rs:List aq)(i:Nat),jS W a ep L e (rs++[r]) i=jS W a ep L e rs i++ei W a ep L e r (i+rs.length)
 |[],i=>by simp[jS]
 |x::rs,i=>by show ei W a ep L e x i++jS W a ep L e (rs++[r]) (i+1)=_;rw[Cj W a ep L e r rs (i+1)];simp only[jS,lY,eF];congr 3;omega
theorem Ev(W a:Nat)(ep:Nat->List ai)(L:List ByteArray)(e:Nat)(r:aq)(rs:List aq):gN W a ep L e (rs++[r])=gN W a ep L e rs++ei W a ep L e r rs.length:=by unfold gN;rw[Cj,dj]
theorem Eu(W a:Nat)(ep:Nat->List ai)(L:List ByteArray)(g:ByteArray)(e:Nat)(r:aq)(i:Nat):ei W a ep (L++[g]) e r i=ei W a ep L e r i++(if oJ g ep W a r e=true then [⟨i,e,g⟩] else []):=by
 unfold ei;rw[List.filter_append,iY];congr 1;by_cases h:oJ g ep W a r e=true
 ·simp[h]
 simp[h]
def qO(c:aE)(rs:List aq)(s:ay)(e:Nat):List dG:=gN c.d c.c (al (aC c s (e+1))) (gJ (aC c s (e+1))) e rs
def bM(c:aE)(rs:List aq)(s:ay)(k:Nat):List dG:=(List.range k).flatMap (qO c rs s)
theorem tI(c:aE)(rs:List aq)(s:ay)(k:Nat):bM c rs s (k+1)=bM c rs s k++qO c rs s k:=by unfold bM;rw[l8,List.flatMap_append,List.flatMap_singleton]
theorem wG(c:aE)(rs:List aq)(s:ay):bM c rs s 0=[]:=rfl
theorem Ch(c:aE)(rs:List aq)(s s':ay)(k:Nat)(h:∀j,j<=k->aC c s j=aC c s' j):bM c rs s k=bM c rs s' k:=by
 induction k with
 |zero=>rw[wG,wG]
 |succ k ih=>
  have e:qO c rs s k=qO c rs s' k:=by unfold qO;rw[h (k+1) nl]
  rw[tI c rs s k,tI c rs s' k,ih (λj a=>h j (Nat.le_succ_of_le a)),e]
theorem AH(W a:Nat)(ep:Nat->List ai)(L:List ByteArray)(e:Nat)(r:aq)(i:Nat):(ei W a ep L e r i).length<=L.length:=by unfold ei;rw[jp];exact List.length_filter_le _ _
theorem wH(W a:Nat)(ep:Nat->List ai)(L:List ByteArray)(e:Nat):∀(rs:List aq)(i:Nat),(jS W a ep L e rs i).length<=rs.length*L.length
 |[],_=>by simp[jS]
 |r::rs,i=>by have b:=AH W a ep L e r i;have c:=wH W a ep L e rs (i+1);simp only[jS,bU,eF,Nat.add_mul,Nat.one_mul];omega
theorem xx{c:aE}{s:ay}{k:Nat}{g:ByteArray}(h:g∈gJ (aC c s k)):g∈bJ s.a:=by rw[si]at h;unfold aG at h;simp only[List.any_eq_true,re]at h;obtain⟨l,b,x,d,e⟩:=h;rw[xQ];unfold aC at b;obtain⟨j,_,rfl⟩:=iH.1 b;rw[yZ]at d;exact⟨x,(oW.1 d).1,e⟩
theorem Ah(c:aE)(s:ay)(k:Nat):(gJ (aC c s k)).length<=(bJ s.a).length:=
 (vk (zK _)).length_le_of_subset (λ_ h=>xx h)
theorem ze(c:aE)(rs:List aq)(s:ay)(k m:Nat)(b:(bJ s.a).length<=m):(bM c rs s k).length<=k*(rs.length*m):=by
 induction k with
 |zero=>simp[bM]
 |succ k ih=>
  rw[tI,bU,Nat.add_mul,Nat.one_mul];have d:(qO c rs s k).length<=rs.length*(gJ (aC c s (k+1))).length:=wH _ _ _ _ _ _ _;have e:rs.length*(gJ (aC c s (k+1))).length<=rs.length*m:=Nat.mul_le_mul_left _ (aP (Ah c s (k+1)) b);omega
section
open Go.RowKit Go.Maps
structure fO where
 a:Nat
 e:Nat
 d:Nat
 g:Nat
 f:Value
 b:Value
def dO(c:aE)(s:ay)(p:fO)(i:Nat):Value:=
 if i<28 then
  (if i%7=0 then Z (aM (s.f (i/7))) else if i%7=1 then I Q (s.g (i/7):Int) else if i%7=6 then I Q (s.q (i/7)) else I Q (c.a (i/7) (i%7-2)))
 else match i-28 with
 |0=>.map (O p.a)
 |1=>Y (O ⟨p.e,0,J⟩)
 |2=>Y (O ⟨p.d,0,J⟩)
 |3=>Y (O ⟨p.g,0,J⟩)
 |4=>p.f
 |5=>p.b
 |6=>I Q 0
 |7=>I Q (s.n:Int)
 |8=>I Q (s.p:Int)
 |9=>I Q (s.l:Int)
 |_=>I Q (s.o:Int)
def im(c:aE)(s:ay)(p:fO):Array Value:=((List.range 39).map (dO c s p)).toArray
theorem sq(c:aE)(s:ay)(p:fO):(im c s p).size=39:=by simp[im]
theorem uB(c:aE)(s:ay)(p:fO){i:Nat}(h:i<39):(im c s p)[i]?=O (dO c s p i):=by unfold im;rw[List.getElem?_toArray,eE,rR h];rfl
theorem Fs{c:aE}{s s':ay}{p p':fO}{i:Nat}{v:Value}(h:∀j,j<39->dO c s' p' j=if j=i then v else dO c s p j):(im c s p).setIfInBounds i v=im c s' p':=by
 apply pQ;intro j;rw[oP,sq];by_cases b:j<39
 ·rw[uB c s' p' b,h j b,uB c s p b];by_cases a:i=j
  ·subst a;simp[b]
  have d:¬j=i:=λe=>a e.symm;simp[a,d]
 have f:(im c s' p')[j]?=J:=j8 (by rw[sq];omega);have g:(im c s p)[j]?=J:=j8 (by rw[sq];omega);rw[f,g];by_cases a:i=j
 ·subst a;simp[b]
 simp[a]
def dV(r:aq):List Value:=[Z r.a,I Q r.e,I Q r.c,I Q r.g,I Q r.b,I Q r.d]
def cS(rs:List aq):List Value:=rs.flatMap dV
def rE(a:dG):List Value:=[I Q (a.a:Int),I Q (a.b:Int),Z a.c]
def gd(l:List dG):List Value:=l.flatMap rE
theorem vH:∀rs:List aq,(cS rs).length=rs.length*6
 |[]=>rfl
 |r::rs=>by
  have:(cS (r::rs)).length=(dV r).length+(cS rs).length:=by simp[cS]
  rw[this,vH rs,eF];show 6+_=_;omega
theorem Fp:∀l:List dG,(gd l).length=l.length*3
 |[]=>rfl
 |a::l=>by
  have:(gd (a::l)).length=(rE a).length+(gd l).length:=by simp[gd]
  rw[this,Fp l,eF];show 3+_=_;omega
theorem Ex(l:List dG)(a:dG):gd (l++[a])=gd l++[I Q (a.a:Int),I Q (a.b:Int),Z a.c]:=by simp[gd,rE]
theorem P3(l:List dG):∀u∈gd l,u.oneCell'=true:=λu c=>by obtain⟨a,_,b⟩:=List.mem_flatMap.1 c;simp[rE]at b;rcases b with rfl|rfl|rfl<;>rfl
theorem Fq(l:List aq):∀u∈cS l,u.oneCell'=true:=λu c=>by obtain⟨a,_,b⟩:=List.mem_flatMap.1 c;simp[dV]at b;rcases b with rfl|rfl|rfl|rfl|rfl|rfl<;>rfl
theorem qq{α:Type}(f:α->List Value)(n:Nat)(a:∀x,(f x).length=n):∀(l:List α)(k j:Nat)(x:α),l[k]?=O x->j<n->(l.flatMap f)[k*n+j]?=(f x)[j]?
 |y::l,0,j,x,hx,hj=>by simp at hx;subst hx;rw[List.flatMap_cons,gO (by rw[a];omega),Nat.zero_mul,dj]
 |y::l,k+1,j,x,hx,hj=>by rw[List.flatMap_cons,jb (by rw[a,Nat.add_mul];omega),a,show (k+1)*n+j-n=k*n+j by rw[Nat.add_mul];omega];exact qq f n a l k j x (by simpa using hx) hj
 |[],_,_,_,hx,_=>by simp at hx
structure nP (w:Ω) (kb:Nat) (L:List ByteArray):Prop where
 d:∃(m:Nat) (D:DataW Value),w.ownsMap prog 9 unitElem kb m D/\m=L.length/\(∀g:ByteArray,Maps.has D (.string g.1.toList)=gY L g)/\Maps.size D=L.length
structure dY (w:Ω) (wb:Nat) (ow:Nat->Nat) (c:aE) (rs:List aq) (s:ay) (k:Nat) (p:fO):Prop where
 t:w.1[wb]?=O (Δ (im c s p) 190)
 d:ow wb=1
 a:∀b,ow b≠0->b<w.1.size
 e:nP w p.a (bJ s.a)
 l:ow p.a=2
 ζ:cG w p.e (λb=>ow b=3) c.b c.e s.b s.a (bD c.b c.e s.b)
 δ:∃who,cd w p.d who c.d c.c k (aC c s k).flatten.length (al (aC c s k))/\∀b,bC who b->ow b=4
 γ:∃F f,ga w p.g p.d F c.f c.g k f/\jj aD (al (aC c s k)) c.d c.c c.f c.g f k/\∀b,F b->ow b=5
 q:w.ownsRow 0 65 6 p.f rs.length (cS rs)
 o:∀b,p.f.ownBlock=O b->ow b=6
 m:w.ownsRow 0 98 3 p.b (bM c rs s k).length (gd (bM c rs s k))
 n:∀b,p.b.ownBlock=O b->ow b=7
 ε:bM c rs s k=[]->p.b=M J 0 0
 g:c.h
 y:rs.length<=6/\∀r,r∈rs->r.h
 h:s.b<=1000
 u:k<=bD c.b c.e s.b
 v:(bJ s.a).length<=12
 z:∀x,x∈s.a->eY s.b x=true/\0<aD x.a
 i:s.d<=20000
structure dx (w:Ω) (wb:Nat) (ow:Nat->Nat) (c:aE) (rs:List aq) (s:ay) (k:Nat):Prop where
 a:∃p,dY w wb ow c rs s k p
structure jy (w:Ω) (wb:Nat) (ow:Nat->Nat) (c:aE) (rs:List aq) (s:ay):Prop where
 a:dx w wb ow c rs s (s.c c)
structure cD (w w':Ω) (ow ow':Nat->Nat):Prop where
 a:ax (λb=>ow b≠0) w w'
 g:∀b,ow' b≠0->ow b≠0\/w.1.size<=b
theorem cD.f(w:Ω)(a:Nat->Nat):cD w w a a:=⟨ax.j _ _,λ_ h=>af h⟩
theorem cD.d{a b c:Ω}{j l m:Nat->Nat}(h:cD a b j l)(k:cD b c l m):cD a c j m where
 a:=h.a.d k.a (λi n e=>by
  rcases h.g i e with f|f
  ·exact f
  ·omega)
 g:=λi f=>by
  rcases k.g i f with e|e
  ·exact h.g i e
  exact ah (aP h.a.c e)
theorem cD.e{a b:Ω}(h:B a.1.size a b)(c:Nat->Nat):cD a b c c:=⟨bH h _,λ_ h=>af h⟩
section
variable {w w':Ω}{wb:Nat}{ow:Nat->Nat}{c:aE}{rs:List aq}{s:ay}{k:Nat}{p:fO}
theorem nP.a{kb:Nat}{L:List ByteArray}(h:nP w kb L)(e:w'.1[kb]?=w.1[kb]?):nP w' kb L:=by obtain⟨m,D,b,c⟩:=h.d;exact⟨m,D,ki b e,c⟩
theorem nP.b{kb:Nat}{L:List ByteArray}(h:nP w kb L):kb<w.1.size:=by obtain⟨m,D,a,c⟩:=h.d;exact a.lt
theorem dY.κ(h:dY w wb ow c rs s k p)(D:w.1.size<=w'.1.size)(r:∀b,b<w.1.size->ow b≠0->w'.1[b]?=w.1[b]?):dY w' wb ow c rs s k p where
 t:=by rw[r wb (h.a wb (by rw[h.d];decide)) (by rw[h.d];decide)];exact h.t
 d:=h.d
 a:=λb j=>bg (h.a b j) D
 e:=h.e.a (r _ h.e.b (by rw[h.l];decide))
 l:=h.l
 ζ:=h.ζ.b (λb j x=>r b j (by rw[x];decide))
 δ:=by obtain⟨C,G,A⟩:=h.δ;exact⟨C,G.b D (λb j E=>r b j (by rw[A b E];decide)),A⟩
 γ:=by obtain⟨F,f,G,A,x⟩:=h.γ;exact⟨F,f,G.a D (λb j E=>r b j (by rw[x b E];decide)),A,x⟩
 q:=aS h.q (λb j=>r b (aU h.q j) (by rw[h.o b j];decide))
 o:=h.o
 m:=aS h.m (λb j=>r b (aU h.m j) (by rw[h.n b j];decide))
 n:=h.n
 ε:=h.ε
 g:=h.g
 y:=h.y
 h:=h.h
 u:=h.u
 v:=h.v
 z:=h.z
 i:=h.i
theorem dx.d(h:dx w wb ow c rs s k)(e:w.1.size<=w'.1.size)(f:∀b,b<w.1.size->ow b≠0->w'.1[b]?=w.1[b]?):dx w' wb ow c rs s k:=by obtain⟨p,h⟩:=h.a;exact⟨p,h.κ e f⟩
theorem dx.b(h:dx w wb ow c rs s k)(a:B w.1.size w w'):dx w' wb ow c rs s k:=h.d a.size (λb e _=>a.block b e)
theorem jy.b(h:jy w wb ow c rs s)(d:B w.1.size w w'):jy w' wb ow c rs s:=⟨h.a.b d⟩
theorem dY.η(h:dY w wb ow c rs s k p):wb<w.1.size:=h.a wb (by rw[h.d];decide)
theorem dY.j(h:dY w wb ow c rs s k p)(i:Nat)(a:i<39):w.cell? ⟨wb,i,J⟩=O (dO c s p i):=by simp only[World.cell?,h.t,ie,iq,fL];exact uB c s p a
theorem dY.θ(h:dY w wb ow c rs s k p)(i:Nat):w.frozen? ⟨wb,i,J⟩=false:=by simp[World.frozen?,h.t]
theorem dY.μ(h:dY w wb ow c rs s k p):w.cell? ⟨wb,28,J⟩=O (.map (O p.a)):=h.j 28 om
theorem dY.ι(h:dY w wb ow c rs s k p):w.cell? ⟨wb,29,J⟩=O (Y (O ⟨p.e,0,J⟩)):=h.j 29 om
theorem dY.ν(h:dY w wb ow c rs s k p):w.cell? ⟨wb,30,J⟩=O (Y (O ⟨p.d,0,J⟩)):=h.j 30 om
theorem dY.ξ(h:dY w wb ow c rs s k p):w.cell? ⟨wb,31,J⟩=O (Y (O ⟨p.g,0,J⟩)):=h.j 31 om
theorem dY.ο(h:dY w wb ow c rs s k p):w.cell? ⟨wb,33,J⟩=O p.b:=h.j 33 om
theorem dY.π(h:dY w wb ow c rs s k p){i:Nat}{v:Value}{s':ay}{p':fO}(a:∀j,j<39->dO c s' p' j=if j=i then v else dO c s p j):(w.setCell ⟨wb,i,J⟩ v).1[wb]?=O (Δ (im c s' p') 190):=by simp only[World.setCell,dU,h.t,iP,kS,ie,iq,fL];rw[Fs a]
end
end
section
open Go.RowKit Go.Maps
def iS(n lo hi:Int):Bool:=decide (lo<=n)&&decide (n<=hi)
theorem Jq(n b c:Int)(w:Ω):
  Φ prog 135 #[I Q n,I Q b,I Q c] w λe f=>e=N (.bool (iS n b c))/\f=w:=by
 by_cases d:b<=n
 ·by_cases g:n<=c
  ·have a:iS n b c=true:=(by simp[iS,d,g]);rw[a];clear a;go_enter func135,ntmps135;go_wp2;go_ret;exact⟨rfl,rfl⟩
  have a:iS n b c=false:=(by simp[iS];omega);rw[a];clear a;go_enter func135,ntmps135;go_wp2;go_ret;exact⟨by simp,rfl⟩
 have a:iS n b c=false:=by simp[iS];omega
 rw[a];clear a;have h:decide (b<=n)=false:=by simpa using d
 go_enter func135,ntmps135;go_wp2;go_ret;exact⟨rfl,rfl⟩
theorem zg{n b a:Int}{r:Bool}(h:iS n b a=r)(w:Ω):
  Φ prog 135 #[I Q n,I Q b,I Q a] w λe c=>e=N (.bool r)/\c=w:=h ▸ Jq n b a w
theorem uX{n:Int}{r:Bool}(h:iS n 0 3=r)(w:Ω):
  Φ prog 111 #[I Q n] w λe a=>e=N (.bool r)/\a=w:=by
 go_enter func111,ntmps111;go_wp2_with fail;refine(zg h _).m ?_;rintro e a ⟨rfl,rfl⟩;go_wp2;go_ret;exact⟨rfl,rfl⟩
theorem LV(s:ByteArray)(w:Ω)(h:dy w)(i:s.size<=100000):
  Φ prog 225 #[Z s] w λe g=>e=N (.bool (decide (0<aD s)))/\B w.1.size w g:=by
 have c:=wK s w h (by unfold maxLen;omega);rcases zr s with ⟨hk,F,P,C,R,S,hp⟩|⟨hk,hp⟩
 ·rw[hp]at c;have e:decide (0<aD s)=true:=by simpa using hk
  rw[e];have a:H (Φ _ _ _ _ _):=c;clear c hp hk e;go_enter func225,ntmps225;go_wp2_with fail;refine ac a.o ?_;rintro e d ⟨rfl,b⟩;have f:H (∀o,B w.1.size w (d.alloc o)):=λo=>b.l b.size o;clear b;unfold nD;go_wp2;go_ret;exact⟨rfl,f.o _⟩
 rw[hp]at c;have e:decide (0<aD s)=false:=by simp;omega
 rw[e];have a:H (Φ _ _ _ _ _):=c;clear c hp hk e;go_enter func225,ntmps225;go_wp2_with fail;refine ac a.o ?_;rintro e d ⟨rfl,b⟩;have f:H (∀o,B w.1.size w (d.alloc o)):=λo=>b.l b.size o;clear b;unfold cJ;go_wp2;go_ret;exact⟨rfl,f.o _⟩
theorem P6{w:Ω}{kb:Nat}{L:List ByteArray}(h:nP w kb L)(g:ByteArray)(k:g.size<=100000):(Instr.lookup 187 (.map (O kb)) (Z g) true).run prog w=.ok (Ψ #[.agg #[],.bool (gY L g)]) w:=by obtain⟨m,D,c,j,b,i⟩:=h.d;obtain⟨u,f,a,e⟩:=c.look_ok ju underlying187 (show (zeroValue 310).run prog w=.ok (.agg #[]) w by kernel_rfl) (zd:=.agg []) (zp:=[]) unitElem_mk (lM (g:=g) (by unfold maxLen;omega));obtain⟨rfl,_⟩:=unitElem_inv e;rw[a,b]
theorem Rw{w:Ω}{kb:Nat}{L:List ByteArray}(h:nP w kb L):(Builtin.len_ #[187] 3 #[.map (O kb)]).run prog w=.ok (I Q (L.length:Int)) w:=by obtain⟨m,D,b,e,c,a⟩:=h.d;rw[b.len underlying187 3,a]
theorem LW{w:Ω}{b n:Nat}{D:DataW Value}(h:w.ownsMap prog 9 unitElem b n D):w.ownsMap prog 9 unitElem b (Maps.size D) D:=by obtain⟨e,a,d,F,f,c⟩:=h;refine⟨e,a,d,F,?_,c⟩;rw[c];simp[Maps.size,length_sorted]
theorem Rx{w:Ω}{kb:Nat}{L:List ByteArray}(h:nP w kb L)(g:ByteArray)(q:g.size<=100000)(o:L.length<=1000):∃b,(Instr.mapUpdate 187 (.map (O kb)) (Z g) (.agg #[])).run prog w=.ok () b/\nP b kb (jY L g)/\w.grownBy b (O kb):=by
 obtain⟨m,D,f,p,j,l⟩:=h.d;obtain⟨b,a,n,i⟩:=f.update (val:=.agg #[]) (d:=.agg []) (ps:=[]) ju underlying187 (by unfold maxLen;omega) (lM (g:=g) (by unfold maxLen;omega)) unitElem_mk;have c:Maps.size (D.put (.string g.1.toList) (.agg []))=(jY L g).length:=by rw[Maps.size_put (f.tidy ju),j,l];unfold jY;split<;>simp
 refine⟨b,a,⟨_,_,LW n,c,λx=>?_,c⟩,i⟩;by_cases e:x=g
 ·subst e;rw[Maps.has_put_same f.isMap (uw _)];symm;rw[sn,Af];exact ah rfl
 rw[Maps.has_put_other (λk=>e (pW (by simpa using k))),j,jq,sn,sn,Af];exact⟨af,λh=>h.resolve_right e⟩
section
variable {w:Ω}{wb:Nat}{ow:Nat->Nat}{c:aE}{rs:List aq}{s:ay}{k:Nat}
theorem Ki(g:ByteArray)(h:dx w wb ow c rs s k)(q:g.size<=100000):
  Φ prog 226 #[Y (O ⟨wb,0,J⟩),Z g] w λe j=>e=N (.bool (!gY (bJ s.a) g&&decide (12<=(bJ s.a).length)))/\B w.1.size w j:=by
 obtain⟨p,h⟩:=h.a;have d:=h.μ;have f:∀o,(w.alloc o).cell? ⟨wb,28,J⟩=O (.map (O p.a)):=λo=>by rw[((aj w.1.size w).l nl o).cell h.η];exact d
 have r:=P6 h.e g q;have t:∀o,(Builtin.len_ #[187] 3 #[.map (O p.a)]).run prog (w.alloc o)=.ok (I Q ((bJ s.a).length:Int)) (w.alloc o):=λo=>Rw (h.e.a (cX _ _ _ h.e.b));have u:(zeroValue 310).run prog w=.ok (.agg #[]) w:=kr;have i:H (∀o,B w.1.size w (w.alloc o)):=λo=>br.l nl o;generalize gY (bJ s.a) g=b at *;generalize (bJ s.a).length=n at *;have m:decide ((12:Int)<=(n:Int))=decide (12<=n):=by rw[decide_eq_decide];omega
 clear h;go_enter func226,ntmps226;cases b with
 |true=>
  go_wp2;go_ret;exact⟨rfl,i.o _⟩
 |false=>
  go_wp2;go_ret;exact⟨by simp,i.o _⟩
end
end
section
open Go.RowKit Go.Maps
def lq(pl:Nat->Nat->Int)(r:Nat):Array Value:=#[I Q (pl r 0),I Q (pl r 1),I Q (pl r 2),I Q (pl r 3)]
def i8(pl:Nat->Nat->Int):Array Value:=#[I Q (pl 0 0),I Q (pl 0 1),I Q (pl 0 2),I Q (pl 0 3),I Q (pl 1 0),I Q (pl 1 1),I Q (pl 1 2),I Q (pl 1 3),I Q (pl 2 0),I Q (pl 2 1),I Q (pl 2 2),I Q (pl 2 3),I Q (pl 3 0),I Q (pl 3 1),I Q (pl 3 2),I Q (pl 3 3)]
theorem Gw(a:Nat->Nat->Int)(V:Ω):(Instr.index 32 (.agg (i8 a)) (I Q 0)).run prog V=.ok (.agg (lq a 0)) V:=kr
theorem Gx(a:Nat->Nat->Int)(V:Ω):(Instr.index 32 (.agg (i8 a)) (I Q 1)).run prog V=.ok (.agg (lq a 1)) V:=kr
theorem Gy(a:Nat->Nat->Int)(V:Ω):(Instr.index 32 (.agg (i8 a)) (I Q 2)).run prog V=.ok (.agg (lq a 2)) V:=kr
theorem Gz(a:Nat->Nat->Int)(V:Ω):(Instr.index 32 (.agg (i8 a)) (I Q 3)).run prog V=.ok (.agg (lq a 3)) V:=kr
theorem TS(a:Nat->Nat->Int)(V:Ω)(r:Nat)(b:r<4):(Instr.index 32 (.agg (i8 a)) (I Q (r:Int))).run prog V=.ok (.agg (lq a r)) V:=by
 match r,b with
 |0,_=>exact Gw a V
 |1,_=>exact Gx a V
 |2,_=>exact Gy a V
 |3,_=>exact Gz a V
theorem SG(a:Nat->Nat->Int)(r:Nat)(V:Ω):(Instr.index 31 (.agg (lq a r)) (I Q 0)).run prog V=.ok (I Q (a r 0)) V:=kr
theorem SH(a:Nat->Nat->Int)(r:Nat)(V:Ω):(Instr.index 31 (.agg (lq a r)) (I Q 1)).run prog V=.ok (I Q (a r 1)) V:=kr
theorem SI(a:Nat->Nat->Int)(r:Nat)(V:Ω):(Instr.index 31 (.agg (lq a r)) (I Q 2)).run prog V=.ok (I Q (a r 2)) V:=kr
theorem SJ(a:Nat->Nat->Int)(r:Nat)(V:Ω):(Instr.index 31 (.agg (lq a r)) (I Q 3)).run prog V=.ok (I Q (a r 3)) V:=kr
theorem TQ(b:Nat->Nat->Int)(r:Nat)(V:Ω)(a:Nat)(c:a<4):(Instr.index 31 (.agg (lq b r)) (I Q (a:Int))).run prog V=.ok (I Q (b r a)) V:=by
 match a,c with
 |0,_=>exact SG b r V
 |1,_=>exact SH b r V
 |2,_=>exact SI b r V
 |3,_=>exact SJ b r V
def sR(pl:Nat->Nat->Int):Prop:=∀r a,r<4->a<4->-1<=pl r a/\pl r a<=7
theorem yI(c:Nat->Nat->Int){b:Bool}(K:b=true↔sR c)(w:Ω):
  Φ prog 98 #[.agg (i8 c)] w λe T=>e=N (.bool b)/\B w.1.size w T:=by
 have L:H (b=true↔sR c):=K;have A:H (∀o,B w.1.size w (w.alloc o)):=λo=>br.l nl o;clear K;go_enter func98,ntmps98;unfold i8;go_upto_region 2 with fail
 go_loopw [4,6,8] (λ_ _ i V=>∃j:Nat,j<=4/\i=I Q (j:Int)/\(∀r a,r<j->a<4->-1<=c r a/\c r a<=7)/\B w.1.size w V) (λ_ _ i _=>4-(intOf i).toNat)
 case atStart=>exact⟨0,om,rfl,λr a P=>by omega,A.o _⟩
 obtain⟨j,U,rfl,x,t⟩:=hrel;have s:H (∀r a,r<j->a<4->-1<=c r a/\c r a<=7):=x;have q:H (B w.1.size w wr):=t;clear x t;by_cases u:j<4
 case neg=>have R:¬(j:Int)<4:=om;have d:b=true:=L.o.2 (λr a P v=>s.o r a om v);subst d;go_wp2;go_ret;exact⟨rfl,q.o⟩
 have R:(j:Int)<4:=om;have G:=TS c wr j u;unfold i8 lq at G;have E:H (∀o,B w.1.size w (wr.alloc o)):=λo=>q.o.l q.o.size o;go_wp2;clear G;go_loopw [6,12] (λ_ i V=>∃m:Nat,m<=4/\i=I Q (m:Int)/\(∀a,a<m->-1<=c j a/\c j a<=7)/\B w.1.size w V) (λ_ i _=>4-(intOf i).toNat)
 case atStart=>exact⟨0,om,rfl,λa v=>by omega,E.o _⟩
 obtain⟨m,W,rfl,n,g⟩:=hrel;have h:H (∀a,a<m->-1<=c j a/\c j a<=7):=n;have f:H (B w.1.size w wr):=g;clear n g;by_cases k:m<4
 case neg=>
  have F:¬(m:Int)<4:=om
  have D:H (∀r a,r<j+1->a<4->-1<=c r a/\c r a<=7):=λr a P v=>by
   by_cases y:r=j
   ·rw[y];exact h.o a om
   exact s.o r a om v
  go_wp2;go_roundw
  case rel=>exact⟨j+1,om,by go_num,D.o,f.o⟩
  simp[intOf];omega
 have F:(m:Int)<4:=om;have p:=TQ c j wr m k;unfold lq at p;cases d:iS (c j m) (-1) 7 with
 |true=>
  have D:H (∀a,a<m+1->-1<=c j a/\c j a<=7):=λa v=>by
   by_cases C:a=m
   ·rw[C];simpa [iS] using d
   exact h.o a om
  go_wp2_with fail;refine(zg d _).m ?_;rintro e S ⟨rfl,rfl⟩;clear p d;go_wp2;go_roundw
  case rel=>exact⟨m+1,om,by go_num,D.o,f.o⟩
  simp[intOf];omega
 |false=>
  have z:b=false:=by
   cases b with
  |false=>rfl
  |true=>
    have:=L.o.1 rfl j m u k;simp[iS]at d;omega
  subst z;go_wp2_with fail;refine(zg d _).m ?_;rintro e S ⟨rfl,rfl⟩;clear p d;go_wp2;go_ret;exact⟨rfl,f.o⟩
structure iO (w:Ω) (q:Option Addr) (rs:List aq):Prop where
 a:rs≠[]->∃b o,q=O ⟨b,o,J⟩/\b<w.1.size/\∀k r,rs[k]?=O r->w.cell? ⟨b,o+k*6,J⟩=O (Z r.a)/\w.cell? ⟨b,o+k*6+1,J⟩=O (I Q r.e)/\w.cell? ⟨b,o+k*6+1+1,J⟩=O (I Q r.c)/\w.cell? ⟨b,o+k*6+1+1+1,J⟩=O (I Q r.g)/\w.cell? ⟨b,o+k*6+1+1+1+1,J⟩=O (I Q r.b)/\w.cell? ⟨b,o+k*6+1+1+1+1+1,J⟩=O (I Q r.d)
theorem iO.d{w w':Ω}{q:Option Addr}{rs:List aq}(h:iO w q rs)(m:w.1.size<=w'.1.size)(l:∀b o,q=O ⟨b,o,J⟩->b<w.1.size->w'.1[b]?=w.1[b]?):iO w' q rs where
 a:=λg=>by obtain⟨b,o,rfl,f,j⟩:=h.a g;have e:=l b o rfl f;refine⟨b,o,rfl,bg f m,λk r n=>?_⟩;have c:∀i,w'.cell? ⟨b,i,J⟩=w.cell? ⟨b,i,J⟩:=λi=>bW e;rw[c,c,c,c,c,c];exact j k r n
theorem iO.c{w w':Ω}{q:Option Addr}{rs:List aq}(h:iO w q rs)(e:B w.1.size w w'):iO w' q rs:=h.d e.size (λb _ _ a=>e.block b a)
theorem iO.e{w:Ω}{q:Option Addr}{rs:List aq}(h:iO w q rs)(n:Nat):iO w q (rs.take n) where
 a:=λd=>by obtain⟨b,o,i,f,g⟩:=h.a (λe=>d (by rw[e];simp));exact⟨b,o,i,f,λk r c=>g k r (by rw[List.getElem?_take]at c;split at c;exact c;cases c)⟩
theorem Kj(rs:List aq)(nm:ByteArray)(q:Option Addr)(cap:Nat){b:Bool}(G:b=true↔∃r,r∈rs/\r.a=nm)(w:Ω)(h:iO w q rs)(U:rs.length<=6):
  Φ prog 136 #[M q rs.length cap,Z nm] w λe X=>e=N (.bool b)/\B w.1.size w X:=by
 have L:H (b=true↔∃r,r∈rs/\r.a=nm):=G;have T:H (iO w q rs):=h;obtain⟨n,D⟩:∃n,n=rs.length:=⟨_,rfl⟩;have K:H (n=rs.length):=D;rw[<-D]at U⊢;clear G h D;go_enter func136,ntmps136;go_wp2;go_loopw [6,9] (λ_ i V=>∃j:Nat,j<=n/\i=I Q (j:Int)/\(∀r,r∈rs.take j->r.a≠nm)/\B w.1.size w V) (λ_ i _=>n-(intOf i).toNat)
 case atStart=>exact⟨0,om,rfl,λr m=>by simp at m,aj _ _⟩
 obtain⟨j,hj,rfl,s,k⟩:=hrel;have u:H (∀r,r∈rs.take j->r.a≠nm):=s;have p:H (B w.1.size w wr):=k;by_cases A:j<n
 case neg=>
  have R:¬(j:Int)<n:=om
  have z:b=false:=by
   cases b with
  |false=>rfl
  |true=>
    obtain⟨r,h1,h2⟩:=L.o.1 rfl;refine absurd h2 (u.o r ?_);rw[ip (by rw[<-K.o];omega)];exact h1
  subst z;clear s k;go_wp2;go_ret;exact⟨rfl,p.o⟩
 have R:(j:Int)<n:=om;have d:j<rs.length:=(by rw[<-K.o];exact A);have y:rs≠[]:=λe=>(by rw[e]at d;simp at d);obtain⟨g,o,rfl,hg,P⟩:=(T.o.c k).a y;obtain⟨W,k1,k2,k3,k4,k5⟩:=P j _ (bc d);have E:H (rs.take (j+1)=rs.take j++[rs[j]]):=iA d;have t:H (rs[j]∈rs):=eG d;have v:H (∀o,B w.1.size w (wr.alloc o)):=λo=>p.o.l p.o.size o;generalize rs[j]=r at *;obtain⟨F,rk,rf,rt,a0,ri⟩:=r;simp only at W k1 k2 k3 k4 k5;clear s k P;by_cases f:F=nm
 ·have C:b=true:=L.o.2 ⟨_,t.o,f⟩;subst C;have S:(F.toList == nm.toList)=true:=pd f;go_wp2;go_ret;exact⟨rfl,v.o _⟩
 have S:(F.toList == nm.toList)=false:=o9 f
 have x:H (∀r,r∈rs.take (j+1)->r.a≠nm):=λr m=>by
  rw[E.o]at m;rcases dP.1 m with m|m
  ·exact u.o r m
  simp at m;rw[m];exact f
 clear f;go_wp2;go_roundw
 case rel=>exact⟨j+1,om,by go_num,x.o,v.o _⟩
 simp[intOf];omega
end
section
open Go.RowKit Go.Maps
section
variable {w:Ω}{wb:Nat}{ow:Nat->Nat}{c:aE}{rs:List aq}{s:ay}{k:Nat}
theorem P7(h:dx w wb ow c rs s k):
  Φ prog 224 #[Y (O ⟨wb,0,J⟩)] w λe d=>e=N (I Q (s.b:Int))/\d=w:=by
 obtain⟨p,h⟩:=h.a;have f:=h.ι;have g:=hid h.ζ;go_enter func224,ntmps224;go_wp2_with fail;refine(P5 g.o).m ?_;rintro e d ⟨rfl,rfl⟩;go_wp2;go_ret;exact⟨rfl,rfl⟩
theorem zL{E:List (List ai)}{g:ByteArray}:aG g E=true↔∃e,bz g (al E e)=true:=vm
theorem DF(g:ByteArray)(e:Int)(h:dx w wb ow c rs s k)(t:g.size<=100000):
  Φ prog 108 #[Y (O ⟨wb,0,J⟩),Z g,I Q e] w λx f=>x=N (Ψ #[I Q (bV k (aG g (aC c s k)) e (aI g (al (aC c s k)) c.d c.c e.toNat)).1,bB (bV k (aG g (aC c s k)) e (aI g (al (aC c s k)) c.d c.c e.toNat)).2])/\B w.1.size w f:=by
 obtain⟨p,h⟩:=h.a;have j:=h.ν;obtain⟨m,n,_⟩:=h.δ;have l:=aP h.u (aP kU h.h);have i:=hid (zG g e n h.g.b l t zL);generalize (bV k (aG g (aC c s k)) e (aI g (al (aC c s k)) c.d c.c e.toNat))=v at *;go_enter func108,ntmps108;go_wp2_with fail;refine ac i.o ?_;rintro e f ⟨rfl,q⟩;have r:=hid q;go_wp2;go_ret2;exact⟨rfl,r.o⟩
def vX(c:aE)(s:ay)(k:Nat)(g:ByteArray)(e:Nat)(q:ByteArray):Prop:=∃f,jj aD (al (aC c s k)) c.d c.c c.f c.g f k/\q=f e g
def mC(c:aE)(s:ay)(k:Nat)(g:ByteArray)(e:Int)(q:ByteArray):Prop:=
 if (bV k (aG g (aC c s k)) e (aI g (al (aC c s k)) c.d c.c e.toNat)).2=0 then vX c s k g e.toNat q else q=⟨#[]⟩
theorem SK(h:dx w wb ow c rs s k)(g:ByteArray)(e:Int):∃q,mC c s k g e q:=by
 obtain⟨p,h⟩:=h.a;obtain⟨F,f,_,i,_⟩:=h.γ;unfold mC;by_cases b:(bV k (aG g (aC c s k)) e (aI g (al (aC c s k)) c.d c.c e.toNat)).2=0
 ·exact⟨f e.toNat g,by rw[ak b];exact⟨f,i,rfl⟩⟩
 exact⟨⟨#[]⟩,by rw[ag b]⟩
theorem Kk{g:ByteArray}{e:Nat}{q d:ByteArray}(b:e<k)(h:vX c s k g e q)(i:vX c s k g e d):q=d:=by obtain⟨f,j,rfl⟩:=h;obtain⟨m,l,rfl⟩:=i;exact jj.a j g (λe b=>l e g b) e b
theorem Kl(g:ByteArray)(e:Int){q:ByteArray}(h:dx w wb ow c rs s k)(D:g.size<=100000)(j:mC c s k g e q):
  Φ prog 109 #[Y (O ⟨wb,0,J⟩),Z g,I Q e] w λx P=>x=N (Ψ #[Z q,bB (bV k (aG g (aC c s k)) e (aI g (al (aC c s k)) c.d c.c e.toNat)).2])/\B w.1.size w P:=by
 have l:=hid (DF g e h D);have K:=hid h;by_cases i:(bV k (aG g (aC c s k)) e (aI g (al (aC c s k)) c.d c.c e.toNat)).2=0
 ·unfold mC at j;rw[ak i]at j
  have V:0<=e/\e<(k:Int):=by
   unfold bV at i;split at i
   ·assumption
   simp at i
  obtain⟨m,rfl⟩:∃m:Nat,e=(m:Int):=⟨e.toNat,om⟩;rw[ir]at j;have L:=hid j;rw[i]at l⊢;generalize (bV k (aG g (aC c s k)) (m:Int) (aI g (al (aC c s k)) c.d c.c (m:Int).toNat)).1=v at *;have y:bB 0=.nilIface:=rfl;rw[y]at l⊢;have n:m<k:=om;go_enter func109,ntmps109;go_wp2_with fail;refine ac l.o ?_;rintro e R ⟨rfl,r⟩;obtain⟨p,t⟩:=(K.o.b r).a;have G:=t.ξ;obtain⟨F,f,E,U,_⟩:=t.γ;have T:=aP t.u (aP kU t.h);have A:=Kk n ⟨f,U,rfl⟩ L.o;have S:=hid (A ▸ LU g m E T n D);have z:=hid r;go_wp2_with fail;refine ac S.o ?_;rintro e W ⟨rfl,rfl⟩;go_wp2;go_ret2;exact⟨rfl,z.o⟩
 unfold mC at j;rw[ag i]at j;subst j;generalize (bV k (aG g (aC c s k)) e (aI g (al (aC c s k)) c.d c.c e.toNat))=v at *;obtain⟨X,C⟩:=v;simp only at i l⊢;have y:bB C=.iface 57 (I Q (C:Int)):=by unfold bB;rw[ag i]
 rw[y]at l⊢;go_enter func109,ntmps109;go_wp2_with fail;refine ac l.o ?_;rintro e R ⟨rfl,r⟩;have z:=hid r;go_wp2;go_ret2;exact⟨rfl,z.o⟩
theorem NW(r:Int)(b:iS r 0 3=false):
  Φ prog 76 #[Y (O ⟨wb,0,J⟩),I Q r] w λe a=>e=N (Ψ #[I Q 0,.iface 57 (I Q 1)])/\a=w:=by
 go_enter func76,ntmps76;go_wp2_with fail;refine(uX b _).m ?_;rintro e a ⟨rfl,rfl⟩;go_wp2;go_ret2;exact⟨rfl,rfl⟩
theorem P8(r:Nat)(h:dx w wb ow c rs s k)(i:r<4):
  Φ prog 76 #[Y (O ⟨wb,0,J⟩),I Q (r:Int)] w λe b=>e=N (Ψ #[I Q (s.q r),.nilIface])/\b=w:=by
 obtain⟨p,h⟩:=h.a;have f:iS (r:Int) 0 3=true:=by simp[iS];omega
 have g:w.cell? ⟨wb,r*7+6,J⟩=O (I Q (s.q r)):=by rw[h.j (r*7+6) om];unfold dO;rw[ak om,show (r*7+6)%7=6 by omega,show (r*7+6)/7=r by omega];rfl
 have d:(r:Int)<4:=om;go_enter func76,ntmps76;go_wp2_with fail;refine(uX f _).m ?_;rintro e b ⟨rfl,rfl⟩;go_wp2;go_ret2;exact⟨rfl,rfl⟩
end
end
section
open Go.RowKit Go.Maps
theorem xS:(prog.info? 98).map (λi=>(i.zero,i.size,i.bytes))=O (O (.agg #[I Q 0,I Q 0,Z ⟨#[]⟩]),3,32):=kr
theorem NY(a:Addr)(n cap:Nat)(w:Ω):(binOp BinOp.eql 91 (M (O a) n cap) (M J 0 0)).run prog w=.ok (.bool false) w:=kr
theorem NX(w:Ω):(binOp BinOp.eql 91 (M J 0 0) (M J 0 0)).run prog w=.ok (.bool true) w:=kr
theorem Ko(A:List dG)(v:Value)(w:Ω)(h:w.ownsRow 0 98 3 v A.length (gd A))(L:A=[]->v=M J 0 0)(U:A.length<=100000):
  Φ prog 156 #[v] w λe s=>∃u,e=N u/\s.ownsRow w.1.size 98 3 u A.length (gd A)/\B w.1.size w s:=by
 obtain⟨F,C,q,n,i⟩:=eb xS;have d:=h;rcases h.2 with ⟨rfl,h0⟩|⟨g,cap,cur,rfl,h1⟩
 ·have S:=iG.1 h0;subst S;have z:=NX w;go_enter func156,ntmps156;go_wp2;go_ret;exact⟨_,rfl,fH _ _ _ _,aj _ _⟩
 have f:0<A.length:=by refine jl.2 (λe=>?_);have:=L e;simp at this
 have z:=NY ⟨g,0,J⟩ A.length cap w;have c:=hid d;have G:H ((w.alloc (Δ #[] 98)).ownsRow w.1.size 98 3 (M (O ⟨w.1.size,0,J⟩) 0 0) 0 []):=World.ownsRow_made w #[] 0 nl dc rfl;have E:=Fp A;go_enter func156,ntmps156;go_wp2_with (at_builtin;refine iB _ rfl _ _ 91 rfl w.1.size 98 F (.agg #[I Q 0,I Q 0,Z ⟨#[]⟩]) 3 32 underlying91 C q n i rfl dc _ _ _ rfl G.o ⟨g,0,J⟩ A.length cap (gd A) rfl E ?q1 (P3 A) f ?q3 ?q4 ?q5 (w.1.size+1) ?q6 ?_)
 case q1=>intro j u K;have x:=c.o.cells rfl j u K;rw[dD]at x⊢;rw[((aj w.1.size w).l nl _).cell (p:=⟨g,j,J⟩) (show g<_ from aU c.o rfl)];exact x
 case q3=>unfold maxLen;omega
 case q4=>omega
 case q5=>simp
 case q6=>simp
 intro T r V b a t y;have D:=((aj w.1.size w).l nl _).grown a sm (λk R=>by simp[Value.ownBlock]at R;omega);have P:=hid D;have m:=hid b;go_wp2;go_ret;exact⟨_,rfl,m.o,P.o⟩
section
variable {w:Ω}{wb:Nat}{ow:Nat->Nat}{c:aE}{rs:List aq}{s:ay}{k:Nat}
theorem AK{p:fO}(h:dY w wb ow c rs s k p):(bM c rs s k).length<=72000:=by
 refine aP (ze c rs s k 12 h.v) ?_;have a:=aP h.u (aP kU h.h);have b:=h.y.1
 calc k*(rs.length*12)<=1000*(6*12):=pT a (pT b nl)
  _=72000:=rfl
theorem Km(h:dx w wb ow c rs s k):
  Φ prog 112 #[Y (O ⟨wb,0,J⟩)] w λe d=>∃u,e=N u/\d.ownsRow w.1.size 98 3 u (bM c rs s k).length (gd (bM c rs s k))/\B w.1.size w d:=by
 obtain⟨p,h⟩:=h.a;have g:=h.ο;have f:=hid (Ko _ p.b w h.m h.ε (by have:=AK h;omega));generalize bM c rs s k=A at *;go_enter func112,ntmps112;go_wp2_with fail;refine ac f.o ?_;rintro e q ⟨u,rfl,i,j⟩;have l:=hid i;have n:=hid j;go_wp2;go_ret;exact⟨u,rfl,l.o,n.o⟩
end
end
section
open Go.RowKit Go.Maps
def oC(rs:List aq)(j:Nat):Prop:=∀r,rs[j]?=O r->r.h/\∀x,x∈rs.take j->x.a≠r.a
def lz(rs:List aq)(n:Nat):Prop:=
 (6<rs.length/\n=2)\/(rs.length<=6/\(((∀j,j<rs.length->oC rs j)/\n=0)\/∃j r,rs[j]?=O r/\(∀i,i<j->oC rs i)/\((¬r.h/\r.i n/\n≠0)\/(r.h/\(∃x,x∈rs.take j/\x.a=r.a)/\n=7))))
theorem A5(r:aq):∃n,r.i n:=by
 unfold aq.i aq.h;by_cases a:r.l
 ·by_cases b:r.j
  ·by_cases c:r.m
   ·exact⟨0,ah (ah (ah ⟨⟨a,b,c⟩,rfl⟩))⟩
   exact⟨3,ah (ah (af ⟨a,b,c,rfl⟩))⟩
  exact⟨1,ah (af ⟨a,b,rfl⟩)⟩
 exact⟨4,af ⟨a,rfl⟩⟩
theorem xh{rs:List aq}{j n:Nat}{r:aq}(e:rs[j]?=O r)(h:oC rs j)(b:(¬r.h/\r.i n/\n≠0)\/(r.h/\(∃x,x∈rs.take j/\x.a=r.a)/\n=7)):False:=by
 obtain⟨c,d⟩:=h r e;rcases b with ⟨h3,_⟩|⟨_,⟨x,h3,h4⟩,_⟩
 ·exact h3 c
 exact d x h3 h4
theorem lz.a{rs:List aq}{n m:Nat}(h:lz rs n)(b:lz rs m):n=m:=by
 rcases h with ⟨h1,h2⟩|⟨h1,h2⟩<;>rcases b with ⟨k1,k2⟩|⟨k1,k2⟩
 ·omega
 ·omega
 ·omega
 rcases h2 with ⟨h2,h3⟩|⟨j,r,hj,hi,hb⟩<;>rcases k2 with ⟨k2,k3⟩|⟨j',r',hj',hi',hb'⟩
 ·omega
 ·exact(xh hj' (h2 j' (gD.1 hj').1) hb').elim
 ·exact(xh hj (k2 j (gD.1 hj).1) hb).elim
 rcases Nat.lt_trichotomy j j' with hl|hl|hl
 ·exact(xh hj (hi' j hl) hb).elim
 ·subst hl;rw[hj]at hj';cases hj';rcases hb with ⟨a1,a2,a3⟩|⟨a1,a2,a3⟩<;>rcases hb' with ⟨b1,b2,b3⟩|⟨b1,b2,b3⟩
  ·exact qh a2 b2
  ·exact absurd b1 a1
  ·exact absurd a1 b1
  omega
 exact(xh hj' (hi j' hl) hb').elim
theorem lz.c(rs:List aq):∃n,lz rs n:=by
 by_cases t:6<rs.length
 ·exact⟨2,af ⟨t,rfl⟩⟩
 have g:∀m,(∀j,j<m->oC rs j)\/∃n j r,rs[j]?=O r/\(∀i,i<j->oC rs i)/\((¬r.h/\r.i n/\n≠0)\/(r.h/\(∃x,x∈rs.take j/\x.a=r.a)/\n=7)):=by
  intro m
  induction m with
 |zero=>exact af (λj s=>by omega)
 |succ m ih=>
   rcases ih with ih|ih
   ·cases hm:rs[m]? with
   |none=>
     refine af (λj s=>?_);by_cases d:j=m
     ·intro r p;rw[d,hm]at p;cases p
     exact ih j om
   |some r=>
     obtain⟨n,o⟩:=A5 r;by_cases b:r.h
     ·by_cases q:∃x,x∈rs.take m/\x.a=r.a
      ·exact ah ⟨7,m,r,hm,ih,ah ⟨b,q,rfl⟩⟩
      refine af (λj s=>?_);by_cases d:j=m
      ·intro u f;rw[d,hm]at f;cases f;exact⟨b,λx k l=>q ⟨x,by rw[<-d];exact k,l⟩⟩
      exact ih j om
     exact ah ⟨n,m,r,hm,ih,af ⟨b,o,λe=>b ((mO o).1 e)⟩⟩
   exact ah ih
 rcases g rs.length with h|⟨n,j,r,k,l,h3⟩
 ·exact⟨0,ah ⟨om,af ⟨h,rfl⟩⟩⟩
 exact⟨n,ah ⟨om,ah ⟨j,r,k,l,h3⟩⟩⟩
theorem lz.b{rs:List aq}(h:lz rs 0):rs.length<=6/\(∀r,r∈rs->r.h):=by
 rcases h with ⟨_,h⟩|⟨h1,⟨h2,_⟩|⟨j,r,a,hi,⟨_,_,h3⟩|⟨_,_,h3⟩⟩⟩
 ·omega
 ·refine⟨h1,λr c=>?_⟩;obtain⟨j,a⟩:=List.mem_iff_getElem?.1 c;exact(h2 j (gD.1 a).1 r a).1
 ·exact absurd rfl h3
 omega
theorem BX(rs:List aq)(q:Option Addr)(cap:Nat){n:Nat}(hn:lz rs n)(w:Ω)(h:iO w q rs)(hs:∀r,r∈rs->r.a.size<=9223372036854775807)(hc:rs.length<=cap)(hl:rs.length<=9223372036854775807):
  Φ prog 99 #[M q rs.length cap] w λe w'=>e=N (lc n)/\B w.1.size w w':=by
 have HN:=hid hn;have HR:=hid h;have HS:=hid hs;obtain⟨d,L⟩:∃d,d=rs.length:=⟨_,rfl⟩;have v:=hid L;by_cases h6:6<rs.length
 case pos=>have e2:=lz.a hn (af ⟨h6,rfl⟩);subst e2;rw[<-L]at h6 hl⊢;have hI:(6:Int)<d:=om;go_enter func99,ntmps99;go_wp2;go_ret;exact⟨rfl,aj _ _⟩
 case neg=>
  rw[<-L]at h6 hc⊢;have hI:¬(6:Int)<d:=om;go_enter func99,ntmps99;go_wp2;go_loopw [3,4,5,12] (λ_ _ _ i V=>∃j:Nat,j<=d/\i=I Q (j:Int)/\(∀i,i<j->oC rs i)/\B w.1.size w V) (λ_ _ _ i _=>d-(intOf i).toNat)
  case atStart=>exact⟨0,om,rfl,λi hi=>by omega,aj _ _⟩
  case round=>
   obtain⟨j,hj,rfl,E,s⟩:=hrel;have p:=hid E;have HBL:=hid s;by_cases hlt:j<d
   case neg=>have hII:¬(j:Int)<d:=om;have e0:=lz.a HN.o (ah ⟨by have:=v.o;omega,af ⟨λi hi=>p.o i (by have:=v.o;omega),rfl⟩⟩);subst e0;go_wp2;go_ret;exact⟨rfl,HBL.o⟩
   case pos=>
    have hII:(j:Int)<d:=om;have z:j<rs.length:=(by rw[<-v.o];exact hlt);have hne:rs≠[]:=λe=>(by rw[e]at z;simp at z);obtain⟨g,o,rfl,hg,T⟩:=(HR.o.c s).a hne;have G:=bc z;obtain⟨k0,k1,k2,k3,k4,k5⟩:=T j _ G;have hsz:=HS.o _ (eG z);have K:=hid G;have HTL:H ((rs.take j).length=j):=(by show _=_;rw[fj];omega);generalize rs[j]=r at *;have F:∀o,B w.1.size w (wr.alloc o):=λo=>s.l s.size o;have A:=hid F;obtain⟨m,hm⟩:=A5 r;have HM:=hid hm;have f:H (∀V,Φ prog 130 #[aL r] V λe w'=>e=N (lc m)/\B V.1.size V w'):=λV=>wV r V hsz hm;clear E s T G F hm;by_cases D:r.h
    case neg=>have P:m≠0:=λe=>D ((mO HM.o).1 e);have enm:=lz.a HN.o (ah ⟨by have:=v.o;omega,ah ⟨j,r,K.o,p.o,af ⟨D,HM.o,P⟩⟩⟩);subst enm;have ee:lc n=.iface 57 (I Q (n:Int)):=(by unfold lc;rw[ag P]);rw[ee]at f;have HEE:=hid ee;obtain⟨C,rk,rf,rt,W,ri⟩:=r;unfold aL at f;simp only at k0 k1 k2 k3 k4 k5 f;go_wp2_with fail;refine(f.o _).m ?_;rintro e k ⟨rfl,y⟩;have u:=hid ((A.o _).t (y.m (A.o _).size));go_wp2;go_ret;exact⟨by rw[HEE.o];rfl,u.o⟩
    case pos=>
     have hm0:=(mO HM.o).2 D;subst hm0;have ee:lc 0=.nilIface:=rfl;rw[ee]at f;have U:=hid D;obtain⟨C,rk,rf,rt,W,ri⟩:=r;unfold aL at f;simp only at k0 k1 k2 k3 k4 k5 f;go_wp2_with fail;refine(f.o _).m ?_;rintro e k ⟨rfl,y⟩;have u:=hid ((A.o _).t (y.m (A.o _).size));have hbx:k.1[wr.1.size]?=O (Δ #[Z C,I Q rk,I Q rf,I Q rt,I Q W,I Q ri] 65):=(by rw[y.block wr.1.size sm];exact bn wr _);have z0:k.cell? ⟨wr.1.size,0,J⟩=O (Z C):=(by simp[World.cell?,hbx]);have HR2:=hid ((HR.o.c u.o).e j);obtain⟨b,hb⟩:∃b:Bool,b=true↔∃x,x∈rs.take j/\x.a=C:=⟨(rs.take j).any (λx=>decide (x.a=C)),by simp⟩;have HB:=hid hb;have HHN:H (∀V,B k.1.size k V->Φ prog 136 #[M (O ⟨g,o,J⟩) j cap,Z C] V λe w'=>e=N (.bool b)/\B V.1.size V w'):=λV hV=>(by have h1:=Kj (rs.take j) C (O ⟨g,o,J⟩) cap hb V (HR2.o.c hV) (by rw[HTL.o];omega);rw[HTL.o]at h1;exact h1);have X:H (∀V,B k.1.size k V->V.cell? ⟨wr.1.size,0,J⟩=O (Z C)/\B k.1.size k V):=λV hV=>⟨aH hV z0,hV⟩;have hWW:B k.1.size k k:=aj _ _;have hjc:(j:Int)<=cap:=om;have hj0:(0:Int)<=j:=om;go_wp2_with fail
     go_region_held3 (λV=>V.cell? ⟨wr.1.size,0,J⟩=O (Z C)/\B k.1.size k V)
      (first|exact X.o _ (ma ‹_›)|(go_split_ands;exact X.o _ (bQ ‹_› hb5)))
      (first|(go_at_call 136;go_split_ands;refine(HHN.o _ ‹_›).m ?_;rintro e w5 ⟨rfl,hb5⟩))
     rename_i hH;have R:=hid (u.o.t (hH.2.m u.o.size));cases b with
    |true=>
      have hx:=HB.o.1 rfl;have e7:=lz.a HN.o (ah ⟨by have:=v.o;omega,ah ⟨j,_,K.o,p.o,ah ⟨U.o,hx,rfl⟩⟩⟩);subst e7;go_wp2;go_ret;exact⟨rfl,R.o⟩
    |false=>
      have HF2:H (∀i,i<j+1->oC rs i):=λi hi=>by
       by_cases S:i=j
       ·intro r hr;rw[S,K.o]at hr;cases hr
        exact⟨U.o,λx h1 h2=>by
         have:=HB.o.2 ⟨x,by rw[<-S];exact h1,h2⟩;cases this⟩
       exact p.o i om
      go_wp2;go_roundw
      case rel=>exact⟨j+1,om,by go_num,HF2.o,R.o⟩
      simp[intOf];omega
end
section
open Go.RowKit Go.Maps
theorem Qb(c:aE)(s:ay)(p:fO){r:Nat}(a:r<4):dO c s p (r*7)=Z (aM (s.f r)):=by unfold dO;rw[ak om,ak om,show r*7/7=r by omega]
theorem Qa(c:aE)(s:ay)(p:fO){r:Nat}(a:r<4):dO c s p (r*7+1)=I Q (s.g r:Int):=by unfold dO;rw[ak om,ag om,ak om,show (r*7+1)/7=r by omega]
theorem NZ(c:aE)(s:ay)(p:fO){r a:Nat}(b:r<4)(d:a<4):dO c s p (r*7+2+a)=I Q (c.a r a):=by unfold dO;rw[ak om,ag om,ag om,ag om,show (r*7+2+a)/7=r by omega,show (r*7+2+a)%7-2=a by omega]
theorem P9(c:aE)(s:ay)(p:fO){r:Nat}(g:r<4)(R:List UInt8)(n:Nat)(j:Nat):dO c (s.j r R n) p j=if j=r*7+1 then I Q (n:Int) else if j=r*7 then Z (aM R) else dO c s p j:=by
 by_cases e:j=r*7+1
 ·rw[ak e,e,Qa c _ p g];unfold ay.j;simp only[vx]
 rw[ag e];by_cases f:j=r*7
 ·rw[ak f,f,Qb c _ p g];unfold ay.j;simp only[vx]
 rw[ag f];unfold dO;by_cases a:j<28
 ·rw[ak a,ak a];by_cases d:j%7=0
  ·rw[ak d,ak d];unfold ay.j;simp only;rw[zJ _ _ om]
  rw[ag d,ag d];by_cases b:j%7=1
  ·rw[ak b,ak b];unfold ay.j;simp only;rw[zJ _ _ om]
  rw[ag b,ag b];rfl
 rw[ag a,ag a];rfl
def v9(c:aE)(s:ay)(p:fO)(r:Nat)(hr:r<4):qH:=⟨r*7,im c s p,190,by rw[sq];omega⟩
theorem Ey(c:aE)(s:ay)(p:fO)(r:Nat)(i:r<4)(R:List UInt8)(n:Nat):(v9 c s p r i).b (aM R) n=Δ (im c (s.j r R n) p) 190:=by
 unfold qH.b v9;simp only;congr 1;apply pQ;intro j;rw[oP,oP,Array.size_setIfInBounds,sq];by_cases f:j<39
 ·rw[uB c (s.j r R n) p f,uB c s p f,P9 c s p i R n j];by_cases g:j=r*7+1
  ·subst g;simp[f]
  have d:¬r*7+1=j:=λe=>g e.symm;rw[ag d,ag g];by_cases h:j=r*7
  ·subst h;simp[f]
  have a:¬r*7=j:=λe=>h e.symm;rw[ag a,ag h]
 have k:(im c (s.j r R n) p)[j]?=J:=j8 (by rw[sq];omega);have l:(im c s p)[j]?=J:=j8 (by rw[sq];omega);rw[k,l];have d:¬r*7+1=j:=om;have a:¬r*7=j:=om;simp[d,a]
theorem DH(s:ay)(r:Nat):s.j r (s.f r) (s.g r)=s:=by
 unfold ay.j;have a:fT s.f r (s.f r)=s.f:=by funext i;unfold fT;split<;>simp_all
 have b:fT s.g r (s.g r)=s.g:=by funext i;unfold fT;split<;>simp_all
 rw[a,b]
theorem Fv{w:Ω}{a:Nat}{c:aE}{s:ay}{p:fO}(r:Nat)(b:r<4)(d:w.1[a]?=O (Δ (im c s p) 190)):dK w a (v9 c s p r b) (aM (s.f r)) (s.g r):=⟨by rw[Ey,DH];exact d⟩
section
variable {w:Ω}{wb:Nat}{ow:Nat->Nat}{c:aE}{rs:List aq}{s:ay}{k:Nat}
theorem GA{z:Int}(a:0<=z)(b:z<=10000000):IntKind.i64.wrap z=z:=by simp[IntKind.wrap,IntKind.bits,IntKind.signed];omega
def oK(s:ay)(n:Nat):Value:=.agg #[I Q (n:Int),I Q (s.n:Int),I Q (s.p:Int),I Q (s.l:Int),I Q (s.o:Int)]
def dE(s:ay)(i:Nat):Nat:=((List.range i).map s.g).sum
theorem xy(s:ay)(i:Nat):dE s (i+1)=dE s i+s.g i:=by unfold dE;rw[l8,iY,List.sum_append];simp
theorem L4(h:dx w wb ow c rs s k):
  Φ prog 114 #[Y (O ⟨wb,0,J⟩)] w λe A=>e=N (oK s (dE s 4))/\B w.1.size w A:=by
 obtain⟨p,h⟩:=h.a;have r:=h.η;have f:∀(o:Obj)(i:Nat),i<39->(w.alloc o).cell? ⟨wb,i,J⟩=O (dO c s p i):=λo i W=>by rw[((aj w.1.size w).l nl o).cell h.η];exact h.j i W
 have X:∀o,(w.alloc o).cell? ⟨wb,34,J⟩=O (I Q 0):=λo=>f o 34 om;have d1:∀o,(w.alloc o).cell? ⟨wb,35,J⟩=O (I Q (s.n:Int)):=λo=>f o 35 om;have d2:∀o,(w.alloc o).cell? ⟨wb,36,J⟩=O (I Q (s.p:Int)):=λo=>f o 36 om;have d3:∀o,(w.alloc o).cell? ⟨wb,37,J⟩=O (I Q (s.l:Int)):=λo=>f o 37 om;have d4:∀o,(w.alloc o).cell? ⟨wb,38,J⟩=O (I Q (s.o:Int)):=λo=>f o 38 om;have D:H (dY w wb ow c rs s k p):=h;clear f h;go_enter func114,ntmps114;go_upto_region 3 with fail
 clear X d1 d2 d3 d4;have F:H (∀o q,B w.1.size w ((w.alloc o).alloc q)):=λo q=>((aj _ w).l nl o).l sm q;have HN:H (∀o q,((w.alloc o).alloc q).1[w.1.size+1]?=O q):=λo q=>by show _=_;have:=bn (w.alloc o) q;simpa using this
 have K:H (∀o q,((w.alloc o).alloc q).1[w.1.size]?=O o):=λo q=>by show _=_;rw[cX _ _ _ sm];exact bn w o
 go_loopw [9] (λi V=>∃j:Nat,j<=4/\i=I Q (j:Int)/\V.1[w.1.size+1]?=O (Δ #[I Q (dE s j:Int),I Q (s.n:Int),I Q (s.p:Int),I Q (s.l:Int),I Q (s.o:Int)] 51)/\V.1[w.1.size]?=O (Δ #[I Q 0,I Q 0,I Q 0,I Q 0,I Q 0] 51)/\B w.1.size w V) (λi _=>4-(intOf i).toNat)
 case atStart=>exact⟨0,om,rfl,HN.o _ _,K.o _ _,F.o _ _⟩
 case round=>
  obtain⟨j,hj,rfl,C,z,x⟩:=hrel;have u:H (B w.1.size w wr):=x;have y:H (wr.1[w.1.size+1]?=O (Δ #[I Q (dE s j:Int),I Q (s.n:Int),I Q (s.p:Int),I Q (s.l:Int),I Q (s.o:Int)] 51)):=C;have b:H (wr.1[w.1.size]?=O (Δ #[I Q 0,I Q 0,I Q 0,I Q 0,I Q 0] 51)):=z;have e0:wr.cell? ⟨w.1.size+1,0,J⟩=O (I Q (dE s j:Int)):=by simp[World.cell?,C]
  have ez:wr.frozen? ⟨w.1.size+1,0,J⟩=false:=by simp[World.frozen?,C]
  clear C z x;by_cases r:j<4
  case pos=>
   have U:(j:Int)<4:=om
   have T:dE s j+s.g j<=20000:=by
    have h1:=D.o.i
    have h2:dE s j+s.g j<=s.d:=by
     unfold ay.d dE
     match j,r with
    |0,_=>simp;omega
    |1,_=>simp[l8];omega
    |2,_=>simp[l8];omega
    |3,_=>simp[l8];omega
    omega
   have S:H (∀V:Ω,V.1=wr.1->Φ prog 160 #[Y (O ⟨wb,j*7,J⟩)] V λe A=>e=N (I Q (s.g j:Int))/\A=V):=λV hV=>LZ (L:=v9 c s p j r) wb _ _ _ (Fv j r (by
    rw[hV];exact(u.o.block wb D.o.η).trans D.o.t))
   have P:H (IntKind.i64.wrap ((dE s j:Int)+(s.g j:Int))=((dE s (j+1):Nat):Int)):=(by show _=_;rw[xy,GA om om];omega);have R:H (((wr.setCell ⟨w.1.size+1,0,J⟩ (I Q ((dE s (j+1):Nat):Int))).drew).1[w.1.size+1]?=O (Δ #[I Q (dE s (j+1):Int),I Q (s.n:Int),I Q (s.p:Int),I Q (s.l:Int),I Q (s.o:Int)] 51)):=(by show (wr.setCell _ _).1[_]?=_;simp[World.setCell,dU,y.o]);have E:H (((wr.setCell ⟨w.1.size+1,0,J⟩ (I Q ((dE s (j+1):Nat):Int))).drew).1[w.1.size]?=O (Δ #[I Q 0,I Q 0,I Q 0,I Q 0,I Q 0] 51)):=(by show (wr.setCell _ _).1[_]?=_;rw[bN _ _ _ _ (by show w.1.size≠w.1.size+1;omega)];exact b.o);have G:H (B w.1.size w ((wr.setCell ⟨w.1.size+1,0,J⟩ (I Q ((dE s (j+1):Nat):Int))).drew)):=(u.o.c sm _).drew;go_wp2_with fail;go_region_with (go_at_call 160;refine(S.o wr.drew rfl).m ?_;rintro e A ⟨rfl,rfl⟩)
   all_goals
    rw[P.o];go_wp2;go_roundw
    case rel=>exact⟨j+1,om,by go_num,R.o,E.o,G.o⟩
    simp[intOf];omega
  obtain rfl:j=4:=om;have U:¬((4:Nat):Int)<4:=om;have f0:wr.cell? ⟨w.1.size+1,1,J⟩=O (I Q (s.n:Int)):=(by simp[World.cell?,y.o]);have f1:wr.cell? ⟨w.1.size+1,2,J⟩=O (I Q (s.p:Int)):=(by simp[World.cell?,y.o]);have f2:wr.cell? ⟨w.1.size+1,3,J⟩=O (I Q (s.l:Int)):=(by simp[World.cell?,y.o]);have f3:wr.cell? ⟨w.1.size+1,4,J⟩=O (I Q (s.o:Int)):=(by simp[World.cell?,y.o]);have g0:wr.cell? ⟨w.1.size,0,J⟩=O (I Q 0):=(by simp[World.cell?,b.o]);have g1:wr.cell? ⟨w.1.size,1,J⟩=O (I Q 0):=(by simp[World.cell?,b.o]);have g2:wr.cell? ⟨w.1.size,2,J⟩=O (I Q 0):=(by simp[World.cell?,b.o]);have g3:wr.cell? ⟨w.1.size,3,J⟩=O (I Q 0):=(by simp[World.cell?,b.o]);have g4:wr.cell? ⟨w.1.size,4,J⟩=O (I Q 0):=(by simp[World.cell?,b.o]);have gz:∀i:Nat,wr.frozen? ⟨w.1.size,i,J⟩=false:=λi=>by simp[World.frozen?,b.o]
  have HB:H (B w.1.size w (((((wr.setCell ⟨w.1.size,0,J⟩ (I Q (dE s 4:Int))).setCell ⟨w.1.size,1,J⟩ (I Q (s.n:Int))).setCell ⟨w.1.size,2,J⟩ (I Q (s.p:Int))).setCell ⟨w.1.size,3,J⟩ (I Q (s.l:Int))).setCell ⟨w.1.size,4,J⟩ (I Q (s.o:Int)))):=
   ((((u.o.c nl _).c nl _).c nl _).c nl _).c nl _
  go_wp2;refine bK (v:=oK s (dE s 4)) (by simp[results,results114,go_sem,oK,g0,g1,g2,g3,g4]) rfl ⟨rfl,HB.o⟩
end
end
section
open Go.RowKit Go.Maps
theorem xT:(prog.info? 65).map (λi=>(i.zero,i.size,i.bytes))=O (O (.agg #[Z ⟨#[]⟩,I Q 0,I Q 0,I Q 0,I Q 0,I Q 0]),6,56):=kr
theorem N1(a:Addr)(n cap:Nat)(w:Ω):(binOp BinOp.eql 35 (M (O a) n cap) (M J 0 0)).run prog w=.ok (.bool false) w:=kr
theorem N0(w:Ω):(binOp BinOp.eql 35 (M J 0 0) (M J 0 0)).run prog w=.ok (.bool true) w:=kr
theorem iO.f{w:Ω}{b o:Nat}{rs:List aq}(h:iO w (O ⟨b,o,J⟩) rs)(j:Nat)(u:Value)(c:(cS rs)[j]?=O u):w.cell? ⟨b,o+j,J⟩=O u:=by
 have y:j<rs.length*6:=by have:=(gD.1 c).1;rw[vH]at this;exact this
 obtain⟨k,i,d,g,rfl⟩:∃k i,k<rs.length/\i<6/\j=k*6+i:=⟨j/6,j%6,om,om,om⟩;have l:=bc d;unfold cS at c;rw[qq dV 6 (λ_=>rfl) rs k i _ l g]at c;obtain⟨z,x,m,_,v⟩:=h.a (λe=>by rw[e]at d;simp at d);simp at m;obtain⟨rfl,rfl⟩:=m;obtain⟨s,t,p,q,r,n⟩:=v k _ l;rw[show o+(k*6+i)=o+k*6+i by omega]
 match i,g,c with
 |0,_,c=>simp[dV]at c;subst c;exact s
 |1,_,c=>simp[dV]at c;subst c;exact t
 |2,_,c=>simp[dV]at c;subst c;exact p
 |3,_,c=>simp[dV]at c;subst c;exact q
 |4,_,c=>simp[dV]at c;subst c;exact r
 |5,_,c=>simp[dV]at c;subst c;exact n
theorem L5(g o j:Nat):(⟨g,o,J⟩:Addr).add j=⟨g,o+j,J⟩:=by unfold Addr.add;split<;>simp_all
theorem Kq(rs:List aq)(q:Option Addr)(cap:Nat)(w:Ω)(h:iO w q rs)(G:q=J->rs=[]/\cap=0)(K:rs.length<=100000):
  Φ prog 137 #[M q rs.length cap] w λe v=>∃u,e=N u/\v.ownsRow w.1.size 65 6 u rs.length (cS rs)/\B w.1.size w v:=by
 obtain⟨C,y,s,r,i⟩:=eb xT;cases q with
 |none=>
  obtain⟨rfl,rfl⟩:=G rfl;have x:=N0 w;go_enter func137,ntmps137;go_wp2;go_ret;exact⟨_,rfl,fH _ _ _ _,aj _ _⟩
 |some a=>
  have x:=N1 a rs.length cap w;have t:=hid h;have D:H ((w.alloc (Δ #[] 65)).ownsRow w.1.size 65 6 (M (O ⟨w.1.size,0,J⟩) 0 0) 0 []):=World.ownsRow_made w #[] 0 nl dc rfl;have A:=vH rs;go_enter func137,ntmps137;go_wp2_with (at_builtin;refine pN _ rfl _ _ 35 rfl w.1.size 65 C (.agg #[Z ⟨#[]⟩,I Q 0,I Q 0,I Q 0,I Q 0,I Q 0]) 6 56 underlying35 y s r i rfl dc _ _ _ rfl D.o a rs.length cap (cS rs) rfl A ?q1 (Fq rs) ?q3 ?q4 ?q5 ?_)
  case q1=>intro j u n;have m:rs≠[]:=λe=>(by rw[e]at n;simp[cS]at n);obtain⟨b,o,e,_,_⟩:=t.o.a m;cases e;rw[L5];exact aH ((aj w.1.size w).l nl _) (iO.f t.o j u n)
  case q3=>unfold maxLen;omega
  case q4=>omega
  case q5=>simp
  intro L P d c g;have z:=((aj w.1.size w).l nl _).grown c sm (λk F=>by simp[Value.ownBlock]at F;omega);have E:=hid z;have p:=hid d;go_wp2;go_ret;exact⟨_,rfl,p.o,E.o⟩
theorem IQ{w:Ω}{b i:Nat}{v:Value}(h:w.cell? ⟨b,i,J⟩=O v):(w.setCell ⟨b,i,J⟩ v).1=w.1:=by
 apply pQ;intro k;simp only[World.setCell,dU];by_cases d:b=k
 ·subst d;simp only[iP];unfold World.cell? at h;cases hb:w.1[b]? with
 |none=>rfl
 |some ob=>
   rw[hb]at h;cases ob with
  |cells c e fz=>
    simp only[ie,iq,fL]at h;simp only[kS,ie,iq,fL];congr 2;apply pQ;intro j;rw[oP];by_cases a:i=j
    ·subst a;rw[ak rfl,h];split
     ·rfl
     rename_i hlt;rw[j8 om]at h;cases h
    rw[ag a]
  |_=>simp at h
 simp[d]
theorem L6(rs:List aq)(q:Option Addr)(cap:Nat)(w:Ω)(h:iO w q rs)(D:q=J->rs=[]/\cap=0)(hA:rs.length<=6)(C:∀r,r∈rs->r.a.size<=100000):
  Φ prog 101 #[M q rs.length cap] w λe w'=>∃u,e=N u/\w'.ownsRow w.1.size 65 6 u rs.length (cS rs)/\B w.1.size w w':=by
 have HC:=hid (Kq rs q cap w h D om);have HSZ:=hid C;obtain⟨n,hn⟩:∃n,n=rs.length:=⟨_,rfl⟩;have HN:=hid hn;rw[<-hn]at HC hA⊢;clear h D C hn;go_enter func101,ntmps101;go_wp2_with fail;refine ac HC.o ?_;rintro e w1 ⟨u,rfl,d,R⟩
 obtain⟨F,s,hu⟩:∃F s,u=M F n s:=by
  rcases d.2 with ⟨rfl,h0⟩|⟨g,cap,G,hv,_⟩
  ·exact⟨J,0,by rw[h0]⟩
  exact⟨_,_,hv⟩
 subst hu;have S:=hid d;have W:=hid R;go_wp2;go_loopw [4,5,10] (λ_ _ i V=>∃j:Nat,j<=n/\i=I Q (j:Int)/\V.ownsRow w.1.size 65 6 (M F n s) n (cS rs)/\B w.1.size w V) (λ_ _ i _=>n-(intOf i).toNat)
 case atStart=>exact⟨0,om,rfl,S.o,W.o⟩
 obtain⟨j,hj,rfl,d,K⟩:=hrel;have E:=hid d;have k:=hid K;by_cases a0:j<n
 case neg=>have hI:¬(j:Int)<n:=om;go_wp2;go_ret;exact⟨_,rfl,E.o,k.o⟩
 have hI:(j:Int)<n:=om;have y:j<rs.length:=(by rw[<-HN.o];exact a0);have U:=bc y;obtain⟨g,cp',D,hg1,hg2⟩:=d.form om;obtain⟨rfl,-⟩:F=O ⟨g,0,J⟩/\True:=(by simp at D;exact⟨D.1,aN⟩);have f:∀i x,i<6->(dV rs[j])[i]?=O x->wr.cell? ⟨g,j*6+i,J⟩=O x:=λi x hi hx=>(by have:=d.cells (g:=g) rfl (j*6+i) x (by unfold cS;rw[qq dV 6 (λ_=>rfl) rs j i _ U hi];exact hx);rw[dD]at this;exact this);have T:=f 0 _ om rfl;have k1:=f 1 _ om rfl;have k2:=f 2 _ om rfl;have k3:=f 3 _ om rfl;have k4:=f 4 _ om rfl;have k5:=f 5 _ om rfl;rw[Nat.add_zero]at T;have z:=HSZ.o _ (eG y);have P:H (∀V:Ω,V.ownsRow w.1.size 65 6 (M (O ⟨g,0,J⟩) n s) n (cS rs)->V.frozen? ⟨g,j*6,J⟩=false):=λV hV=>(by obtain⟨G,hc⟩:=lK hV rfl;simp[World.frozen?,hc]);generalize rs[j]=r at *;obtain⟨rn,rk,rf,rt,rw_,ri⟩:=r;simp only at T k1 k2 k3 k4 k5 z;have HBA:H (∀o,B w.1.size w (wr.alloc o)):=λo=>k.o.l k.o.size o;have X:=hid T;go_wp2_with fail;refine(zn rn _ z).m ?_;rintro e L ⟨rfl,hb2⟩;have p:=bQ ((aj wr.1.size wr).l nl _) hb2;have hg2':=aU E.o rfl;have m0:=aH p X.o;have A:=aS E.o (λb hb=>p.block b (aU E.o hb));have mz:=P.o L A;have v:H ((L.setCell ⟨g,j*6,J⟩ (Z rn)).ownsRow w.1.size 65 6 (M (O ⟨g,0,J⟩) n s) n (cS rs)/\B w.1.size w (L.setCell ⟨g,j*6,J⟩ (Z rn))):=(by have e:=IQ m0;refine⟨aS A (λb _=>by rw[e]),(k.o.t (p.m k.o.size)).c ?_ _⟩;show w.1.size<=g;exact(E.o.lt g rfl).1);go_wp2;go_roundw
 case rel=>exact⟨j+1,om,by go_num,v.o.1,v.o.2⟩
 simp[intOf];omega
end
section
open Go.RowKit Go.Maps
def eH(pl:Nat->Nat->Int)(j:Nat)(i:Nat):Value:=
 if i%7=0 then Z ⟨#[]⟩ else if i/7<j then (if i%7=1 then I Q 0 else if i%7=6 then I Q (-1) else I Q (pl (i/7) (i%7-2))) else I Q 0
def gh(pl:Nat->Nat->Int)(j:Nat):Array Value:=#[eH pl j 0,eH pl j 1,eH pl j 2,eH pl j 3,eH pl j 4,eH pl j 5,eH pl j 6,eH pl j 7,eH pl j 8,eH pl j 9,eH pl j 10,eH pl j 11,eH pl j 12,eH pl j 13,eH pl j 14,eH pl j 15,eH pl j 16,eH pl j 17,eH pl j 18,eH pl j 19,eH pl j 20,eH pl j 21,eH pl j 22,eH pl j 23,eH pl j 24,eH pl j 25,eH pl j 26,eH pl j 27]
theorem F0(a:Nat->Nat->Int)(j i:Nat)(b:i<28):(gh a j)[i]?=O (eH a j i):=by
 match i,b with
 |0,_=>rfl
 |1,_=>rfl
 |2,_=>rfl
 |3,_=>rfl
 |4,_=>rfl
 |5,_=>rfl
 |6,_=>rfl
 |7,_=>rfl
 |8,_=>rfl
 |9,_=>rfl
 |10,_=>rfl
 |11,_=>rfl
 |12,_=>rfl
 |13,_=>rfl
 |14,_=>rfl
 |15,_=>rfl
 |16,_=>rfl
 |17,_=>rfl
 |18,_=>rfl
 |19,_=>rfl
 |20,_=>rfl
 |21,_=>rfl
 |22,_=>rfl
 |23,_=>rfl
 |24,_=>rfl
 |25,_=>rfl
 |26,_=>rfl
 |27,_=>rfl
 |i+28,h=>exact absurd h om
theorem sj{w:Ω}{b i:Nat}{v:Value}{c:Array Value}{t:TypeId}(h:w.1[b]?=O (Δ c t)):(w.setCell ⟨b,i,J⟩ v).1[b]?=O (Δ (c.setIfInBounds i v) t):=by simp only[World.setCell,dU,h,iP,kS,ie,iq,fL]
theorem N2(a:Nat->Nat->Int)(j:Nat)(b:j<4):(((((((gh a j).setIfInBounds (j*7) (Z ⟨#[]⟩)).setIfInBounds (j*7+1) (I Q 0)).setIfInBounds (j*7+2) (I Q (a j 0))).setIfInBounds (j*7+3) (I Q (a j 1))).setIfInBounds (j*7+4) (I Q (a j 2))).setIfInBounds (j*7+5) (I Q (a j 3))).setIfInBounds (j*7+6) (I Q (-1))=gh a (j+1):=by
 match j,b with
 |0,_=>simp[gh,eH]
 |1,_=>simp[gh,eH]
 |2,_=>simp[gh,eH]
 |3,_=>simp[gh,eH]
theorem Iy(d:Nat->Nat->Int)(w:Ω):
  Φ prog 100 #[.agg (i8 d)] w λe w'=>e=N (.agg (gh d 4))/\B w.1.size w w':=by
 have C:H (∀o k g,B w.1.size w (((w.alloc o).alloc k).alloc g)):=λo k g=>(((aj _ w).l nl o).l sm k).l (by simp;omega) g;have D:H (∀o k g,(((w.alloc o).alloc k).alloc g).1[w.1.size+1+1]?=O g):=λo k g=>by show _=_;have:=bn ((w.alloc o).alloc k) g;rw[fi,fi]at this;exact this
 have a0:H (∀o k g,(((w.alloc o).alloc k).alloc g).1[w.1.size+1]?=O k):=λo k g=>by show _=_;rw[cX _ _ _ sm];have:=bn (w.alloc o) k;rw[fi]at this;exact this
 go_enter func100,ntmps100;unfold i8;go_upto_region 3 with fail
 go_loopw [4,5,7] (λ_ _ i V=>∃j:Nat,j<=4/\i=I Q (j:Int)/\V.1[w.1.size+1+1]?=O (Δ (gh d j) 185)/\V.1[w.1.size+1]?=O (Δ (gh d 0) 185)/\B w.1.size w V) (λ_ _ i _=>4-(intOf i).toNat)
 case atStart=>exact⟨0,om,rfl,D.o _ _ _,a0.o _ _ _,C.o _ _ _⟩
 obtain⟨j,hj,rfl,z,u,s⟩:=hrel;have r:H (wr.1[w.1.size+1+1]?=O (Δ (gh d j) 185)):=z;have X:H (wr.1[w.1.size+1]?=O (Δ (gh d 0) 185)):=u;have q:H (B w.1.size w wr):=s;clear z u s;by_cases U:j<4
 case pos=>
  have hI:(j:Int)<4:=om;have a1:w.1.size+1+1<wr.1.size:=(bP.1 r.o).1;have b:∀i:Nat,i<28->wr.cell? ⟨w.1.size+1+1,i,J⟩=O (eH d j i):=λi h=>(by simp only[World.cell?,r.o,ie,iq,fL];exact F0 d j i h);have qz:∀i:Nat,wr.frozen? ⟨w.1.size+1+1,i,J⟩=false:=λi=>by simp[World.frozen?,r.o]
  have f:H (∀o,((((((((wr.setCell ⟨w.1.size+1+1,j*7,J⟩ (Z ⟨#[]⟩)).setCell ⟨w.1.size+1+1,j*7+1,J⟩ (I Q 0)).setCell ⟨w.1.size+1+1,j*7+2,J⟩ (I Q (d j 0))).setCell ⟨w.1.size+1+1,j*7+3,J⟩ (I Q (d j 1))).setCell ⟨w.1.size+1+1,j*7+4,J⟩ (I Q (d j 2))).setCell ⟨w.1.size+1+1,j*7+5,J⟩ (I Q (d j 3))).setCell ⟨w.1.size+1+1,j*7+6,J⟩ (I Q (-1))).alloc o).1[w.1.size+1+1]?=O (Δ (gh d (j+1)) 185)/\((((((((wr.setCell ⟨w.1.size+1+1,j*7,J⟩ (Z ⟨#[]⟩)).setCell ⟨w.1.size+1+1,j*7+1,J⟩ (I Q 0)).setCell ⟨w.1.size+1+1,j*7+2,J⟩ (I Q (d j 0))).setCell ⟨w.1.size+1+1,j*7+3,J⟩ (I Q (d j 1))).setCell ⟨w.1.size+1+1,j*7+4,J⟩ (I Q (d j 2))).setCell ⟨w.1.size+1+1,j*7+5,J⟩ (I Q (d j 3))).setCell ⟨w.1.size+1+1,j*7+6,J⟩ (I Q (-1))).alloc o).1[w.1.size+1]?=O (Δ (gh d 0) 185)/\B w.1.size w ((((((((wr.setCell ⟨w.1.size+1+1,j*7,J⟩ (Z ⟨#[]⟩)).setCell ⟨w.1.size+1+1,j*7+1,J⟩ (I Q 0)).setCell ⟨w.1.size+1+1,j*7+2,J⟩ (I Q (d j 0))).setCell ⟨w.1.size+1+1,j*7+3,J⟩ (I Q (d j 1))).setCell ⟨w.1.size+1+1,j*7+4,J⟩ (I Q (d j 2))).setCell ⟨w.1.size+1+1,j*7+5,J⟩ (I Q (d j 3))).setCell ⟨w.1.size+1+1,j*7+6,J⟩ (I Q (-1))).alloc o)):=by
   intro o;have hb:=q.o;have x:B w.1.size w (((((((wr.setCell ⟨w.1.size+1+1,j*7,J⟩ (Z ⟨#[]⟩)).setCell ⟨w.1.size+1+1,j*7+1,J⟩ (I Q 0)).setCell ⟨w.1.size+1+1,j*7+2,J⟩ (I Q (d j 0))).setCell ⟨w.1.size+1+1,j*7+3,J⟩ (I Q (d j 1))).setCell ⟨w.1.size+1+1,j*7+4,J⟩ (I Q (d j 2))).setCell ⟨w.1.size+1+1,j*7+5,J⟩ (I Q (d j 3))).setCell ⟨w.1.size+1+1,j*7+6,J⟩ (I Q (-1))):=((((((hb.c (by show w.1.size<=w.1.size+1+1;omega) _).c (by show w.1.size<=w.1.size+1+1;omega) _).c (by show w.1.size<=w.1.size+1+1;omega) _).c (by show w.1.size<=w.1.size+1+1;omega) _).c (by show w.1.size<=w.1.size+1+1;omega) _).c (by show w.1.size<=w.1.size+1+1;omega) _).c (by show w.1.size<=w.1.size+1+1;omega) _;have m:((((((((wr.setCell ⟨w.1.size+1+1,j*7,J⟩ (Z ⟨#[]⟩)).setCell ⟨w.1.size+1+1,j*7+1,J⟩ (I Q 0)).setCell ⟨w.1.size+1+1,j*7+2,J⟩ (I Q (d j 0))).setCell ⟨w.1.size+1+1,j*7+3,J⟩ (I Q (d j 1))).setCell ⟨w.1.size+1+1,j*7+4,J⟩ (I Q (d j 2))).setCell ⟨w.1.size+1+1,j*7+5,J⟩ (I Q (d j 3))).setCell ⟨w.1.size+1+1,j*7+6,J⟩ (I Q (-1)))).1.size=wr.1.size:=(by simp[World.setCell]);refine⟨?_,?_,x.l x.size o⟩
   ·rw[cX _ _ _ (by rw[m];exact a1),sj (sj (sj (sj (sj (sj (sj r.o)))))),N2 d j U]
   rw[cX _ _ _ (by rw[m];omega)];rw[bN _ _ _ _ (by show w.1.size+1≠w.1.size+1+1;omega),bN _ _ _ _ (by show w.1.size+1≠w.1.size+1+1;omega),bN _ _ _ _ (by show w.1.size+1≠w.1.size+1+1;omega),bN _ _ _ _ (by show w.1.size+1≠w.1.size+1+1;omega),bN _ _ _ _ (by show w.1.size+1≠w.1.size+1+1;omega),bN _ _ _ _ (by show w.1.size+1≠w.1.size+1+1;omega),bN _ _ _ _ (by show w.1.size+1≠w.1.size+1+1;omega)];exact X.o
  rcases(show j=0\/j=1\/j=2\/j=3 by omega) with rfl|rfl|rfl|rfl
  ·have h:=Gw d;unfold i8 lq at h;have S:=b 0 om;have T:=b 1 om;have G:=b 2 om;have L:=b 3 om;have R:=b 4 om;have E:=b 5 om;have K:=b 6 om;clear b;go_wp2;go_roundw
   case rel=>exact⟨1,om,rfl,(f.o _).1,(f.o _).2.1,(f.o _).2.2⟩
   simp[intOf]
  ·have h:=Gx d;unfold i8 lq at h;have S:=b 7 om;have T:=b 8 om;have G:=b 9 om;have L:=b 10 om;have R:=b 11 om;have E:=b 12 om;have K:=b 13 om;clear b;go_wp2;go_roundw
   case rel=>exact⟨2,om,rfl,(f.o _).1,(f.o _).2.1,(f.o _).2.2⟩
   simp[intOf]
  ·have h:=Gy d;unfold i8 lq at h;have S:=b 14 om;have T:=b 15 om;have G:=b 16 om;have L:=b 17 om;have R:=b 18 om;have E:=b 19 om;have K:=b 20 om;clear b;go_wp2;go_roundw
   case rel=>exact⟨3,om,rfl,(f.o _).1,(f.o _).2.1,(f.o _).2.2⟩
   simp[intOf]
  have h:=Gz d;unfold i8 lq at h;have S:=b 21 om;have T:=b 22 om;have G:=b 23 om;have L:=b 24 om;have R:=b 25 om;have E:=b 26 om;have K:=b 27 om;clear b;go_wp2;go_roundw
  case rel=>exact⟨4,om,rfl,(f.o _).1,(f.o _).2.1,(f.o _).2.2⟩
  simp[intOf]
 obtain rfl:j=4:=om;have hI:¬((4:Nat):Int)<4:=om;have F:wr.rangeAt (w.1.size+1+1) 0 (gh d 4).toList:=λi v hv=>(by simp only[World.cell?,r.o,ie,iq,fL,dj];rw[<-hv,rM]);have n:wr.there (w.1.size+1) 0 28:=λi h=>(by simp only[World.cell?,World.frozen?,X.o,ie,iq,fL,dj];refine⟨?_,by simp⟩;rw[F0 d 0 i h];rfl);have h1:(gh d 4).all (·.oneCell')=true:=(by simp[gh,eH,Value.oneCell']);have m:(gh d 4).size=28:=rfl;have HF:H (B w.1.size w (wr.setCells (w.1.size+1) 0 (gh d 4).toList)/\(wr.setCells (w.1.size+1) 0 (gh d 4).toList).rangeAt (w.1.size+1) 0 (gh d 4).toList):=(by refine⟨q.o.t (tA _ _ _ _ _ (lJ _)),World.rangeAt_setCells_same wr (w.1.size+1) 0 (gh d 4).toList ?_⟩;exact n);have y:(loadVar 185 ⟨w.1.size+1,0,J⟩).run prog (wr.setCells (w.1.size+1) 0 (gh d 4).toList)=.ok (.agg (gh d 4).toList.toArray) (wr.setCells (w.1.size+1) 0 (gh d 4).toList):=run_loadVar_mid _ _ _ 185 _ _ HF.o.2 underlying185 rfl kr;rw[rO]at y;have h:(prog.info? 185).map (·.size)=O (gh d 4).size:=kr;have W:(prog.info? 185).map (·.size)=O (gh d 4).toList.length:=kr;rw[<-m]at n;clear m X r q;generalize hA:gh d 4=A at *;have HA:H (A=gh d 4):=hA.symm;clear hA;go_wp2_with (first|(refine wpList_load_mid rfl 185 (.tmp 3) rfl (w.1.size+1+1) 0 rfl A.toList _ F underlying185 rfl W ?_)|(refine wpList_store_mid rfl 185 (.tmp 2) (.tmp 16) rfl (w.1.size+1) 0 A rfl rfl n h h1 ?_));refine bK (v:=.agg A) ?_ rfl ⟨congrArg (λa=>Ending.returned (.agg a)) HA.o,HF.o.1⟩;exact yP (P:=prog) (fn:=f100) (p:=2) (ty:=185) rfl _ _ (w.1.size+1) A rfl y
end
end Go.Proofs.YtlaodjjfmhipnaaGreatDoor
