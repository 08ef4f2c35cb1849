/-
  Part of it.
-/
import Derived.Test.YtlaodjjfmhipnaaGreatDoorSao
import Derived.Test.YtlaodjjfmhipnaaGreatDoorSah
set_option maxRecDepth 100000
set_option maxHeartbeats 8000000
set_option linter.all false
namespace Go.Proofs.YtlaodjjfmhipnaaGreatDoor
open Go.Proofs.Tryz
open Value renaming int→I,string→Z,pointer→Y,slice→M,tuple→Ψ
open Ending renaming returned→N
open Obj renaming cells→Δ
open Go renaming World→Ω,Calls→Φ
open IntKind renaming i64→Q
open Option renaming some→O,none→J
open RowKit renaming Below→B,Hid→H
section
open Go.RowKit Go.Maps
structure eJ where
 c:Int
 b:Int
 d:Int
 e:Int
 f:Int
 g:Int
 a:Nat->Nat->Int
def eJ.h(x:eJ):Prop:=1<=x.c/\x.c<=50/\0<=x.b/\x.b<=50
def eJ.i(x:eJ):Prop:=1<=x.d/\x.d<=8/\1<=x.e/\x.e<=x.d
def eJ.j(x:eJ):Prop:=1<=x.f/\x.f<=8/\1<=x.g/\x.g<=x.f
def eJ.k(x:eJ):Prop:=x.h/\x.i/\x.j/\sR x.a
def pI(x:eJ)(rs:List aq)(n:Nat):Prop:=(¬x.k/\n=1)\/(x.k/\lz rs n)
theorem pI.a{x:eJ}{rs:List aq}{n m:Nat}(h:pI x rs n)(b:pI x rs m):n=m:=by
 rcases h with ⟨h1,h2⟩|⟨h1,h2⟩<;>rcases b with ⟨k1,k2⟩|⟨k1,k2⟩
 ·omega
 ·exact absurd k1 h1
 ·exact absurd h1 k1
 exact h2.a k2
theorem pI.b(x:eJ)(rs:List aq):∃n,pI x rs n:=by
 by_cases h:x.k
 ·obtain⟨n,a⟩:=lz.c rs;exact⟨n,ah ⟨h,a⟩⟩
 exact⟨1,af ⟨h,rfl⟩⟩
def bj(x:eJ):Array Value:=#[I Q x.c,I Q x.b,I Q x.d,I Q x.e,I Q x.f,I Q x.g,I Q (x.a 0 0),I Q (x.a 0 1),I Q (x.a 0 2),I Q (x.a 0 3),I Q (x.a 1 0),I Q (x.a 1 1),I Q (x.a 1 2),I Q (x.a 1 3),I Q (x.a 2 0),I Q (x.a 2 1),I Q (x.a 2 2),I Q (x.a 2 3),I Q (x.a 3 0),I Q (x.a 3 1),I Q (x.a 3 2),I Q (x.a 3 3)]
def jt(c:aE):eJ:=⟨c.b,c.e,c.d,c.c,c.f,c.g,c.a⟩
theorem Ez{c:aE}(h:c.h):(jt c).k:=by refine⟨⟨?_,?_,?_,?_⟩,⟨?_,?_,?_,?_⟩,⟨?_,?_,?_,?_⟩,h.k⟩<;>simp only[jt]<;>have:=h.d<;>have:=h.e<;>have:=h.g<;>have:=h.n<;>have:=h.b<;>have:=h.h<;>have:=h.m<;>have:=h.l<;>have:=h.f<;>have:=h.i<;>have:=h.j<;>omega
theorem eJ.k.a{x:eJ}(h:x.k):∃c:aE,c.h/\jt c=x:=by
 obtain⟨⟨w,q,i,r⟩,⟨v,s,j,t⟩,⟨p,m,n,o⟩,u⟩:=h;obtain⟨g,e,W,d,f,b,l⟩:=x;simp only at w q i r v s j t p m n o;refine⟨⟨g.toNat,e.toNat,W.toNat,d.toNat,f.toNat,b.toNat,l⟩,⟨?_,?_,?_,?_,?_,?_,?_,?_,?_,?_,?_,u⟩,?_⟩
 any_goals (simp only;omega)
 simp only[jt,eJ.mk.injEq,and_true];omega
theorem bh{V:Ω}{b:Nat}{x:eJ}(h:V.1[b]?=O (Δ (bj x) 34))(i:Nat)(v:Value)(a:(bj x)[i]?=O v):V.cell? ⟨b,i,J⟩=O v:=by simp only[World.cell?,h,ie,iq,fL];exact a
theorem N4(x:eJ)(v:Value)(w:Ω)(h:¬x.h):
  Φ prog 69 #[.agg (bj x),v] w λe d=>e=N (Ψ #[Y J,.iface 57 (I Q 1)])/\B w.1.size w d:=by
 have k:H (∀V,Φ prog 95 #[I Q x.c,I Q x.b] V λe d=>e=N (Ψ #[Y J,.iface 57 (I Q 1)])/\d=V):=λV=>Qc x.c x.b V h;have f:H (∀o,B w.1.size w (w.alloc o)):=λo=>br.l nl o;obtain⟨n,i,W,j,g,a,q⟩:=x;unfold bj;simp only at k⊢;go_enter func69,ntmps69;go_wp2_with fail;refine(k.o _).m ?_;rintro e p ⟨rfl,rfl⟩;go_wp2;go_ret2;exact⟨rfl,f.o _⟩
theorem N5(x:eJ)(v:Value)(w:Ω)(j:x.h)(h:¬x.i):
  Φ prog 69 #[.agg (bj x),v] w λe a=>e=N (Ψ #[Y J,.iface 57 (I Q 1)])/\B w.1.size w a:=by
 have z:H (∀V:Ω,Φ prog 95 #[I Q x.c,I Q x.b] V λe a=>e=N (Ψ #[Y (O ⟨V.1.size+1,0,J⟩),.nilIface])/\B V.1.size V a):=λV=>by
  have E:x.c=(x.c.toNat:Int):=by have:=j.1;omega
  have F:x.b=(x.b.toNat:Int):=by have:=j.2.2.1;omega
  rw[E,F];refine(vR x.c.toNat x.b.toNat V (by have:=j.1;omega) (by have:=j.2.1;omega) (by have:=j.2.2.2;omega)).m ?_;rintro e a ⟨rfl,S,T,A⟩;exact⟨rfl,A⟩
 have u:H (∀V,Φ prog 96 #[I Q x.d,I Q x.e] V λe a=>e=N (Ψ #[Y J,.iface 57 (I Q 1)])/\a=V):=λV=>Pz x.d x.e V h;have g:H (∀o,B w.1.size w (w.alloc o)):=λo=>br.l nl o;have q:H (∀a:Ω,B (w.alloc (Δ (bj x) 34)).1.size (w.alloc (Δ (bj x) 34)) a->a.1[w.1.size]?=O (Δ (bj x) 34)):=λa C=>(C.block w.1.size sm).trans (bn w _);obtain⟨G,s,W,r,y,p,L⟩:=x;unfold bj;simp only at z u⊢;go_enter func69,ntmps69;go_wp2_with fail;refine(z.o _).m ?_;rintro e D ⟨rfl,f⟩;have k:=q.o D f;have P:=bh k 2 _ rfl;have R:=bh k 3 _ rfl;have n:=hid ((g.o _).t (f.m (g.o _).size));go_wp2_with fail;refine(u.o _).m ?_;rintro e K ⟨rfl,rfl⟩;go_wp2;go_ret2;exact⟨rfl,n.o⟩
theorem N6(x:eJ)(v:Value)(w:Ω)(r:x.h)(p:x.i)(h:¬x.j):
  Φ prog 69 #[.agg (bj x),v] w λe a=>e=N (Ψ #[Y J,.iface 57 (I Q 1)])/\B w.1.size w a:=by
 have S:H (∀V:Ω,Φ prog 95 #[I Q x.c,I Q x.b] V λe a=>e=N (Ψ #[Y (O ⟨V.1.size+1,0,J⟩),.nilIface])/\B V.1.size V a):=λV=>by
  have D:x.c=(x.c.toNat:Int):=by have:=r.1;omega
  have E:x.b=(x.b.toNat:Int):=by have:=r.2.2.1;omega
  rw[D,E];refine(vR x.c.toNat x.b.toNat V (by have:=r.1;omega) (by have:=r.2.1;omega) (by have:=r.2.2.2;omega)).m ?_;rintro e a ⟨rfl,h1,h2,y⟩;exact⟨rfl,y⟩
 have P:H (∀V:Ω,Φ prog 96 #[I Q x.d,I Q x.e] V λe a=>e=N (Ψ #[Y (O ⟨V.1.size+1,0,J⟩),.nilIface])/\B V.1.size V a):=λV=>by
  have D:x.d=(x.d.toNat:Int):=by have:=p.1;omega
  have E:x.e=(x.e.toNat:Int):=by have:=p.2.2.1;omega
  rw[D,E];refine(xN x.d.toNat x.e.toNat V (by have:=p.1;omega) (by have:=p.2.1;omega) (by have:=p.2.2.1;omega) (by have:=p.2.2.2;omega)).m ?_;rintro e a ⟨rfl,h1,h2,y⟩;exact⟨rfl,y⟩
 have G:H (∀A V,Φ prog 97 #[Y (O ⟨A,0,J⟩),I Q x.f,I Q x.g] V λe a=>e=N (Ψ #[Y J,.iface 57 (I Q 1)])/\a=V):=λA V=>LT A x.f x.g V h;have q:H (∀o,B w.1.size w (w.alloc o)):=λo=>br.l nl o;have s:H (∀a:Ω,B (w.alloc (Δ (bj x) 34)).1.size (w.alloc (Δ (bj x) 34)) a->a.1[w.1.size]?=O (Δ (bj x) 34)):=λa U=>(U.block w.1.size sm).trans (bn w _);obtain⟨a0,L,W,K,R,C,pl⟩:=x;unfold bj;simp only at S P G⊢;go_enter func69,ntmps69;go_wp2_with fail;refine(S.o _).m ?_;rintro e X ⟨rfl,z⟩;have n:=hid z;have k:=s.o X n.o;have c2:=bh k 2 _ rfl;have c3:=bh k 3 _ rfl;go_wp2_with fail;refine(P.o _).m ?_;rintro e T ⟨rfl,F⟩;have u:=hid (n.o.t (F.m n.o.size));have k:=s.o T u.o;have c4:=bh k 4 _ rfl;have c5:=bh k 5 _ rfl;go_wp2_with fail;refine(G.o _ _).m ?_;rintro e w3 ⟨rfl,rfl⟩;go_wp2;go_ret2;exact⟨rfl,(q.o _).t (u.o.m (q.o _).size)⟩
theorem N7(x:eJ)(v:Value)(w:Ω)(D:x.h)(z:x.i)(y:x.j)(h:¬sR x.a):
  Φ prog 69 #[.agg (bj x),v] w λe p=>e=N (Ψ #[Y J,.iface 57 (I Q 1)])/\B w.1.size w p:=by
 have HD:H (∀V:Ω,Φ prog 95 #[I Q x.c,I Q x.b] V λe p=>e=N (Ψ #[Y (O ⟨V.1.size+1,0,J⟩),.nilIface])/\B V.1.size V p):=λV=>by
  have E:x.c=(x.c.toNat:Int):=by have:=D.1;omega
  have F:x.b=(x.b.toNat:Int):=by have:=D.2.2.1;omega
  rw[E,F];refine(vR x.c.toNat x.b.toNat V (by have:=D.1;omega) (by have:=D.2.1;omega) (by have:=D.2.2.2;omega)).m ?_;rintro e p ⟨rfl,h1,h2,A⟩;exact⟨rfl,A⟩
 have HT:H (∀V:Ω,Φ prog 96 #[I Q x.d,I Q x.e] V λe p=>e=N (Ψ #[Y (O ⟨V.1.size+1,0,J⟩),.nilIface])/\B V.1.size V p):=λV=>by
  have E:x.d=(x.d.toNat:Int):=by have:=z.1;omega
  have F:x.e=(x.e.toNat:Int):=by have:=z.2.2.1;omega
  rw[E,F];refine(xN x.d.toNat x.e.toNat V (by have:=z.1;omega) (by have:=z.2.1;omega) (by have:=z.2.2.1;omega) (by have:=z.2.2.2;omega)).m ?_;rintro e p ⟨rfl,h1,h2,A⟩;exact⟨rfl,A⟩
 have X:H (∀(L:Nat)(V:Ω),Φ prog 97 #[Y (O ⟨L,0,J⟩),I Q x.f,I Q x.g] V λe p=>e=N (Ψ #[Y (O ⟨V.1.size,0,J⟩),.nilIface])/\B V.1.size V p):=λL V=>by
  have E:x.f=(x.f.toNat:Int):=by have:=y.1;omega
  have F:x.g=(x.g.toNat:Int):=by have:=y.2.2.1;omega
  rw[E,F];refine(Ai L x.f.toNat x.g.toNat V (by have:=y.1;omega) (by have:=y.2.1;omega) (by have:=y.2.2.1;omega) (by have:=y.2.2.2;omega)).m ?_;rintro e p ⟨rfl,h1,h2,A⟩;exact⟨rfl,A⟩
 have S:H (∀V:Ω,Φ prog 98 #[.agg (i8 x.a)] V λe p=>e=N (.bool false)/\B V.1.size V p):=λV=>yI x.a (b:=false) (by constructor<;>intro k;cases k;exact absurd k h) V;have C:H (∀o,B w.1.size w (w.alloc o)):=λo=>br.l nl o;have s:H (∀p:Ω,B (w.alloc (Δ (bj x) 34)).1.size (w.alloc (Δ (bj x) 34)) p->p.1[w.1.size]?=O (Δ (bj x) 34)):=λp hb=>(hb.block w.1.size sm).trans (bn w _);obtain⟨len,a1,W,a0,span,P,pl⟩:=x;unfold bj;unfold i8 at S;simp only at HD HT X S⊢;go_enter func69,ntmps69;go_wp2_with fail;refine(HD.o _).m ?_;rintro e w1 ⟨rfl,G⟩;have r:=hid G;have n:=s.o w1 r.o;have c2:=bh n 2 _ rfl;have c3:=bh n 3 _ rfl;go_wp2_with fail;refine(HT.o _).m ?_;rintro e w2 ⟨rfl,T⟩;have u:=hid (r.o.t (T.m r.o.size));have n:=s.o w2 u.o;have c4:=bh n 4 _ rfl;have c5:=bh n 5 _ rfl;go_wp2_with fail;refine(X.o _ _).m ?_;rintro e w3 ⟨rfl,R⟩;have q:=hid (u.o.t (R.m u.o.size));have n:=s.o w3 q.o;have c6:=bh n 6 _ rfl;have c7:=bh n 7 _ rfl;have c8:=bh n 8 _ rfl;have c9:=bh n 9 _ rfl;have c10:=bh n 10 _ rfl;have c11:=bh n 11 _ rfl;have c12:=bh n 12 _ rfl;have c13:=bh n 13 _ rfl;have c14:=bh n 14 _ rfl;have c15:=bh n 15 _ rfl;have c16:=bh n 16 _ rfl;have c17:=bh n 17 _ rfl;have c18:=bh n 18 _ rfl;have c19:=bh n 19 _ rfl;have c20:=bh n 20 _ rfl;have c21:=bh n 21 _ rfl;go_wp2_with fail;refine(S.o _).m ?_;rintro e w4 ⟨rfl,U⟩;have K:=hid (q.o.t (U.m q.o.size));go_wp2;go_ret2;exact⟨rfl,(C.o _).t (K.o.m (C.o _).size)⟩
theorem N8(x:eJ)(rs:List aq)(q:Option Addr)(cap:Nat){n:Nat}(w:Ω)(F:x.h)(D:x.i)(C:x.j)(hp:sR x.a)(hn:lz rs n)(X:n≠0)(hr:iO w q rs)(hsz:∀r,r∈rs->r.a.size<=9223372036854775807)(hc:rs.length<=cap)(hl:rs.length<=9223372036854775807):
  Φ prog 69 #[.agg (bj x),M q rs.length cap] w λe p=>e=N (Ψ #[Y J,.iface 57 (I Q (n:Int))])/\B w.1.size w p:=by
 have HD:H (∀V:Ω,Φ prog 95 #[I Q x.c,I Q x.b] V λe p=>e=N (Ψ #[Y (O ⟨V.1.size+1,0,J⟩),.nilIface])/\B V.1.size V p):=λV=>by
  have G:x.c=(x.c.toNat:Int):=by have:=F.1;omega
  have K:x.b=(x.b.toNat:Int):=by have:=F.2.2.1;omega
  rw[G,K];refine(vR x.c.toNat x.b.toNat V (by have:=F.1;omega) (by have:=F.2.1;omega) (by have:=F.2.2.2;omega)).m ?_;rintro e p ⟨rfl,L,h2,E⟩;exact⟨rfl,E⟩
 have HT:H (∀V:Ω,Φ prog 96 #[I Q x.d,I Q x.e] V λe p=>e=N (Ψ #[Y (O ⟨V.1.size+1,0,J⟩),.nilIface])/\B V.1.size V p):=λV=>by
  have G:x.d=(x.d.toNat:Int):=by have:=D.1;omega
  have K:x.e=(x.e.toNat:Int):=by have:=D.2.2.1;omega
  rw[G,K];refine(xN x.d.toNat x.e.toNat V (by have:=D.1;omega) (by have:=D.2.1;omega) (by have:=D.2.2.1;omega) (by have:=D.2.2.2;omega)).m ?_;rintro e p ⟨rfl,L,h2,E⟩;exact⟨rfl,E⟩
 have HI:H (∀(T:Nat)(V:Ω),Φ prog 97 #[Y (O ⟨T,0,J⟩),I Q x.f,I Q x.g] V λe p=>e=N (Ψ #[Y (O ⟨V.1.size,0,J⟩),.nilIface])/\B V.1.size V p):=λT V=>by
  have G:x.f=(x.f.toNat:Int):=by have:=C.1;omega
  have K:x.g=(x.g.toNat:Int):=by have:=C.2.2.1;omega
  rw[G,K];refine(Ai T x.f.toNat x.g.toNat V (by have:=C.1;omega) (by have:=C.2.1;omega) (by have:=C.2.2.1;omega) (by have:=C.2.2.2;omega)).m ?_;rintro e p ⟨rfl,L,h2,E⟩;exact⟨rfl,E⟩
 have HP:H (∀V:Ω,Φ prog 98 #[.agg (i8 x.a)] V λe p=>e=N (.bool true)/\B V.1.size V p):=λV=>yI x.a (b:=true) (by simp[hp]) V
 have HR:H (∀V:Ω,B w.1.size w V->Φ prog 99 #[M q rs.length cap] V λe p=>e=N (.iface 57 (I Q (n:Int)))/\B V.1.size V p):=λV R=>by
  have L:=BX rs q cap hn V (hr.c R) hsz hc hl;have ee:lc n=.iface 57 (I Q (n:Int)):=by unfold lc;rw[ag X]
  rw[ee]at L;exact L
 have s:H (∀o,B w.1.size w (w.alloc o)):=λo=>br.l nl o;have z:H (∀p:Ω,B (w.alloc (Δ (bj x) 34)).1.size (w.alloc (Δ (bj x) 34)) p->p.1[w.1.size]?=O (Δ (bj x) 34)):=λp R=>(R.block w.1.size sm).trans (bn w _);obtain⟨len,late,W,need,span,U,pl⟩:=x;unfold bj;unfold i8 at HP;simp only at HD HT HI HP⊢;generalize rs.length=m at *;go_enter func69,ntmps69;go_wp2_with fail;refine(HD.o _).m ?_;rintro e w1 ⟨rfl,P⟩;have y:=hid P;have k:=z.o w1 y.o;have c2:=bh k 2 _ rfl;have c3:=bh k 3 _ rfl;go_wp2_with fail;refine(HT.o _).m ?_;rintro e w2 ⟨rfl,hb2⟩;have A:=hid (y.o.t (hb2.m y.o.size));have k:=z.o w2 A.o;have c4:=bh k 4 _ rfl;have c5:=bh k 5 _ rfl;go_wp2_with fail;refine(HI.o _ _).m ?_;rintro e w3 ⟨rfl,a0⟩;have u:=hid (A.o.t (a0.m A.o.size));have k:=z.o w3 u.o;have c6:=bh k 6 _ rfl;have c7:=bh k 7 _ rfl;have c8:=bh k 8 _ rfl;have c9:=bh k 9 _ rfl;have c10:=bh k 10 _ rfl;have c11:=bh k 11 _ rfl;have c12:=bh k 12 _ rfl;have c13:=bh k 13 _ rfl;have c14:=bh k 14 _ rfl;have c15:=bh k 15 _ rfl;have c16:=bh k 16 _ rfl;have c17:=bh k 17 _ rfl;have c18:=bh k 18 _ rfl;have c19:=bh k 19 _ rfl;have c20:=bh k 20 _ rfl;have c21:=bh k 21 _ rfl;go_wp2_with fail;refine(HP.o _).m ?_;rintro e w4 ⟨rfl,hb4⟩;have v:=hid (u.o.t (hb4.m u.o.size));go_wp2_with fail;refine(HR.o _ ((s.o _).t (v.o.m (s.o _).size))).m ?_;rintro e w5 ⟨rfl,a1⟩;have S:=hid (((s.o _).t (v.o.m (s.o _).size)).t (a1.m ((s.o _).t (v.o.m (s.o _).size)).size));go_wp2;go_ret2;exact⟨rfl,S.o⟩
end
section
open Go.RowKit Go.Maps
def jC(wb kb a0 a1 a2:Nat)(rv:Value)(b:Nat):Nat:=
 if b=wb then 1 else if b=kb then 2 else if a0<=b/\b<a0+2 then 3 else if a1<=b/\b<a1+2 then 4 else if b=a2 then 5 else if rv.ownBlock=O b then 6 else 0
theorem Aj(b a:Nat):bD b a 0=0:=by unfold bD;rw[Nat.zero_sub,Nat.zero_div]
theorem Qe{c:aE}{rs:List aq}{U:Ω}{a0 a1 a2 kb:Nat}{rv:Value}
  (D:cG U (a0+1) (λb=>a0<=b/\b<a0+2) c.b c.e 0 [] 0)
  (K:cd U (a1+1) (qD a1 (a1+1)) c.d c.c 0 0 (al []))
  (y:ga U a2 (a1+1) (λb=>b=a2) c.f c.g 0 (λ_ _=>⟨#[]⟩))
  (u:U.ownsMap (H:=Value) prog 9 unitElem kb 0 (.map []))
  (v:U.ownsRow (kb+1) 65 6 rv rs.length (cS rs))
  (T:a0+2<=a1)(V:a1+2<=a2)(W:a2<kb)(s:c.h)(F:lz rs 0):
  dY (U.alloc (Δ (im c ay.k ⟨kb,a0+1,a1+1,a2,rv,M J 0 0⟩) 190)) U.1.size (jC U.1.size kb a0 a1 a2 rv) c rs ay.k 0 ⟨kb,a0+1,a1+1,a2,rv,M J 0 0⟩:=by
 have R:=u.lt;have l:∀b,rv.ownBlock=O b->kb+1<=b/\b<U.1.size:=λb h=>v.lt b h;have w:jC U.1.size kb a0 a1 a2 rv U.1.size=1:=by unfold jC;rw[ak rfl]
 have z:jC U.1.size kb a0 a1 a2 rv kb=2:=by unfold jC;rw[ag om,ak rfl]
 have G:∀b,jC U.1.size kb a0 a1 a2 rv b=3↔a0<=b/\b<a0+2:=λb=>by
  unfold jC;constructor
  ·intro h;by_cases m:b=U.1.size
   ·simp[m]at h
   by_cases p:b=kb
   ·rw[ag m,ak p]at h;omega
   by_cases n:a0<=b/\b<a0+2
   ·exact n
   rw[ag m,ag p,ag n]at h;split at h
   ·omega
   split at h
   ·omega
   split at h<;>omega
  intro h;rw[ag om,ag om,ak h]
 have S:∀b,a1<=b/\b<a1+2->jC U.1.size kb a0 a1 a2 rv b=4:=λb h=>by unfold jC;rw[ag om,ag om,ag om,ak h]
 have L:jC U.1.size kb a0 a1 a2 rv a2=5:=by unfold jC;rw[ag om,ag om,ag om,ag om,ak rfl]
 have C:∀b,rv.ownBlock=O b->jC U.1.size kb a0 a1 a2 rv b=6:=λb h=>by have:=l b h;unfold jC;rw[ag om,ag om,ag om,ag om,ag om,ak h]
 have i:∀b,b<U.1.size->∀o,(U.alloc o).1[b]?=U.1[b]?:=λb j o=>cX _ _ _ j;have q:aC c ay.k 0=[]:=rfl;have r:=wG c rs ay.k;refine⟨bn U _,w,?_,⟨0,.map [],ki u (i kb R _),rfl,λg=>rfl,rfl⟩,z,?_,⟨qD a1 (a1+1),?_,?_⟩,⟨λb=>b=a2,λ_ _=>⟨#[]⟩,?_,jj.e,λb h=>by rw[h];exact L⟩,?_,C,?_,λb h=>by simp[Value.ownBlock]at h,λ_=>rfl,s,lz.b F,dc,aX _,dc,λx P=>absurd P nj,dc⟩
 ·intro b j;rw[fi];unfold jC at j;by_cases m:b=U.1.size
  ·omega
  rw[ag m]at j;by_cases p:b=kb
  ·omega
  rw[ag p]at j;by_cases n:a0<=b/\b<a0+2
  ·omega
  rw[ag n]at j;by_cases A:a1<=b/\b<a1+2
  ·omega
  rw[ag A]at j;by_cases E:b=a2
  ·omega
  rw[ag E]at j;by_cases t:rv.ownBlock=O b
  ·have:=l b t;omega
  rw[ag t]at j;exact absurd rfl j
 ·have e:(λb=>jC U.1.size kb a0 a1 a2 rv b=3)=(λb=>a0<=b/\b<a0+2):=funext λb=>propext (G b);show cG _ (a0+1) (λb=>jC U.1.size kb a0 a1 a2 rv b=3) c.b c.e 0 [] (bD c.b c.e 0);rw[e,Aj c.b c.e];exact D.b (λb j _=>i b j _)
 ·rw[q];exact K.b sm (λb j _=>i b j _)
 ·intro b j;refine S b ?_;rcases E1 j with h|h<;>omega
 ·exact y.a sm (λb j _=>i b j _)
 ·exact sk (aS v (λb h=>i b (l b h).2 _)) (aX _)
 rw[r];exact fH _ _ _ _
theorem TU(c:aE)(p:fO):im c ay.k p=#[Z ⟨#[]⟩,I Q 0,I Q (c.a 0 0),I Q (c.a 0 1),I Q (c.a 0 2),I Q (c.a 0 3),I Q (-1),Z ⟨#[]⟩,I Q 0,I Q (c.a 1 0),I Q (c.a 1 1),I Q (c.a 1 2),I Q (c.a 1 3),I Q (-1),Z ⟨#[]⟩,I Q 0,I Q (c.a 2 0),I Q (c.a 2 1),I Q (c.a 2 2),I Q (c.a 2 3),I Q (-1),Z ⟨#[]⟩,I Q 0,I Q (c.a 3 0),I Q (c.a 3 1),I Q (c.a 3 2),I Q (c.a 3 3),I Q (-1),.map (O p.a),Y (O ⟨p.e,0,J⟩),Y (O ⟨p.d,0,J⟩),Y (O ⟨p.g,0,J⟩),p.f,p.b,I Q 0,I Q 0,I Q 0,I Q 0,I Q 0]:=by rfl
theorem Ry(c:aE)(rs:List aq)(q:Option Addr)(cap:Nat)(w:Ω)(s:c.h)(hn:lz rs 0)(hr:iO w q rs)(hq:q=J->rs=[]/\cap=0)(hc:rs.length<=cap)(a6:∀r,r∈rs->r.a.size<=100000):
  Φ prog 69 #[.agg (bj (jt c)),M q rs.length cap] w λe v=>∃wb ow,e=N (Ψ #[Y (O ⟨wb,0,J⟩),.nilIface])/\dx v wb ow c rs ay.k 0/\(∀b,ow b≠0->w.1.size<=b)/\B w.1.size w v:=by
 have HD:H (∀V:Ω,Φ prog 95 #[I Q (c.b:Int),I Q (c.e:Int)] V λe v=>e=N (Ψ #[Y (O ⟨V.1.size+1,0,J⟩),.nilIface])/\v.1.size=V.1.size+2/\cG v (V.1.size+1) (λb=>V.1.size<=b/\b<V.1.size+2) c.b c.e 0 [] 0/\B V.1.size V v):=λV=>vR c.b c.e V s.d s.e s.g;have HT:H (∀V:Ω,Φ prog 96 #[I Q (c.d:Int),I Q (c.c:Int)] V λe v=>e=N (Ψ #[Y (O ⟨V.1.size+1,0,J⟩),.nilIface])/\v.1.size=V.1.size+2/\cd v (V.1.size+1) (qD V.1.size (V.1.size+1)) c.d c.c 0 0 (al [])/\B V.1.size V v):=λV=>xN c.d c.c V s.n s.b s.h s.m;have HI:H (∀(tb:Nat)(V:Ω),Φ prog 97 #[Y (O ⟨tb,0,J⟩),I Q (c.f:Int),I Q (c.g:Int)] V λe v=>e=N (Ψ #[Y (O ⟨V.1.size,0,J⟩),.nilIface])/\v.1.size=V.1.size+1/\ga v V.1.size tb (λb=>b=V.1.size) c.f c.g 0 (λ_ _=>⟨#[]⟩)/\B V.1.size V v):=λtb V=>Ai tb c.f c.g V s.l s.f s.i s.j;have HP:H (∀V:Ω,Φ prog 98 #[.agg (i8 c.a)] V λe v=>e=N (.bool true)/\B V.1.size V v):=λV=>yI c.a (b:=true) (by simp[sR];exact s.k) V;have HQ:H (∀V:Ω,Φ prog 100 #[.agg (i8 c.a)] V λe v=>e=N (.agg #[Z ⟨#[]⟩,I Q 0,I Q (c.a 0 0),I Q (c.a 0 1),I Q (c.a 0 2),I Q (c.a 0 3),I Q (-1),Z ⟨#[]⟩,I Q 0,I Q (c.a 1 0),I Q (c.a 1 1),I Q (c.a 1 2),I Q (c.a 1 3),I Q (-1),Z ⟨#[]⟩,I Q 0,I Q (c.a 2 0),I Q (c.a 2 1),I Q (c.a 2 2),I Q (c.a 2 3),I Q (-1),Z ⟨#[]⟩,I Q 0,I Q (c.a 3 0),I Q (c.a 3 1),I Q (c.a 3 2),I Q (c.a 3 3),I Q (-1)])/\B V.1.size V v):=λV=>Iy c.a V;have HR:H (∀V:Ω,B w.1.size w V->Φ prog 99 #[M q rs.length cap] V λe v=>e=N .nilIface/\B V.1.size V v):=λV x=>BX rs q cap hn V (hr.c x) (λr h=>aP (a6 r h) dc) hc (by have:=(lz.b hn).1;omega);have HU:H (∀V:Ω,B w.1.size w V->Φ prog 101 #[M q rs.length cap] V λe v=>∃u,e=N u/\v.ownsRow V.1.size 65 6 u rs.length (cS rs)/\B V.1.size V v):=λV x=>L6 rs q cap V (hr.c x) hq (lz.b hn).1 a6;have y:H (∀o,B w.1.size w (w.alloc o)):=λo=>br.l nl o;have D:H (∀v:Ω,B (w.alloc (Δ (bj (jt c)) 34)).1.size (w.alloc (Δ (bj (jt c)) 34)) v->v.1[w.1.size]?=O (Δ (bj (jt c)) 34)):=λv x=>(x.block w.1.size sm).trans (bn w _);unfold bj jt;unfold i8 at HP HQ;simp only;have HOK:H c.h:=s;have HCK:H (lz rs 0):=hn;obtain⟨m,hm⟩:∃m,m=rs.length:=⟨_,rfl⟩;have HM:H (m=rs.length):=hm;rw[<-hm]at HR HU⊢;clear hm s hn hr hq hc a6;go_enter func69,ntmps69;go_wp2_with fail;refine(HD.o _).m ?_;rintro e F ⟨rfl,hs1,hd1,hb1⟩;have C:=hid hb1;have p:=D.o F C.o;have c2:=bh p 2 _ rfl;have c3:=bh p 3 _ rfl;have HD1:=hid hd1;have HS1:=hid hs1;clear p hb1 hd1 hs1;go_wp2_with fail;refine(HT.o _).m ?_;rintro e A ⟨rfl,hs2,hd2,S⟩;have a3:H (B _ _ A):=C.o.t (S.m C.o.size);have p:=D.o A a3.o;have c4:A.cell? ⟨w.1.size,4,J⟩=O (I Q (c.f:Int)):=bh p 4 _ rfl;have c5:A.cell? ⟨w.1.size,5,J⟩=O (I Q (c.g:Int)):=bh p 5 _ rfl;have HD2:H _:=hd2;have HS2:H _:=hs2;have HB2:H _:=S;clear p S c2 c3 hd2 hs2;go_wp2_with fail;refine(HI.o _ _).m ?_;rintro e w3 ⟨rfl,hs3,hd3,hb3⟩;have T:H (B _ _ w3):=a3.o.t (hb3.m a3.o.size);have p:=D.o w3 T.o;have c6:w3.cell? ⟨w.1.size,6,J⟩=O (I Q (c.a 0 0)):=bh p 6 _ rfl;have c7:=bh p 7 _ rfl;have c8:=bh p 8 _ rfl;have c9:=bh p 9 _ rfl;have c10:=bh p 10 _ rfl;have c11:=bh p 11 _ rfl;have c12:=bh p 12 _ rfl;have c13:=bh p 13 _ rfl;have c14:=bh p 14 _ rfl;have c15:=bh p 15 _ rfl;have c16:=bh p 16 _ rfl;have c17:=bh p 17 _ rfl;have c18:=bh p 18 _ rfl;have c19:=bh p 19 _ rfl;have c20:=bh p 20 _ rfl;have c21:=bh p 21 _ rfl;have HD3:=hid hd3;have HS3:=hid hs3;have HB3:=hid hb3;go_wp2_with fail;refine(HP.o _).m ?_;rintro e w4 ⟨rfl,hb4⟩;have R:=hid (T.o.t (hb4.m T.o.size));have HB4:=hid hb4;go_wp2_with fail;refine(HR.o _ ((y.o _).t (R.o.m (y.o _).size))).m ?_;rintro e w5 ⟨rfl,hb5⟩;have HB5:=hid hb5;have a4:=hid (R.o.t (hb5.m R.o.size));have p:=D.o w5 a4.o;have c6:=bh p 6 _ rfl;have c7:=bh p 7 _ rfl;have c8:=bh p 8 _ rfl;have c9:=bh p 9 _ rfl;have c10:=bh p 10 _ rfl;have c11:=bh p 11 _ rfl;have c12:=bh p 12 _ rfl;have c13:=bh p 13 _ rfl;have c14:=bh p 14 _ rfl;have c15:=bh p 15 _ rfl;have c16:=bh p 16 _ rfl;have c17:=bh p 17 _ rfl;have c18:=bh p 18 _ rfl;have c19:=bh p 19 _ rfl;have c20:=bh p 20 _ rfl;have c21:=bh p 21 _ rfl;go_wp2_with fail;refine(HQ.o _).m ?_;rintro e z ⟨rfl,hb6⟩;have HA6:=hid (a4.o.t (hb6.m a4.o.size));have HB6:=hid hb6;have hmm:=@run_makeMap prog;go_wp2_with fail;refine(HU.o _ (((y.o _).t (HA6.o.m (y.o _).size)).l ((y.o _).t (HA6.o.m (y.o _).size)).size _)).m ?_;rintro e E ⟨u,rfl,hu,hb7⟩
 obtain⟨G,K,rfl⟩:∃G K,u=M G m K:=by
  rcases hu.2 with ⟨rfl,h0⟩|⟨g,cap,cur,hv,_⟩
  ·exact⟨J,0,by rw[h0]⟩
  exact⟨_,_,hv⟩
 have HU7:=hid hu;have W:=hid hb7
 have L:H (dx (E.alloc (Δ (im c ay.k ⟨z.1.size,w.1.size+1+1,F.1.size+1,A.1.size,M G m K,M J 0 0⟩) 190)) E.1.size (jC E.1.size z.1.size (w.1.size+1) F.1.size A.1.size (M G m K)) c rs ay.k 0/\(∀b,jC E.1.size z.1.size (w.1.size+1) F.1.size A.1.size (M G m K) b≠0->w.1.size<=b)/\B w.1.size w (E.alloc (Δ (im c ay.k ⟨z.1.size,w.1.size+1+1,F.1.size+1,A.1.size,M G m K,M J 0 0⟩) 190))):=by
  have s1:=HS1.o;have s2:=HS2.o;have s3:=HS3.o;rw[fi]at s1;have b2:=HB2.o;have b3:=HB3.o;have b4:=HB4.o;have b5:=HB5.o;have b6:=HB6.o;have b67:=((aj _ z).l nl _).t (W.o.m sm);have b57:=b6.t (b67.m b6.size);have b47:=b5.t (b57.m b5.size);have X:=b4.t (b47.m b4.size);have P:=b3.t (X.m b3.size);have a5:=b2.t (P.m b2.size);have bw:B w.1.size w E:=by have h1:=C.o;have h0:B w.1.size w (w.alloc (Δ (bj (jt c)) 34)):=ba;have h2:B w.1.size w F:=h0.t (h1.m sm);exact h2.t (a5.m h2.size)
  have d1:=HD1.o;rw[fi]at d1;have hu:=HU7.o;rw[fi]at hu;have hmn:=HM.o;subst hmn;have hkb:E.ownsMap (H:=Value) prog 9 unitElem z.1.size 0 (.map []):=ki (oU z prog 9 unitElem) (W.o.block z.1.size sm);have h63:w3.1.size<=z.1.size:=aP b4.size (aP b5.size b6.size)
  have hw:=Qe (U:=E) (a0:=w.1.size+1) (a1:=F.1.size) (a2:=A.1.size) (kb:=z.1.size) (rv:=M G rs.length K) (c:=c) (rs:=rs)
   (d1.b (λb x _=>a5.block b x)) (HD2.o.b P.size (λb x _=>P.block b x)) (HD3.o.a X.size (λb x _=>X.block b x)) hkb hu om om om HOK.o HCK.o
  refine⟨⟨_,hw⟩,λb x=>?_,bw.l bw.size _⟩;have hlt:=bw.size;have h71:=a5.size;unfold jC at x;by_cases h1:b=E.1.size
  ·omega
  rw[ag h1]at x;by_cases h2:b=z.1.size
  ·omega
  rw[ag h2]at x;by_cases h3:w.1.size+1<=b/\b<w.1.size+1+2
  ·omega
  rw[ag h3]at x;by_cases h4:F.1.size<=b/\b<F.1.size+2
  ·omega
  rw[ag h4]at x;by_cases h5:b=A.1.size
  ·omega
  rw[ag h5]at x;by_cases h6:(M G rs.length K).ownBlock=O b
  ·have:=(bG hu b h6).1;omega
  rw[ag h6]at x;exact absurd rfl x
 clear HD1 HD2 HD3 HS1 HS2 HS3 HB2 HB3 HB4 HB5 HB6 W HU7;rw[TU]at L;go_wp2;go_ret2;exact⟨_,_,rfl,L.o⟩
end
section
open Go.RowKit Go.Maps
theorem L8{w':Ω}{C:Array Value}{t:TypeId}{b:Nat}(h:w'.1[b]?=O (Δ C t)):w'.rangeAt b 0 C.toList:=λi v a=>by simp only[World.cell?,h,ie,iq,fL,dj];rw[<-a,rM]
theorem SM:(prog.info? 9).map (λi=>(i.zero,i.size,i.bytes))=O (O (Z ⟨#[]⟩),1,16):=kr
theorem L9{w:Ω}{a:Nat}{v:Value}{T:List ByteArray}(h:w.ownsRow a 9 1 v T.length (T.map Z)):∃q cap,v=M q T.length cap/\∀j x,T[j]?=O x->∃g,q=O ⟨g,0,J⟩/\w.cell? ⟨g,j,J⟩=O (Z x):=by
 rcases h.2 with ⟨rfl,h0⟩|⟨g,cap,cur,hv,hb,hg,_⟩
 ·refine⟨J,0,by rw[h0],λj x b=>?_⟩;have:=(gD.1 b).1;omega
 refine⟨O ⟨g,0,J⟩,cap,hv,λj x b=>⟨g,rfl,?_⟩⟩;have c:=World.ownsRow.cells h (g:=g) (by rw[hv];rfl) j (Z x) (by rw[eE,b];rfl);rw[dD]at c;exact c
theorem L7{T:List ByteArray}{x:Nat}{y g:ByteArray}(h:T[x]?=O y):gY (T.take (x+1)) g=(gY (T.take x) g||decide (y=g)):=by unfold gY;rw[jL,h];simp
structure sT (w:Ω) (q:Option Addr) (f:Nat) (rs:List aq):Prop where
 a:iO w q rs
 d:q=J->rs=[]/\f=0
 f:rs.length<=f
 b:rs.length<=9223372036854775807
 c:∀r,r∈rs->r.a.size<=9223372036854775807
theorem sT.e{w w':Ω}{q:Option Addr}{cap:Nat}{rs:List aq}(h:sT w q cap rs)(g:B w.1.size w w'):sT w' q cap rs:=⟨h.a.c g,h.d,h.f,h.b,h.c⟩
end
section
open Go.RowKit Go.Maps
structure fP where
 b:aE
 d:List aq
 a:ay
structure bY where
 b:eJ
 a:List aq
 c:Option fP
def iy:List UInt8:=[111,107]
def cM(x:eJ)(rv wv:Value):Array Value:=bj x++#[rv,wv]
structure mD (w:Ω) (sb:Nat) (F:Nat->Prop) (S:bY) (rv wv:Value):Prop where
 a:w.1[sb]?=O (Δ (cM S.b rv wv) 61)
 f:F sb
 c:w.ownsRow 0 65 6 rv S.a.length (cS S.a)
 d:∀b,rv.ownBlock=O b->F b/\b≠sb
 g:∀r,r∈S.a->r.h
 i:S.a.length<=1000
 j:(S.c=J/\wv=Y J)\/∃W wb oa,S.c=O W/\wv=Y (O ⟨wb,0,J⟩)/\jy w wb oa W.b W.d W.a/\(∀b,oa b≠0->F b/\b≠sb/\rv.ownBlock≠O b)/\∃t,S.a=W.d++t
structure fU (w:Ω) (sb:Nat) (F:Nat->Prop) (S:bY):Prop where
 b:∃rv wv,mD w sb F S rv wv
theorem A6{V:Ω}{c i:Nat}{x f:eJ}{rv d a b v:Value}(h:V.1[c]?=O (Δ (cM x rv d) 61))(e:(cM x rv d).setIfInBounds i v=cM f a b):(V.setCell ⟨c,i,J⟩ v).1[c]?=O (Δ (cM f a b) 61):=by simp only[World.setCell,dU,h,iP,kS,ie,iq,fL];rw[e]
theorem ck{V:Ω}{b t:Nat}{C:Array Value}(h:V.1[b]?=O (Δ C t)):(∀i v,C[i]?=O v->V.cell? ⟨b,i,J⟩=O v)/\(∀i,V.frozen? ⟨b,i,J⟩=false)/\b<V.1.size:=
 ⟨λi v a=>by simp only[World.cell?,h];exact a,λi=>by simp[World.frozen?,h],(bP.1 h).1⟩
theorem qw{V:Ω}{F:Nat->Prop}{a i:Nat}{v:Value}{w:Ω}(h:ax F w V)(l:F a):ax F w (V.setCell ⟨a,i,J⟩ v):=⟨h.f,h.h,h.g,by simpa [World.setCell] using h.c,λk j d=>by rw[bN _ _ _ _ (show k≠a from λe=>d (by rw[e];exact l))];exact h.b k j d⟩
theorem Fw{V w:Ω}{F:Nat->Prop}(h:ax F w V):ax F w V.drew:=⟨h.f,h.h,h.g,h.c,h.b⟩
theorem RA(c:cj)(k:Nat)(x:eJ)(rv A:Value)(w:Ω)(h:w.1[k]?=O (Δ (cM x rv A) 61)):
  Φ prog 43 #[Y (O ⟨k,0,J⟩),.agg (aY c.b c.c c.a)] w λe w'=>e=N (Ψ #[Z (ae iy),.nilIface])/\w'.1[k]?=O (Δ (cM ⟨c.n 0,c.n 1,c.n 2,c.n 3,c.n 4,c.n 5,x.a⟩ rv A) 61)/\ax (λb=>b=k) w w':=by
 have hlt:k<w.1.size:=(bP.1 h).1;have hne:k≠w.1.size+1:=om;have t:w.1.size+1≠k:=om;unfold aY;unfold cj.n;generalize c.c.getD 0 0=n0 at *;generalize c.c.getD 1 0=n1 at *;generalize c.c.getD 2 0=n2 at *;generalize c.c.getD 3 0=n3 at *;generalize c.c.getD 4 0=n4 at *;generalize c.c.getD 5 0=n5 at *;obtain⟨j,r⟩:∃j:Array Value,j=#[I Q n0,I Q n1,I Q n2,I Q n3,I Q n4,I Q n5]:=⟨_,rfl⟩;obtain⟨W,HW,hb,s,hK⟩:∃W,H ((w.alloc (Δ #[Z (ae c.b),I Q n0,I Q n1,I Q n2,I Q n3,I Q n4,I Q n5,Z (ae c.a)] 112)).alloc (Δ #[I Q n0,I Q n1,I Q n2,I Q n3,I Q n4,I Q n5] 71)=W)/\W.1[k]?=O (Δ (cM x rv A) 61)/\W.1[w.1.size+1]?=O (Δ j 71)/\ax (λb=>b=k) w W:=by have hB:=((aj w.1.size w).l nl (Δ #[Z (ae c.b),I Q n0,I Q n1,I Q n2,I Q n3,I Q n4,I Q n5,Z (ae c.a)] 112)).l sm (Δ j 71);rw[r]at hB⊢;refine⟨_,rfl,(hB.block _ hlt).trans h,?_,bH hB _⟩;have:=bn (w.alloc (Δ #[Z (ae c.b),I Q n0,I Q n1,I Q n2,I Q n3,I Q n4,I Q n5,Z (ae c.a)] 112)) (Δ #[I Q n0,I Q n1,I Q n2,I Q n3,I Q n4,I Q n5] 71);simpa using this
 have HN:H (j=#[I Q n0,I Q n1,I Q n2,I Q n3,I Q n4,I Q n5]):=r
 have q:H (∀(V:Ω)(i:Nat)(y z:eJ)(u v:Value),V.1[k]?=O (Δ (cM y rv A) 61)->V.1[w.1.size+1]?=O (Δ j 71)->ax (λb=>b=k) w V->((cM y rv A).setIfInBounds i u).setIfInBounds (i+1) v=cM z rv A->∃V',((V.setCell ⟨k,i,J⟩ u).setCell ⟨k,i+1,J⟩ v).drew=V'/\V'.1[k]?=O (Δ (cM z rv A) 61)/\V'.1[w.1.size+1]?=O (Δ j 71)/\ax (λb=>b=k) w V'):=λV i y z u v h1 h2 h3 h4=>by
  refine⟨_,rfl,?_,?_,Fw (qw (qw h3 rfl) rfl)⟩
  ·show ((V.setCell ⟨k,i,J⟩ u).setCell ⟨k,i+1,J⟩ v).1[k]?=_;simp only[World.setCell,dU,h1,iP,kS,ie,iq,fL];rw[h4]
  show ((V.setCell ⟨k,i,J⟩ u).setCell ⟨k,i+1,J⟩ v).1[w.1.size+1]?=_;rw[bN _ _ _ _ t,bN _ _ _ _ t];exact h2
 obtain⟨W1,X,C,p,T⟩:=q.o W 0 x ⟨n0,n1,x.d,x.e,x.f,x.g,x.a⟩ (I Q n0) (I Q n1) hb s hK rfl;obtain⟨W2,a0,D,m,P⟩:=q.o W1 2 ⟨n0,n1,x.d,x.e,x.f,x.g,x.a⟩ ⟨n0,n1,n2,n3,x.f,x.g,x.a⟩ (I Q n2) (I Q n3) C p T rfl;obtain⟨W3,F,L,R,K⟩:=q.o W2 4 ⟨n0,n1,n2,n3,x.f,x.g,x.a⟩ ⟨n0,n1,n2,n3,n4,n5,x.a⟩ (I Q n4) (I Q n5) D m P rfl;have HF:H (W3.1[k]?=O (Δ (cM ⟨n0,n1,n2,n3,n4,n5,x.a⟩ rv A) 61)/\ax (λb=>b=k) w W3):=⟨L,K⟩;have E:H _:=X;have G:H _:=a0;have S:H _:=F;obtain⟨p0,f0,-⟩:=ck hb;obtain⟨p1,f1,-⟩:=ck C;obtain⟨p2,f2,-⟩:=ck D;have c0:=p0 0 _ rfl;have c1:=p0 1 _ rfl;have c2:=p1 2 _ rfl;have c3:=p1 3 _ rfl;have c4:=p2 4 _ rfl;have c5:=p2 5 _ rfl;have m0:=(ck s).1 0 (I Q n0) (by rw[r];rfl);have m1:=(ck s).1 1 (I Q n1) (by rw[r];rfl);have m2:=(ck p).1 2 (I Q n2) (by rw[r];rfl);have m3:=(ck p).1 3 (I Q n3) (by rw[r];rfl);have m4:=(ck m).1 4 (I Q n4) (by rw[r];rfl);have m5:=(ck m).1 5 (I Q n5) (by rw[r];rfl);clear r p0 p1 p2 hb C D L s p m R hK T P K X a0 F h q HN;go_enter func43,ntmps43;go_wp2_with fail;rw[HW.o];go_region_held3 (λU=>U.cell? ⟨w.1.size+1,0,J⟩=O (I Q n0)/\U.cell? ⟨w.1.size+1,1,J⟩=O (I Q n1)) (go_keep) (fail);rename_i hH;clear hH;rw[E.o];go_wp2_with fail;go_region_held3 (λU=>U.cell? ⟨w.1.size+1,2,J⟩=O (I Q n2)/\U.cell? ⟨w.1.size+1,3,J⟩=O (I Q n3)) (go_keep) (fail);rename_i hH;clear hH;rw[G.o];go_wp2_with fail;go_region_held3 (λU=>U.cell? ⟨w.1.size+1,4,J⟩=O (I Q n4)/\U.cell? ⟨w.1.size+1,5,J⟩=O (I Q n5)) (go_keep) (fail);rename_i hH;clear hH;rw[S.o];go_wp2;go_ret2;exact⟨rfl,HF.o⟩
end
section
open Go.RowKit Go.Maps
def qJ(p:Nat->Nat->Int)(r a:Nat)(v:Int):Nat->Nat->Int:=λi j=>if i=r/\j=a then v else p i j
def pC(c:cj):Prop:=(0<=c.n 0/\c.n 0<=3)/\0<=c.n 1/\c.n 1<=3
theorem GC(x:eJ)(r a:Nat)(v:Int)(rv b:Value)(d:r<4)(c:a<4):(cM x rv b).setIfInBounds (6+r*4+a) (I Q v)=cM { x with a:=qJ x.a r a v } rv b:=by
 match r,a,d,c with
 |0,0,_,_|0,1,_,_|0,2,_,_|0,3,_,_|1,0,_,_|1,1,_,_|1,2,_,_|1,3,_,_|2,0,_,_|2,1,_,_|2,2,_,_|2,3,_,_|3,0,_,_|3,1,_,_|3,2,_,_|3,3,_,_=>rfl
theorem RC(c:cj)(j:Nat)(w:Ω)(h:¬pC c):
  Φ prog 44 #[Y (O ⟨j,0,J⟩),.agg (aY c.b c.c c.a)] w λe d=>e=N (Ψ #[Z ⟨#[]⟩,bB 1])/\B w.1.size w d:=by
 unfold pC cj.n at h;unfold aY;generalize c.c.getD 0 0=n0 at *;generalize c.c.getD 1 0=n1 at *;generalize c.c.getD 2 0=n2 at *;generalize c.c.getD 3 0=n3 at *;generalize c.c.getD 4 0=n4 at *;generalize c.c.getD 5 0=n5 at *;go_enter func44,ntmps44;go_wp2_with fail;go_quiet (fail);by_cases g:0<=n0/\n0<=3
 ·have f:(decide (0<=n1)&&decide (n1<=3))=false:=by simp;omega
  have k:H (∀V,Φ prog 67 #[I Q n0,I Q 0,I Q 3] V λe d=>e=N (.bool true)/\d=V):=λV=>uD (by simp[g]) V;have i:H (∀V,Φ prog 67 #[I Q n1,I Q 0,I Q 3] V λe d=>e=N (.bool false)/\d=V):=λV=>uD f V;clear f g h;go_wp2_with (go_at_call 67;(first|with_reducible refine(k.o _).m ?_|with_reducible refine(i.o _).m ?_);rintro e d ⟨rfl,rfl⟩);go_ret2;exact⟨rfl,ba.t ((gp _ _).m sm)⟩
 have f:(decide (0<=n0)&&decide (n0<=3))=false:=by simp;omega
 go_wp2_with (go_at_call 67;refine(uD (r:=false) f _).m ?_;rintro e d ⟨rfl,rfl⟩);go_ret2;exact⟨rfl,ba.t ((gp _ _).m sm)⟩
theorem SN(c:cj)(f:Nat)(x:eJ)(rv g:Value)(w:Ω)(h:w.1[f]?=O (Δ (cM x rv g) 61))(q:pC c):
  Φ prog 44 #[Y (O ⟨f,0,J⟩),.agg (aY c.b c.c c.a)] w λe k=>e=N (Ψ #[Z (ae iy),.nilIface])/\k.1[f]?=O (Δ (cM { x with a:=qJ x.a (c.n 0).toNat (c.n 1).toNat (c.n 2) } rv g) 61)/\ax (λb=>b=f) w k:=by
 unfold pC at q;unfold cj.n at q⊢;unfold aY;generalize c.c.getD 0 0=n0 at *;generalize c.c.getD 1 0=n1 at *;generalize c.c.getD 2 0=n2 at *;generalize c.c.getD 3 0=n3 at *;generalize c.c.getD 4 0=n4 at *;generalize c.c.getD 5 0=n5 at *;obtain⟨⟨D,G⟩,K,C⟩:=q;obtain⟨r,rfl⟩:∃r:Nat,n0=(r:Int):=⟨n0.toNat,om⟩;obtain⟨a,rfl⟩:∃a:Nat,n1=(a:Int):=⟨n1.toNat,om⟩;rw[ir,ir];have p:f<w.1.size:=(bP.1 h).1;have d:H (w.1[f]?=O (Δ (cM x rv g) 61)):=h;clear h;go_enter func44,ntmps44;go_wp2_with fail;go_quiet (fail);obtain⟨W,s,j,u⟩:∃W,H ((w.alloc (Δ #[Z (ae c.b),I Q (r:Int),I Q (a:Int),I Q n2,I Q n3,I Q n4,I Q n5,Z (ae c.a)] 112)).drewN nq=W)/\W.1[f]?=O (Δ (cM x rv g) 61)/\ax (λb=>b=f) w W:=by have y:=((aj w.1.size w).l nl (Δ #[Z (ae c.b),I Q (r:Int),I Q (a:Int),I Q n2,I Q n3,I Q n4,I Q n5,Z (ae c.a)] 112)).t ((gp _ nq).m sm);exact⟨_,rfl,(y.block _ p).trans d.o,bH y _⟩
 rw[s.o];obtain⟨z,F,-⟩:=ck j;obtain⟨v,i⟩:∃v,(cM x rv g)[6+r*4+a]?=O v:=⟨_,oQ (by show 6+r*4+a<24;omega)⟩;have E:=z _ _ i;have A:H ((W.setCell ⟨f,6+r*4+a,J⟩ (I Q n2)).1[f]?=O (Δ (cM { x with a:=qJ x.a r a n2 } rv g) 61)/\ax (λb=>b=f) w (W.setCell ⟨f,6+r*4+a,J⟩ (I Q n2))):=⟨A6 j (GC x r a n2 rv g om om),qw u rfl⟩;clear j u z i s;go_wp2_with (go_at_call 67;refine(uD (r:=true) (by simp;omega) _).m ?_;rintro e k ⟨rfl,rfl⟩);go_ret2;exact⟨rfl,A.o⟩
end
section
open Go.RowKit Go.Maps
section
variable {w w' V:Ω}{sb:Nat}{F:Nat->Prop}{S:bY}{rv wv:Value}
theorem mD.h(h:mD w sb F S rv wv):sb<w.1.size:=(bP.1 h.a).1
theorem GD{e:Nat}{d:Nat->Nat}{c:aE}{rs:List aq}{s:ay}(h:jy w e d c rs s){b:Nat}(f:d b≠0):b<w.1.size:=by obtain⟨p,h⟩:=h.a.a;exact h.a b f
theorem mD.l(h:mD w sb F S rv wv)(n:w.1.size<=w'.1.size)(k:∀b,b<w.1.size->F b->w'.1[b]?=w.1[b]?):mD w' sb F S rv wv where
 a:=(k sb h.h h.f).trans h.a
 f:=h.f
 c:=aS h.c (λb e=>k b (aU h.c e) (h.d b e).1)
 d:=h.d
 g:=h.g
 i:=h.i
 j:=by
  rcases h.j with h1|⟨W,wb,oa,h1,h2,h3,h4,h5⟩
  ·exact af h1
  exact ah ⟨W,wb,oa,h1,h2,⟨h3.a.d n (λb e m=>k b e (h4 b m).1)⟩,h4,h5⟩
theorem mD.e(h:mD w sb F S rv wv)(c:B w.1.size w w'):mD w' sb F S rv wv:=h.l c.size (λb a _=>c.block b a)
theorem fU.a(h:fU w sb F S)(f:B w.1.size w w'):fU w' sb F S:=by obtain⟨c,d,h⟩:=h.b;exact⟨c,d,h.e f⟩
theorem mD.k(h:mD w sb F S rv wv){x:eJ}(e:w'.1[sb]?=O (Δ (cM x rv wv) 61))(m:ax (λb=>b=sb) w w'):fU w' sb F { S with b:=x }:=by
 have n:∀b,b<w.1.size->b≠sb->w'.1[b]?=w.1[b]?:=λb e l=>m.b b e l;refine⟨rv,wv,e,h.f,aS h.c (λb e=>n b (aU h.c e) (h.d b e).2),h.d,h.g,h.i,?_⟩;rcases h.j with h1|⟨W,wb,oa,h1,h2,h3,h4,h5⟩
 ·exact af h1
 exact ah ⟨W,wb,oa,h1,h2,⟨h3.a.d m.c (λb e l=>n b e (h4 b l).2.1)⟩,h4,h5⟩
theorem mD.m(h:mD w sb F S rv wv){u:aq}{g cap:Nat}(C:u.h)(z:S.a.length+1<=1000)(y:∀b,w.1.size<=b->F b)(n:V.ownsRow 0 65 6 (M (O ⟨g,0,J⟩) (S.a.length+1) cap) (S.a.length+1) (cS S.a++dV u))(p:w.grownBy V rv.ownBlock)(i:rv.ownBlock=O g\/g=w.1.size):
  fU (V.setCell ⟨sb,22,J⟩ (M (O ⟨g,0,J⟩) (S.a.length+1) cap)) sb F { S with a:=S.a++[u] }/\ax F w (V.setCell ⟨sb,22,J⟩ (M (O ⟨g,0,J⟩) (S.a.length+1) cap)):=by
 have o:g≠sb:=by
  rcases i with e|e
  ·exact(h.d g e).2
  have:=h.h;omega
 have v:F g:=by
  rcases i with e|e
  ·exact(h.d g e).1
  exact y g om
 have q:ax F w V:=eV p (λb c=>(h.d b c).1);have s:V.1[sb]?=O (Δ (cM S.b rv wv) 61):=(p.block sb h.h (λe=>(h.d sb e.symm).2 rfl)).trans h.a;refine⟨⟨M (O ⟨g,0,J⟩) (S.a.length+1) cap,wv,?_⟩,qw q h.f⟩;have x:∀b,b≠sb->(V.setCell ⟨sb,22,J⟩ (M (O ⟨g,0,J⟩) (S.a.length+1) cap)).1[b]?=V.1[b]?:=λb c=>bN _ _ _ _ c;have l:∀b,(M (O ⟨g,0,J⟩) (S.a.length+1) cap).ownBlock=O b->b=g:=λb c=>by simp[Value.ownBlock]at c;exact c.symm
 refine⟨A6 s rfl,h.f,?_,λb c=>by rw[l b c];exact⟨v,o⟩,λr D=>?_,by simpa using z,?_⟩
 ·have e:cS (S.a++[u])=cS S.a++dV u:=by simp[cS]
  simp only[bU,List.length_singleton];rw[e];exact aS n (λb c=>x b (by rw[l b c];exact o))
 ·rcases dP.1 D with h1|h1
  ·exact h.g r h1
  simp at h1;rw[h1];exact C
 rcases h.j with h1|⟨W,wb,oa,h1,h2,h3,h4,t,h5⟩
 ·exact af h1
 refine ah ⟨W,wb,oa,h1,h2,⟨h3.a.d (by simpa [World.setCell] using p.size) (λb c k=>(x b (h4 b k).2.1).trans (p.block b c (λe=>(h4 b k).2.2 e.symm)))⟩,λb k=>⟨(h4 b k).1,(h4 b k).2.1,λe=>?_⟩,t++[u],by simp[h5]⟩;have A:=l b e;rcases i with e3|e3
 ·exact(h4 b k).2.2 (by rw[e3,A])
 have:=GD h3 k;omega
end
end
section
open Go.RowKit Go.Maps
section
variable {w:Ω}{sb:Nat}{F:Nat->Prop}{S:bY}
theorem Oc(c:cj)(j:aT w)(q:c.a.length<=400)(g:¬∃r,bT (ae c.a) r):
  Φ prog 45 #[Y (O ⟨sb,0,J⟩),.agg (aY c.b c.c c.a)] w λe h=>e=N (Ψ #[Z ⟨#[]⟩,bB 4])/\B w.1.size w h:=by
 have i:H (∀V,aT V->Φ prog 68 #[Z (ae c.a)] V λe h=>e=N sE/\B V.1.size V h):=λV p=>Oa (ae c.a) V p (by rw[aV];omega) g;have n:H (aT w):=j;unfold sE aL at i;unfold aY;clear j g;go_enter func45,ntmps45;go_wp2_with fail;refine(i.o _ (n.o.a ba)).m ?_;rintro e k ⟨rfl,f⟩;have d:H (B w.1.size w k):=((aj w.1.size w).l nl _).t (f.m sm);clear f;unfold eK;go_wp2;go_ret2;exact⟨rfl,d.o.l d.o.size _⟩
theorem Qf(c:cj){u:aq}(h:fU w sb F S)(hF:∀b,w.1.size<=b->F b)(hT:aT w)(hs:c.a.length<=400)(hu:bT (ae c.a) u)(hl:S.a.length+1<=1000):
  Φ prog 45 #[Y (O ⟨sb,0,J⟩),.agg (aY c.b c.c c.a)] w λe w'=>e=N (Ψ #[Z (ae iy),.nilIface])/\fU w' sb F { S with a:=S.a++[u] }/\ax F w w':=by
 have HP:H (∀V,aT V->Φ prog 68 #[Z (ae c.a)] V λe w'=>e=N (Ψ #[aL u,.nilIface])/\B V.1.size V w'):=λV hV=>Mb (ae c.a) V u hV (by rw[aV];omega) hu;obtain⟨y,wv,h⟩:=h.b;have f:H (mD w sb F S y wv):=h;have HF:H (∀b,w.1.size<=b->F b):=hF;have HT:H (aT w):=hT;have HU:H (u.h):=hu.1;obtain⟨i0,hi,hz0,hz1,hz2⟩:=eb xT;unfold aL at HP;unfold aY;clear hT h hF hu;go_enter func45,ntmps45;go_wp2_with fail;refine(HP.o _ (HT.o.a ba)).m ?_;rintro e w1 ⟨rfl,D⟩;have P:H (B w.1.size w w1):=((aj w.1.size w).l nl _).t (D.m sm);clear D;obtain⟨W,HW,s,i⟩:∃W,H (w1.alloc (Δ #[Z u.a,I Q u.e,I Q u.c,I Q u.g,I Q u.b,I Q u.d] 65)=W)/\B w.1.size w W/\W.1[w1.1.size]?=O (Δ #[Z u.a,I Q u.e,I Q u.c,I Q u.g,I Q u.b,I Q u.d] 65):=⟨_,rfl,P.o.l P.o.size _,bn w1 _⟩;have r:=f.o.e s;have c22:W.cell? ⟨sb,22,J⟩=O y:=(ck r.a).1 22 _ rfl;have u0:=(ck i).1 0 _ rfl;have u1:=(ck i).1 1 _ rfl;have u2:=(ck i).1 2 _ rfl;have u3:=(ck i).1 3 _ rfl;have u4:=(ck i).1 4 _ rfl;have u5:=(ck i).1 5 _ rfl;obtain⟨U,R⟩:∃U,U=(W.alloc (Δ #[Z u.a,I Q u.e,I Q u.c,I Q u.g,I Q u.b,I Q u.d] 65)).drew:=⟨_,rfl⟩;have z:B W.1.size W U:=by rw[R];exact ba.drew
 have p:H (mD U sb F S y wv):=r.e z;have T:H (B w.1.size w U):=s.t (z.m s.size);have K:H (∀j v,(dV u)[j]?=O v->U.cell? ((⟨W.1.size,0,J⟩:Addr).add j)=O v):=λj v hj=>by rw[dD,R];show (W.alloc _).cell? _=_;exact(ck (bn W _)).1 j v (by simpa [dV] using hj)
 have E:H (S.a.length+1<=maxLen):=by show _<=_;unfold maxLen;omega
 have a0:H ((S.a.length+1)*56<=140737488355328):=by show _<=_;omega
 have HV6:H (∀A:Ω,U.grownBy A y.ownBlock->A.cell? ⟨sb,22,J⟩=O y/\A.frozen? ⟨sb,22,J⟩=false):=λA hg=>by have hb:=ck ((hg.block sb p.o.h (λe=>(p.o.d sb e.symm).2 rfl)).trans p.o.a);exact⟨hb.1 22 _ rfl,hb.2.1 22⟩
 have c22':∀o,(W.alloc o).cell? ⟨sb,22,J⟩=O y:=λo=>by rw[((aj W.1.size W).l nl o).cell r.h];exact c22
 have HFU:H (∀b,U.1.size<=b->F b):=λb hb=>HF.o b (aP T.o.size hb);have HEU:H ((W.alloc (Δ #[Z u.a,I Q u.e,I Q u.c,I Q u.g,I Q u.b,I Q u.d] 65)).drew=U):=R.symm;have HUS:H (U.1.size=W.1.size+1):=by show _=_;rw[R];show (W.alloc _).1.size=_;simp
 have HON:H (∀v∈dV u,v.oneCell'=true):=λv hv=>by simp[dV]at hv;rcases hv with rfl|rfl|rfl|rfl|rfl|rfl<;>rfl
 have HRL:H (S.a.length+1<=1000):=hl;obtain⟨C,x⟩:∃C,C=S.a.length:=⟨_,rfl⟩;have G:H (C=S.a.length):=x;rw[<-x]at E a0;have L:H (U.ownsRow 0 65 6 y C (cS S.a)):=by rw[x];exact p.o.c
 clear R z r s i x hl;go_wp2_with fail;rw[HW.o];clear HW;go_region_law (rw[HEU.o];refine iX _ (by rfl) (.tmp 21) (.tmp 23) 35 (by rfl) 0 65 i0 (.agg #[Z ⟨#[]⟩,I Q 0,I Q 0,I Q 0,I Q 0,I Q 0]) 6 56 underlying35 hi hz0 hz1 hz2 rfl om y C (cS S.a) (by rfl) L.o ⟨W.1.size,0,J⟩ 1 1 (dV u) (by rfl) rfl K.o HON.o om E.o a0.o (aX _) _ rfl ?_;intro g cap A q k X a1;obtain⟨c6,f6⟩:=HV6.o A k)
 all_goals
  rw[G.o]at q;have n:H _:=p.o.m HU.o HRL.o HFU.o q k (by rcases X with e|e;exact af e;exact ah e);rw[<-G.o]at n;clear q k X a1 c6 f6;go_wp2;go_ret2;exact⟨rfl,n.o.1,(bH T.o F).a n.o.2⟩
end
end
section
open Go.RowKit Go.Maps
section
variable {w:Ω}{sb:Nat}{F:Nat->Prop}{S:bY}
theorem GE{rv b:Value}{x:eJ}{V:Ω}(h:V.1[sb]?=O (Δ (cM x rv b) 61)):V.rangeAt sb 0 (bj x).toList:=λi v a=>by
 have c:i<22:=by have:=(gD.1 a).1;exact this
 rw[dj];refine(ck h).1 i v ?_;rw[rM]at a;unfold cM;rw[Array.getElem?_append_left (by exact c)];exact a
theorem vS{V:Ω}{v:Value}{rs:List aq}(h:V.ownsRow 0 65 6 v rs.length (cS rs)):∃q cap,v=M q rs.length cap/\iO V q rs/\(q=J->rs=[]/\cap=0)/\rs.length<=cap:=by
 rcases h.2 with ⟨rfl,h0⟩|⟨g,cap,cur,hv,hr⟩
 ·have:rs=[]:=iG.1 h0;subst this;exact⟨J,0,rfl,⟨λd=>absurd rfl d⟩,λ_=>⟨rfl,rfl⟩,aa _⟩
 have b:rs.length<=cap:=hr.2.2.1;refine⟨O ⟨g,0,J⟩,cap,hv,⟨λc=>⟨g,0,rfl,(h.lt g (by rw[hv];rfl)).2,λk r f=>?_⟩⟩,(λe=>by cases e),b⟩;have a:∀j u,j<6->(dV r)[j]?=O u->V.cell? ⟨g,0+k*6+j,J⟩=O u:=λj u l i=>by have:=h.cells (g:=g) (by rw[hv];rfl) (k*6+j) u (by unfold cS;rw[qq dV 6 (λ_=>rfl) rs k j r f l];exact i);rw[dD]at this;rw[dj];exact this
 exact⟨a 0 _ om rfl,a 1 _ om rfl,a 2 _ om rfl,a 3 _ om rfl,a 4 _ om rfl,a 5 _ om rfl⟩
theorem Qg(x:eJ)(rs:List aq)(q:Option Addr)(cap:Nat)(V:Ω){n:Nat}(o:pI x rs n)(d:n≠0)(s:iO V q rs)(f:∀r,r∈rs->r.a.size<=9223372036854775807)(l:rs.length<=cap)(k:rs.length<=9223372036854775807):
  Φ prog 69 #[.agg (bj x),M q rs.length cap] V λe p=>e=N (Ψ #[Y J,.iface 57 (I Q (n:Int))])/\B V.1.size V p:=by
 rcases o with ⟨h1,rfl⟩|⟨⟨h1,h2,h3,h4⟩,h5⟩
 ·by_cases b:x.h
  ·by_cases c:x.i
   ·by_cases g:x.j
    ·exact N7 x _ V b c g (λm=>h1 ⟨b,c,g,m⟩)
    exact N6 x _ V b c g
   exact N5 x _ V b c
  exact N4 x _ V b
 exact N8 x rs q cap V h1 h2 h3 h4 h5 d s f l k
theorem um{r:aq}(h:r.h):r.a.size<=12:=by have:=h.1.2.1;rw[Array.length_toList]at this;exact this
theorem Mc{n:Nat}(h:fU w sb F S)(z:pI S.b S.a n)(k:n≠0):
  Φ prog 46 #[Y (O ⟨sb,0,J⟩)] w λe p=>e=N (Ψ #[Z ⟨#[]⟩,bB n])/\B w.1.size w p:=by
 obtain⟨l,wv,h⟩:=h.b;have x:H (∀V,B w.1.size w V->V.rangeAt sb 0 (bj S.b).toList/\V.cell? ⟨sb,22,J⟩=O l):=λV D=>⟨GE (h.e D).a,(ck (h.e D).a).1 22 l rfl⟩;have u:(prog.info? 34).map (·.size)=O (bj S.b).toList.length:=kr;have v:H (Φ prog 69 #[.agg (bj S.b),l] w.drew λe p=>e=N (Ψ #[Y J,.iface 57 (I Q (n:Int))])/\B w.1.size w p):=by obtain⟨q,s,rfl,T,h2,E⟩:=vS h.c;have X:=h.i;exact(Qg S.b S.a q s w.drew z k (T.c br.drew) (λr W=>aP (um (h.g r W)) dc) E om).m λe p ⟨G,L⟩=>⟨G,(aj w.1.size w).drew.t L⟩
 have P:H (bB n=.iface 57 (I Q (n:Int))):=pi k;generalize bj S.b=C at *;have d:=x.o w.drew br.drew;clear h z;go_enter func46,ntmps46;go_wp2_with fail;refine fG (S:=λU=>U.rangeAt sb 0 C.toList/\U.cell? ⟨sb,22,J⟩=O l) kr d (λ_=>?_);refine ar 0 7 (Y (O ⟨sb,0,J⟩)) d ?_;refine ar 1 8 (Y (O ⟨sb,0,J⟩)) d ?_;refine ar 2 9 (Y (O ⟨sb,0,J⟩)) d ?_;refine ar 3 10 (.agg C.toList.toArray) d ?_ (hy:=yieldsIf_load_mid rfl 34 (.tmp 9) rfl sb 0 rfl C.toList _ (λ_ h=>h.1) underlying34 rfl u);refine ar 4 11 (Y (O ⟨sb,0,J⟩)) d ?_;refine ar 5 12 (Y (O ⟨sb,0,J⟩)) d ?_;refine ar 6 13 (Y (O ⟨sb,22,J⟩)) d ?_;refine ar 7 14 l d ?_ (hy:=af ⟨by rfl,λwx A=>by (try dsimp only at A);obtain⟨r0,r1⟩:=A;go_simp⟩);rw[rO];refine a9 (rs:=[8]) kr sm ?_;refine aQ rfl (λK y=>?_) aZ;go_simp;refine v.o.m ?_;rintro e R ⟨rfl,j⟩;have f:=x.o R j;go_wp2_with fail;refine y.out _ _ f (λ_=>?_);clear y K;refine ar 9 6 (Ψ #[Y J,.iface 57 (I Q (n:Int))]) f ?_;refine ar 10 16 (Y J) f ?_;refine ar 11 17 (.iface 57 (I Q (n:Int))) f ?_;refine ar 12 4 (Y J) f ?_;refine ar 13 5 (.iface 57 (I Q (n:Int))) f ?_;refine ea kr ?_ _;clear d f;go_wp2;go_ret2;exact⟨by rw[P.o];rfl,j⟩
theorem mD.n{V:Ω}{rv t:Value}{l:Nat}{p:Nat->Nat}{c:aE}(h:mD w sb F S rv t)(j:B w.1.size w V)(u:∀b,w.1.size<=b->F b)(v:dx V l p c S.a ay.k 0)(s:∀b,p b≠0->w.1.size<=b):
  fU (V.setCell ⟨sb,23,J⟩ (Y (O ⟨l,0,J⟩))) sb F { S with c:=O ⟨c,S.a,ay.k⟩ }/\ax F w (V.setCell ⟨sb,23,J⟩ (Y (O ⟨l,0,J⟩))):=by
 have r:=h.e j;have y:=h.h;have q:∀b,b≠sb->(V.setCell ⟨sb,23,J⟩ (Y (O ⟨l,0,J⟩))).1[b]?=V.1[b]?:=λb j=>bN _ _ _ _ j;have x:ay.c c ay.k=0:=Aj c.b c.e;refine⟨⟨rv,_,A6 r.a rfl,h.f,aS r.c (λb j=>q b (h.d b j).2),h.d,h.g,h.i,ah ⟨_,l,p,rfl,rfl,⟨?_⟩,λb m=>?_,[],by simp⟩⟩,qw (bH j F) h.f⟩
 ·rw[x];exact v.d (by simp[World.setCell]) (λb _ m=>q b (by have:=s b m;omega))
 have o:=s b m;exact⟨u b o,om,λe=>by have:=aU h.c e;omega⟩
theorem Od{c:aE}(h:fU w sb F S)(R:∀b,w.1.size<=b->F b)(z:c.h)(hx:jt c=S.b)(u:lz S.a 0):
  Φ prog 46 #[Y (O ⟨sb,0,J⟩)] w λe p=>e=N (Ψ #[Z (ae iy),.nilIface])/\fU p sb F { S with c:=O ⟨c,S.a,ay.k⟩ }/\ax F w p:=by
 obtain⟨s,G,h⟩:=h.b;have T:H (∀V,B w.1.size w V->V.rangeAt sb 0 (bj S.b).toList/\V.cell? ⟨sb,22,J⟩=O s):=λV A=>⟨GE (h.e A).a,(ck (h.e A).a).1 22 s rfl⟩;have HW:H (∀V,B w.1.size w V->V.cell? ⟨sb,23,J⟩=O G/\V.frozen? ⟨sb,23,J⟩=false):=λV A=>⟨(ck (h.e A).a).1 23 G rfl,(ck (h.e A).a).2.1 23⟩;have L:(prog.info? 34).map (·.size)=O (bj S.b).toList.length:=kr;have P:H (Φ prog 69 #[.agg (bj S.b),s] w.drew λe p=>∃l D,e=N (Ψ #[Y (O ⟨l,0,J⟩),.nilIface])/\dx p l D c S.a ay.k 0/\(∀b,D b≠0->w.1.size<=b)/\B w.1.size w p):=by obtain⟨q,E,rfl,h1,h2,h3⟩:=vS h.c;rw[<-hx];exact(Ry c S.a q E w.drew z u (h1.c br.drew) h2 h3 (λr hr=>aP (um (h.g r hr)) dc)).m λe p ⟨l,D,he,ha,ho,hb⟩=>⟨l,D,he,ha,ho,(aj w.1.size w).drew.t hb⟩
 have d:H (mD w sb F S s G):=h;have HF:H (∀b,w.1.size<=b->F b):=R;generalize bj S.b=C at *;have f:=T.o w.drew br.drew;clear h hx R z u;go_enter func46,ntmps46;go_wp2_with fail;refine fG (S:=λU=>U.rangeAt sb 0 C.toList/\U.cell? ⟨sb,22,J⟩=O s) kr f (λ_=>?_);refine ar 0 7 (Y (O ⟨sb,0,J⟩)) f ?_;refine ar 1 8 (Y (O ⟨sb,0,J⟩)) f ?_;refine ar 2 9 (Y (O ⟨sb,0,J⟩)) f ?_;refine ar 3 10 (.agg C.toList.toArray) f ?_ (hy:=yieldsIf_load_mid rfl 34 (.tmp 9) rfl sb 0 rfl C.toList _ (λ_ h=>h.1) underlying34 rfl L);refine ar 4 11 (Y (O ⟨sb,0,J⟩)) f ?_;refine ar 5 12 (Y (O ⟨sb,0,J⟩)) f ?_;refine ar 6 13 (Y (O ⟨sb,22,J⟩)) f ?_;refine ar 7 14 s f ?_ (hy:=af ⟨by rfl,λwx hS=>by (try dsimp only at hS);obtain⟨r0,r1⟩:=hS;go_simp⟩);rw[rO];refine a9 (rs:=[8]) kr sm ?_;refine aQ rfl (λK W=>?_) aZ;go_simp;refine P.o.m ?_;rintro e X ⟨l,oa,rfl,y,v,j⟩;have i:=T.o X j;have x:H _:=d.o.n j HF.o y v;obtain⟨c23,f23⟩:=HW.o X j;clear y v j;go_wp2_with fail;refine W.out _ _ i (λ_=>?_);clear W K;refine ar 9 6 (Ψ #[Y (O ⟨l,0,J⟩),.nilIface]) i ?_;refine ar 10 16 (Y (O ⟨l,0,J⟩)) i ?_;refine ar 11 17 .nilIface i ?_;refine ar 12 4 (Y (O ⟨l,0,J⟩)) i ?_;refine ar 13 5 .nilIface i ?_;refine ea kr ?_ _;clear f i;go_wp2;go_ret2;exact⟨rfl,x.o⟩
end
end
section
open Go.RowKit Go.Maps
theorem Ie{P:Program}{w:Ω}(t ty e:TypeId)(i:TypeInfo)(f:P.underlying t=O (.slice e))(b:P.info? e=O i)(a:Addr)(c:Nat):
  (Builtin.append_ #[t,t] ty #[M J 0 0,M (O a) 0 c]).run P w=.ok (M J 0 0) w:=by
 simp[Builtin.append_,run_underlying f,sizeOf,typeInfo,b,Builtin.lenOf,Builtin.firstCells];have d:(loadCells a 0).run P w=.ok #[] w:=by simp[loadCells,loadCellsFrom]
 rw[d];rfl
theorem BM{P:Program}{F:Array Oper}{rest:List Oper}{o:Oper}{a:Act}{Q:Exit->Act->Ω->Prop}(w:Ω)(y:o.guard=J)(s x:Operand)(t:TypeId)
  (W:o.op=.call { callee:=.builtin .append,args:=#[s,x],argTypes:=#[t,t] })
  (e:TypeId)(i:TypeInfo)(z:Value)(b f:Nat)(S:P.underlying t=O (.slice e))(L:P.info? e=O i)(hz:i.zero=O z)(r:i.size=b)(T:i.bytes=f)(R:z.cells.size=b)(U:0<b)
  (G:a.eval s=M J 0 0)(q:Option Addr)(n c:Nat)(d:List Value)(V:a.eval x=M q n c)(E:q=J->n=0/\c=0)(hl:d.length=n*b)(p:n≠0->∃A,q=O A/\∀j u,d[j]?=O u->w.cell? (A.add j)=O u)(h1:∀u∈d,u.oneCell'=true)
  (h63:n<=maxLen)(l:n*f<=140737488355328)
  (h:∀v w',w'.ownsRow w.1.size e b v n d->B w.1.size w w'->wpList P F Q rest (a.put o.dst v) w'):wpList P F Q (o::rest) a w:=by
 by_cases X:n=0
 ·subst X;have hn:d=[]:=iG.1 om;subst hn;have m:=h (M J 0 0) w (fH _ _ _ _) br;cases q with
 |none=>
   obtain⟨_,rfl⟩:=E rfl;exact wpList_append_own_none y s x t W w.1.size e i b S L _ 0 [] G (fH _ _ _ _) V m
 |some A=>
   refine wpList_plain y λK hK=>?_;have C:=Ie (P:=P) (w:=w) t o.type e i S L A c;unfold Oper.wp;simp[execOp,W,resolve,invoke,builtin,G,V,C,Result.andThen];exact hK _ _ m
 obtain⟨A,rfl,hc⟩:=p X;refine iB w y s x t W w.1.size e i z b f S L hz r T R U (M J 0 0) 0 [] G (fH _ _ _ _) A n c d V hl hc h1 om om (by rw[dj];exact l) nl _ rfl ?_;intro g cap w' h2 D h4 h5;rw[dj,j9]at h2;rw[dj];exact h _ w' h2 ⟨D.os,D.tape,D.output,D.size,λk hk=>D.block k hk (by simp[Value.ownBlock])⟩
end
end Go.Proofs.YtlaodjjfmhipnaaGreatDoor
