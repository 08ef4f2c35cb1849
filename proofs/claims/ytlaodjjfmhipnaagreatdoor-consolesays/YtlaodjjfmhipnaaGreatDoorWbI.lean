/-
  Part of it.
-/
import Derived.Test.YtlaodjjfmhipnaaGreatDoorSap
import Derived.Test.YtlaodjjfmhipnaaGreatDoorSai
set_option maxRecDepth 100000
set_option maxHeartbeats 8000000
set_option linter.all false
namespace Go.Proofs.YtlaodjjfmhipnaaGreatDoor
open Go.Proofs.Tryz
open Value renaming int→I,string→Z,pointer→Y,slice→M,tuple→Ψ
open Ending renaming returned→N
open Obj renaming cells→Δ
open Go renaming World→Ω,Calls→Φ
open IntKind renaming i64→Q
open Option renaming some→O,none→J
open RowKit renaming Below→B,Hid→H
section
open Go.RowKit Go.Maps
theorem Io(x:eJ)(rs:List aq)(q:Option Addr)(cap:Nat)(w:Ω){n:Nat}(hn:pI x rs n)(hr:iO w q rs)(hl:rs.length<=9223372036854775807)(hs:∀r,r∈rs->r.a.size<=9223372036854775807):
  Φ prog 17 #[.agg (bj x),M q rs.length cap] w λe w'=>e=N (I Q (n:Int))/\B w.1.size w w':=by
 have HB0:H (∀o,B w.1.size w (w.alloc o)):=λo=>br.l nl o;by_cases hx:x.h/\x.i/\x.j
 case neg=>
  have u:n=1:=pI.a hn (af ⟨λh=>hx ⟨h.1,h.2.1,h.2.2.1⟩,rfl⟩);subst u;unfold eJ.h eJ.i eJ.j at hx;obtain⟨X,P,W,R,K,G,b⟩:=x;unfold bj;simp only at hx⊢;generalize rs.length=m at *;clear hn hr hs;go_enter func17,ntmps17;go_wp2
  all_goals first
  |(exfalso;omega)
  |(go_ret;exact⟨rfl,HB0.o _⟩)
 have U:H (pI x rs n):=hn;have HR:H (iO w q rs):=hr;have HS:H (∀r,r∈rs->r.a.size<=9223372036854775807):=hs;have HX:H (x.h/\x.i/\x.j):=hx;have HCF:H (∀w':Ω,B (w.alloc (Δ (bj x) 34)).1.size (w.alloc (Δ (bj x) 34)) w'->w'.1[w.1.size]?=O (Δ (bj x) 34)):=λw' d=>(d.block w.1.size sm).trans (bn w _);have HBR:H (B (w.alloc (Δ (bj x) 34)).1.size (w.alloc (Δ (bj x) 34)) (w.alloc (Δ (bj x) 34))):=aj _ _;unfold eJ.h eJ.i eJ.j at hx;obtain⟨⟨a1,a2,a3,a4⟩,⟨b1,b2,b3,b4⟩,c1,c2,c3,c4⟩:=hx;obtain⟨m,hm⟩:∃m,m=rs.length:=⟨_,rfl⟩;have HM:H (m=rs.length):=hm;rw[<-hm]at hl⊢;obtain⟨X,P,W,R,K,G,b⟩:=x;unfold bj at HBR⊢;simp only at a1 a2 a3 a4 b1 b2 b3 b4 c1 c2 c3 c4 HBR⊢;have e1:¬X<1:=om;have e2:¬50<X:=om;have e3:¬P<0:=om;have e4:¬50<P:=om;have e5:¬W<1:=om;have e6:¬8<W:=om;have e7:¬R<1:=om;have e8:¬W<R:=om;have e9:¬K<1:=om;have e10:¬8<K:=om;have e11:¬G<1:=om;have e12:¬K<G:=om;clear hn hr hs hm a1 a2 a3 a4 b1 b2 b3 b4 c1 c2 c3 c4;go_enter func17,ntmps17;go_wp2;go_loopw [5] (λi V=>∃j:Nat,j<=16/\i=I Q (j:Int)/\(∀i,i<j->-1<=b (i/4) (i%4)/\b (i/4) (i%4)<=7)/\B (w.alloc (Δ (bj ⟨X,P,W,R,K,G,b⟩) 34)).1.size (w.alloc (Δ (bj ⟨X,P,W,R,K,G,b⟩) 34)) V) (λi _=>16-(intOf i).toNat)
 case atStart=>exact⟨0,om,rfl,λi T=>by omega,HBR.o⟩
 obtain⟨j,hj,rfl,hpl,L⟩:=hrel;have E:H (∀i,i<j->-1<=b (i/4) (i%4)/\b (i/4) (i%4)<=7):=hpl;have F:H (B (w.alloc (Δ (bj ⟨X,P,W,R,K,G,b⟩) 34)).1.size (w.alloc (Δ (bj ⟨X,P,W,R,K,G,b⟩) 34)) wr):=L;have s:H (B w.1.size w wr):=(HB0.o _).t (L.m (HB0.o _).size);have v:=HCF.o wr L;clear hpl L;by_cases hlt:j<16
 case pos=>
  rcases(show j=0\/j=1\/j=2\/j=3\/j=4\/j=5\/j=6\/j=7\/j=8\/j=9\/j=10\/j=11\/j=12\/j=13\/j=14\/j=15 by omega) with rfl|rfl|rfl|rfl|rfl|rfl|rfl|rfl|rfl|rfl|rfl|rfl|rfl|rfl|rfl|rfl
  ·have S:wr.cell? ⟨w.1.size,6,J⟩=O (I Q (b 0 0)):=bh v 6 _ rfl;clear v;by_cases d:-1<=b 0 0/\b 0 0<=7
   ·have D:¬b 0 0 < -1:=om;have p:¬7<b 0 0:=om
    have A:H (∀i,i<0+1->-1<=b (i/4) (i%4)/\b (i/4) (i%4)<=7):=λi T=>by
     by_cases C:i=0
     ·subst C;exact d
     exact E.o i om
    clear d;go_wp2;go_roundw
    case rel=>exact⟨1,om,rfl,A.o,F.o⟩
    simp[intOf]
   have u:n=1:=pI.a U.o (af ⟨λh=>d (h.2.2.2 0 0 om om),rfl⟩);subst u;by_cases D:b 0 0 < -1
   ·clear d;go_wp2;go_ret;exact⟨rfl,s.o⟩
   have p:7<b 0 0:=om;clear d;go_wp2;go_ret;exact⟨rfl,s.o⟩
  ·have S:wr.cell? ⟨w.1.size,7,J⟩=O (I Q (b 0 1)):=bh v 7 _ rfl;clear v;by_cases d:-1<=b 0 1/\b 0 1<=7
   ·have D:¬b 0 1 < -1:=om;have p:¬7<b 0 1:=om
    have A:H (∀i,i<1+1->-1<=b (i/4) (i%4)/\b (i/4) (i%4)<=7):=λi T=>by
     by_cases C:i=1
     ·subst C;exact d
     exact E.o i om
    clear d;go_wp2;go_roundw
    case rel=>exact⟨2,om,rfl,A.o,F.o⟩
    simp[intOf]
   have u:n=1:=pI.a U.o (af ⟨λh=>d (h.2.2.2 0 1 om om),rfl⟩);subst u;by_cases D:b 0 1 < -1
   ·clear d;go_wp2;go_ret;exact⟨rfl,s.o⟩
   have p:7<b 0 1:=om;clear d;go_wp2;go_ret;exact⟨rfl,s.o⟩
  ·have S:wr.cell? ⟨w.1.size,8,J⟩=O (I Q (b 0 2)):=bh v 8 _ rfl;clear v;by_cases d:-1<=b 0 2/\b 0 2<=7
   ·have D:¬b 0 2 < -1:=om;have p:¬7<b 0 2:=om
    have A:H (∀i,i<2+1->-1<=b (i/4) (i%4)/\b (i/4) (i%4)<=7):=λi T=>by
     by_cases C:i=2
     ·subst C;exact d
     exact E.o i om
    clear d;go_wp2;go_roundw
    case rel=>exact⟨3,om,rfl,A.o,F.o⟩
    simp[intOf]
   have u:n=1:=pI.a U.o (af ⟨λh=>d (h.2.2.2 0 2 om om),rfl⟩);subst u;by_cases D:b 0 2 < -1
   ·clear d;go_wp2;go_ret;exact⟨rfl,s.o⟩
   have p:7<b 0 2:=om;clear d;go_wp2;go_ret;exact⟨rfl,s.o⟩
  ·have S:wr.cell? ⟨w.1.size,9,J⟩=O (I Q (b 0 3)):=bh v 9 _ rfl;clear v;by_cases d:-1<=b 0 3/\b 0 3<=7
   ·have D:¬b 0 3 < -1:=om;have p:¬7<b 0 3:=om
    have A:H (∀i,i<3+1->-1<=b (i/4) (i%4)/\b (i/4) (i%4)<=7):=λi T=>by
     by_cases C:i=3
     ·subst C;exact d
     exact E.o i om
    clear d;go_wp2;go_roundw
    case rel=>exact⟨4,om,rfl,A.o,F.o⟩
    simp[intOf]
   have u:n=1:=pI.a U.o (af ⟨λh=>d (h.2.2.2 0 3 om om),rfl⟩);subst u;by_cases D:b 0 3 < -1
   ·clear d;go_wp2;go_ret;exact⟨rfl,s.o⟩
   have p:7<b 0 3:=om;clear d;go_wp2;go_ret;exact⟨rfl,s.o⟩
  ·have S:wr.cell? ⟨w.1.size,10,J⟩=O (I Q (b 1 0)):=bh v 10 _ rfl;clear v;by_cases d:-1<=b 1 0/\b 1 0<=7
   ·have D:¬b 1 0 < -1:=om;have p:¬7<b 1 0:=om
    have A:H (∀i,i<4+1->-1<=b (i/4) (i%4)/\b (i/4) (i%4)<=7):=λi T=>by
     by_cases C:i=4
     ·subst C;exact d
     exact E.o i om
    clear d;go_wp2;go_roundw
    case rel=>exact⟨5,om,rfl,A.o,F.o⟩
    simp[intOf]
   have u:n=1:=pI.a U.o (af ⟨λh=>d (h.2.2.2 1 0 om om),rfl⟩);subst u;by_cases D:b 1 0 < -1
   ·clear d;go_wp2;go_ret;exact⟨rfl,s.o⟩
   have p:7<b 1 0:=om;clear d;go_wp2;go_ret;exact⟨rfl,s.o⟩
  ·have S:wr.cell? ⟨w.1.size,11,J⟩=O (I Q (b 1 1)):=bh v 11 _ rfl;clear v;by_cases d:-1<=b 1 1/\b 1 1<=7
   ·have D:¬b 1 1 < -1:=om;have p:¬7<b 1 1:=om
    have A:H (∀i,i<5+1->-1<=b (i/4) (i%4)/\b (i/4) (i%4)<=7):=λi T=>by
     by_cases C:i=5
     ·subst C;exact d
     exact E.o i om
    clear d;go_wp2;go_roundw
    case rel=>exact⟨6,om,rfl,A.o,F.o⟩
    simp[intOf]
   have u:n=1:=pI.a U.o (af ⟨λh=>d (h.2.2.2 1 1 om om),rfl⟩);subst u;by_cases D:b 1 1 < -1
   ·clear d;go_wp2;go_ret;exact⟨rfl,s.o⟩
   have p:7<b 1 1:=om;clear d;go_wp2;go_ret;exact⟨rfl,s.o⟩
  ·have S:wr.cell? ⟨w.1.size,12,J⟩=O (I Q (b 1 2)):=bh v 12 _ rfl;clear v;by_cases d:-1<=b 1 2/\b 1 2<=7
   ·have D:¬b 1 2 < -1:=om;have p:¬7<b 1 2:=om
    have A:H (∀i,i<6+1->-1<=b (i/4) (i%4)/\b (i/4) (i%4)<=7):=λi T=>by
     by_cases C:i=6
     ·subst C;exact d
     exact E.o i om
    clear d;go_wp2;go_roundw
    case rel=>exact⟨7,om,rfl,A.o,F.o⟩
    simp[intOf]
   have u:n=1:=pI.a U.o (af ⟨λh=>d (h.2.2.2 1 2 om om),rfl⟩);subst u;by_cases D:b 1 2 < -1
   ·clear d;go_wp2;go_ret;exact⟨rfl,s.o⟩
   have p:7<b 1 2:=om;clear d;go_wp2;go_ret;exact⟨rfl,s.o⟩
  ·have S:wr.cell? ⟨w.1.size,13,J⟩=O (I Q (b 1 3)):=bh v 13 _ rfl;clear v;by_cases d:-1<=b 1 3/\b 1 3<=7
   ·have D:¬b 1 3 < -1:=om;have p:¬7<b 1 3:=om
    have A:H (∀i,i<7+1->-1<=b (i/4) (i%4)/\b (i/4) (i%4)<=7):=λi T=>by
     by_cases C:i=7
     ·subst C;exact d
     exact E.o i om
    clear d;go_wp2;go_roundw
    case rel=>exact⟨8,om,rfl,A.o,F.o⟩
    simp[intOf]
   have u:n=1:=pI.a U.o (af ⟨λh=>d (h.2.2.2 1 3 om om),rfl⟩);subst u;by_cases D:b 1 3 < -1
   ·clear d;go_wp2;go_ret;exact⟨rfl,s.o⟩
   have p:7<b 1 3:=om;clear d;go_wp2;go_ret;exact⟨rfl,s.o⟩
  ·have S:wr.cell? ⟨w.1.size,14,J⟩=O (I Q (b 2 0)):=bh v 14 _ rfl;clear v;by_cases d:-1<=b 2 0/\b 2 0<=7
   ·have D:¬b 2 0 < -1:=om;have p:¬7<b 2 0:=om
    have A:H (∀i,i<8+1->-1<=b (i/4) (i%4)/\b (i/4) (i%4)<=7):=λi T=>by
     by_cases C:i=8
     ·subst C;exact d
     exact E.o i om
    clear d;go_wp2;go_roundw
    case rel=>exact⟨9,om,rfl,A.o,F.o⟩
    simp[intOf]
   have u:n=1:=pI.a U.o (af ⟨λh=>d (h.2.2.2 2 0 om om),rfl⟩);subst u;by_cases D:b 2 0 < -1
   ·clear d;go_wp2;go_ret;exact⟨rfl,s.o⟩
   have p:7<b 2 0:=om;clear d;go_wp2;go_ret;exact⟨rfl,s.o⟩
  ·have S:wr.cell? ⟨w.1.size,15,J⟩=O (I Q (b 2 1)):=bh v 15 _ rfl;clear v;by_cases d:-1<=b 2 1/\b 2 1<=7
   ·have D:¬b 2 1 < -1:=om;have p:¬7<b 2 1:=om
    have A:H (∀i,i<9+1->-1<=b (i/4) (i%4)/\b (i/4) (i%4)<=7):=λi T=>by
     by_cases C:i=9
     ·subst C;exact d
     exact E.o i om
    clear d;go_wp2;go_roundw
    case rel=>exact⟨10,om,rfl,A.o,F.o⟩
    simp[intOf]
   have u:n=1:=pI.a U.o (af ⟨λh=>d (h.2.2.2 2 1 om om),rfl⟩);subst u;by_cases D:b 2 1 < -1
   ·clear d;go_wp2;go_ret;exact⟨rfl,s.o⟩
   have p:7<b 2 1:=om;clear d;go_wp2;go_ret;exact⟨rfl,s.o⟩
  ·have S:wr.cell? ⟨w.1.size,16,J⟩=O (I Q (b 2 2)):=bh v 16 _ rfl;clear v;by_cases d:-1<=b 2 2/\b 2 2<=7
   ·have D:¬b 2 2 < -1:=om;have p:¬7<b 2 2:=om
    have A:H (∀i,i<10+1->-1<=b (i/4) (i%4)/\b (i/4) (i%4)<=7):=λi T=>by
     by_cases C:i=10
     ·subst C;exact d
     exact E.o i om
    clear d;go_wp2;go_roundw
    case rel=>exact⟨11,om,rfl,A.o,F.o⟩
    simp[intOf]
   have u:n=1:=pI.a U.o (af ⟨λh=>d (h.2.2.2 2 2 om om),rfl⟩);subst u;by_cases D:b 2 2 < -1
   ·clear d;go_wp2;go_ret;exact⟨rfl,s.o⟩
   have p:7<b 2 2:=om;clear d;go_wp2;go_ret;exact⟨rfl,s.o⟩
  ·have S:wr.cell? ⟨w.1.size,17,J⟩=O (I Q (b 2 3)):=bh v 17 _ rfl;clear v;by_cases d:-1<=b 2 3/\b 2 3<=7
   ·have D:¬b 2 3 < -1:=om;have p:¬7<b 2 3:=om
    have A:H (∀i,i<11+1->-1<=b (i/4) (i%4)/\b (i/4) (i%4)<=7):=λi T=>by
     by_cases C:i=11
     ·subst C;exact d
     exact E.o i om
    clear d;go_wp2;go_roundw
    case rel=>exact⟨12,om,rfl,A.o,F.o⟩
    simp[intOf]
   have u:n=1:=pI.a U.o (af ⟨λh=>d (h.2.2.2 2 3 om om),rfl⟩);subst u;by_cases D:b 2 3 < -1
   ·clear d;go_wp2;go_ret;exact⟨rfl,s.o⟩
   have p:7<b 2 3:=om;clear d;go_wp2;go_ret;exact⟨rfl,s.o⟩
  ·have S:wr.cell? ⟨w.1.size,18,J⟩=O (I Q (b 3 0)):=bh v 18 _ rfl;clear v;by_cases d:-1<=b 3 0/\b 3 0<=7
   ·have D:¬b 3 0 < -1:=om;have p:¬7<b 3 0:=om
    have A:H (∀i,i<12+1->-1<=b (i/4) (i%4)/\b (i/4) (i%4)<=7):=λi T=>by
     by_cases C:i=12
     ·subst C;exact d
     exact E.o i om
    clear d;go_wp2;go_roundw
    case rel=>exact⟨13,om,rfl,A.o,F.o⟩
    simp[intOf]
   have u:n=1:=pI.a U.o (af ⟨λh=>d (h.2.2.2 3 0 om om),rfl⟩);subst u;by_cases D:b 3 0 < -1
   ·clear d;go_wp2;go_ret;exact⟨rfl,s.o⟩
   have p:7<b 3 0:=om;clear d;go_wp2;go_ret;exact⟨rfl,s.o⟩
  ·have S:wr.cell? ⟨w.1.size,19,J⟩=O (I Q (b 3 1)):=bh v 19 _ rfl;clear v;by_cases d:-1<=b 3 1/\b 3 1<=7
   ·have D:¬b 3 1 < -1:=om;have p:¬7<b 3 1:=om
    have A:H (∀i,i<13+1->-1<=b (i/4) (i%4)/\b (i/4) (i%4)<=7):=λi T=>by
     by_cases C:i=13
     ·subst C;exact d
     exact E.o i om
    clear d;go_wp2;go_roundw
    case rel=>exact⟨14,om,rfl,A.o,F.o⟩
    simp[intOf]
   have u:n=1:=pI.a U.o (af ⟨λh=>d (h.2.2.2 3 1 om om),rfl⟩);subst u;by_cases D:b 3 1 < -1
   ·clear d;go_wp2;go_ret;exact⟨rfl,s.o⟩
   have p:7<b 3 1:=om;clear d;go_wp2;go_ret;exact⟨rfl,s.o⟩
  ·have S:wr.cell? ⟨w.1.size,20,J⟩=O (I Q (b 3 2)):=bh v 20 _ rfl;clear v;by_cases d:-1<=b 3 2/\b 3 2<=7
   ·have D:¬b 3 2 < -1:=om;have p:¬7<b 3 2:=om
    have A:H (∀i,i<14+1->-1<=b (i/4) (i%4)/\b (i/4) (i%4)<=7):=λi T=>by
     by_cases C:i=14
     ·subst C;exact d
     exact E.o i om
    clear d;go_wp2;go_roundw
    case rel=>exact⟨15,om,rfl,A.o,F.o⟩
    simp[intOf]
   have u:n=1:=pI.a U.o (af ⟨λh=>d (h.2.2.2 3 2 om om),rfl⟩);subst u;by_cases D:b 3 2 < -1
   ·clear d;go_wp2;go_ret;exact⟨rfl,s.o⟩
   have p:7<b 3 2:=om;clear d;go_wp2;go_ret;exact⟨rfl,s.o⟩
  have S:wr.cell? ⟨w.1.size,21,J⟩=O (I Q (b 3 3)):=bh v 21 _ rfl;clear v;by_cases d:-1<=b 3 3/\b 3 3<=7
  ·have D:¬b 3 3 < -1:=om;have p:¬7<b 3 3:=om
   have A:H (∀i,i<15+1->-1<=b (i/4) (i%4)/\b (i/4) (i%4)<=7):=λi T=>by
    by_cases C:i=15
    ·subst C;exact d
    exact E.o i om
   clear d;go_wp2;go_roundw
   case rel=>exact⟨16,om,rfl,A.o,F.o⟩
   simp[intOf]
  have u:n=1:=pI.a U.o (af ⟨λh=>d (h.2.2.2 3 3 om om),rfl⟩);subst u;by_cases D:b 3 3 < -1
  ·clear d;go_wp2;go_ret;exact⟨rfl,s.o⟩
  have p:7<b 3 3:=om;clear d;go_wp2;go_ret;exact⟨rfl,s.o⟩
 have hI:¬(j:Int)<16:=om;have HPO:H (sR b):=λr a hr ha=>by have h1:=E.o (r*4+a) om;rw[show (r*4+a)/4=r by omega,show (r*4+a)%4=a by omega]at h1;exact h1
 have HCK:H (lz rs n):=by
  rcases U.o with ⟨h1,_⟩|⟨_,h2⟩
  ·exact absurd ⟨HX.o.1,HX.o.2.1,HX.o.2.2,HPO.o⟩ h1
  exact h2
 clear v;by_cases h6:6<m
 case pos=>have e2:n=2:=lz.a HCK.o (af ⟨by rw[<-HM.o];exact h6,rfl⟩);subst e2;have h6I:(6:Int)<m:=om;go_wp2;go_ret;exact⟨rfl,s.o⟩
 have h6I:¬(6:Int)<m:=om;go_wp2;go_loopw [6] (λi V=>∃j:Nat,j<=m/\i=I Q (j:Int)/\(∀i,i<j->oC rs i)/\B w.1.size w V) (λi _=>m-(intOf i).toNat)
 case atStart=>exact⟨0,om,rfl,λi T=>by omega,s.o⟩
 obtain⟨i,T,rfl,a7,L⟩:=hrel;have a0:H (∀k,k<i->oC rs k):=a7;have HB1:H (B w.1.size w wr):=L;by_cases him:i<m
 case neg=>have hII:¬(i:Int)<m:=om;have e0:n=0:=lz.a HCK.o (ah ⟨by have:=HM.o;omega,af ⟨λk hk=>a0.o k (by have:=HM.o;omega),rfl⟩⟩);subst e0;clear a7 L;go_wp2;go_ret;exact⟨rfl,HB1.o⟩
 have hII:(i:Int)<m:=om;have hi':i<rs.length:=(by rw[<-HM.o];exact him);have hne:rs≠[]:=λe=>(by rw[e]at hi';simp at hi');obtain⟨g,o,rfl,hg,hc'⟩:=(HR.o.c L).a hne;have hri:=bc hi';obtain⟨S,k1,k2,k3,k4,k5⟩:=hc' i _ hri;have hsz:=HS.o _ (eG hi');have HRI:H (rs[i]?=O rs[i]):=hri;have HCC:H (∀k r,rs[k]?=O r->wr.cell? ⟨g,o+k*6,J⟩=O (Z r.a)):=λk r hk=>(hc' k r hk).1;generalize rs[i]=r at *;obtain⟨f,hf⟩:=A5 r;have HF:H (r.i f):=hf;have HRF:H (∀V,Φ prog 25 #[aL r] V λe w'=>e=N (I Q (f:Int))/\B V.1.size V w'):=λV=>wS r V hsz hf;clear a7 L hc' hri hf;obtain⟨rn,rk,rf,rt,rw_,ri⟩:=r;unfold aL at HRF;simp only at S k1 k2 k3 k4 k5 HRF;go_wp2_with fail;refine(HRF.o _).m ?_;rintro e w2 ⟨rfl,p⟩;have a8:H (B w.1.size w w2):=HB1.o.t (p.m HB1.o.size);have HC2:H (∀V,B w2.1.size w2 V->∀k r,rs[k]?=O r->V.cell? ⟨g,o+k*6,J⟩=O (Z r.a)):=λV hV k r hk=>(by rw[bW (w:=w2) (hV.block g (bg hg p.size)),bW (w:=wr) (p.block g hg)];exact HCC.o k r hk);clear p S k1 k2 k3 k4 k5;by_cases hf0:f=0
 case neg=>have hfp:(0:Int)<f:=om;have hnok:¬(aq.mk rn rk rf rt rw_ ri).h:=λh=>hf0 ((mO HF.o).2 h);have enm:n=f:=lz.a HCK.o (ah ⟨by have:=HM.o;omega,ah ⟨i,_,HRI.o,a0.o,af ⟨hnok,HF.o,hf0⟩⟩⟩);subst enm;clear hnok hf0;go_wp2;go_ret;exact⟨rfl,a8.o⟩
 subst hf0;have HOK:H ((aq.mk rn rk rf rt rw_ ri).h):=(mO HF.o).1 rfl;go_wp2;go_loopw [8] (λx V=>∃k:Nat,k<=i/\x=I Q (k:Int)/\(∀y,y∈rs.take k->y.a≠rn)/\B w2.1.size w2 V) (λx _=>i-(intOf x).toNat)
 case atStart=>exact⟨0,om,rfl,λy hy=>by simp at hy,aj _ _⟩
 obtain⟨k,hk,rfl,hnm,L⟩:=hrel;have HNM:H (∀y,y∈rs.take k->y.a≠rn):=hnm;have a6:H (B w2.1.size w2 wr):=L;clear hnm L;by_cases hki:k<i
 case neg=>
  obtain rfl:k=i:=om;have hKI:¬(k:Int)<k:=om
  have HF2:H (∀x,x<k+1->oC rs x):=λx hx=>by
   by_cases hxk:x=k
   ·intro r hr;rw[hxk,HRI.o]at hr;cases hr;rw[hxk];exact⟨HOK.o,λy h1=>HNM.o y h1⟩
   exact a0.o x om
  have HB4:H (B w.1.size w wr):=a8.o.t (a6.o.m a8.o.size);go_wp2;go_roundw
  case rel=>exact⟨k+1,om,by go_num,HF2.o,HB4.o⟩
  simp[intOf];omega
 have hKI:(k:Int)<i:=om;have hkl:k<rs.length:=om;have hkm:(k:Int)<m:=om;have hrk:=bc hkl;have d0:=HC2.o _ a6.o k _ hrk;have d1:=HC2.o _ a6.o i _ HRI.o;have HTK:H (rs.take (k+1)=rs.take k++[rs[k]]):=iA hkl;have HRK:H (rs[k]∈rs.take i):=(by refine List.mem_iff_getElem?.2 ⟨k,?_⟩;rw[List.getElem?_take,ak hki];exact hrk);simp only at d1;generalize rs[k]=y at *;clear hrk;have HB4:H (B w.1.size w wr.drew):=(a8.o.t (a6.o.m a8.o.size)).drew;by_cases a5:y.a=rn
 ·have hye:=pd a5;have e7:n=7:=lz.a HCK.o (ah ⟨by have:=HM.o;omega,ah ⟨i,_,HRI.o,a0.o,ah ⟨HOK.o,⟨y,HRK.o,a5⟩,rfl⟩⟩⟩);subst e7;clear a5;go_wp2;go_region
  all_goals
   go_wp2;go_ret;exact⟨rfl,HB4.o⟩
 have hye:=o9 a5
 have A:H (∀z,z∈rs.take (k+1)->z.a≠rn):=λz hz=>by
  rw[HTK.o]at hz;rcases dP.1 hz with h1|h1
  ·exact HNM.o z h1
  simp at h1;subst h1;exact a5
 clear a5;go_wp2;go_region
 all_goals
  go_wp2;go_roundw
  case rel=>exact⟨k+1,om,by go_num,A.o,a6.o.drew⟩
  simp[intOf];omega
end
end Go.Proofs.YtlaodjjfmhipnaaGreatDoor
