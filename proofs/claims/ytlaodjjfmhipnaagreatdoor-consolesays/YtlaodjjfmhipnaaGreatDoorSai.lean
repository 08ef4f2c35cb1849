/-
  Part of it.
-/
import Derived.Test.YtlaodjjfmhipnaaGreatDoorSac
set_option maxRecDepth 100000
set_option maxHeartbeats 8000000
set_option linter.all false
namespace Go.Proofs.YtlaodjjfmhipnaaGreatDoor
open Go.Proofs.Tryz
open Value renaming int→I,string→Z,pointer→Y,slice→M,tuple→Ψ
open Ending renaming returned→N
open Obj renaming cells→Δ
open Go renaming World→Ω,Calls→Φ
open IntKind renaming i64→Q
open Option renaming some→O,none→J
open RowKit renaming Below→B,Hid→H
section
open Go.RowKit
section
variable (r:aq)(w:Ω)
theorem wS(hs:r.a.size<=9223372036854775807){n:Nat}(U:r.i n):
  Φ prog 25 #[aL r] w λe w'=>e=N (I Q (n:Int))/\B w.1.size w w':=by
 have v:=E3 r;obtain⟨f,K,F,T,b,d⟩:=r;simp only at hs v;unfold aL;simp only;have u:H (¬kt f.1.toList->n=4):=λh=>qh U (af ⟨h,rfl⟩);have V:H (kt f.1.toList->¬(aq.mk f K F T b d).j->n=1):=λp h=>qh U (ah (af ⟨p,h,rfl⟩));have P:H (kt f.1.toList->(aq.mk f K F T b d).j->¬(F≠T/\F≠b/\T≠b)->n=3):=λp h h'=>qh U (ah (ah (af ⟨p,h,h',rfl⟩)));have W:H (kt f.1.toList->(aq.mk f K F T b d).j->(F≠T/\F≠b/\T≠b)->n=0):=λp h h'=>qh U (ah (ah (ah ⟨⟨p,h,h'⟩,rfl⟩)));have m:H ((aq.mk f K F T b d).j↔fD K 0 3=true/\fD F 0 7=true/\fD T 0 7=true/\fD b (-1) 7=true/\fD d 1 50=true):=v;clear U v;have y:B w.1.size w (w.alloc (Δ #[Z f,I Q K,I Q F,I Q T,I Q b,I Q d] 65)):=ba;have l:H _:=y;clear y;by_cases h1:f.size<1
 case pos=>
  have q:n=4:=u.o (λh=>by have s:=h.1;rw[vh]at s;omega);subst q;have E:(f.size:Int)<1:=om;have h1D:decide ((f.size:Int)<1)=true:=by simpa using E
  go_enter func25,ntmps25;go_wp2;go_ret;exact⟨rfl,l.o⟩
 have E:¬(f.size:Int)<1:=om;have h1D:decide ((f.size:Int)<1)=false:=by simpa using E
 by_cases s:12<f.size
 case pos=>
  have q:n=4:=u.o (λh=>by have s:=h.2.1;rw[vh]at s;omega);subst q;have A:(12:Int)<f.size:=om;have h2D:decide ((12:Int)<f.size)=true:=by simpa using A
  go_enter func25,ntmps25;go_wp2;go_ret;exact⟨rfl,l.o⟩
 have A:¬(12:Int)<f.size:=om;have h2D:decide ((12:Int)<f.size)=false:=by simpa using A
 go_enter func25,ntmps25;go_wp2;go_loop [3] (λi=>∃k:Nat,k<=f.size/\i=I Q k/\ox f k) (λi=>f.size-(intOf i).toNat)
 case atStart=>exact⟨0,aX _,rfl,λc hc=>by simp at hc⟩
 obtain⟨k,hk,rfl,z⟩:=hrel;have HL:H (ox f k):=z;clear z;by_cases G:k<f.size
 case pos=>
  have hkI:(k:Int)<f.size:=om;have hb:=f[k].toNat_lt;by_cases c1:f[k].toNat<97
  ·have C:(f[k].toNat:Int)<97:=om;have c1D:decide ((f[k].toNat:Int)<97)=true:=(by simpa using C);have q:n=4:=u.o (λh=>xk G (λh=>by unfold mr at h;omega) h.2.2);subst q;go_wp2;go_ret;exact⟨rfl,l.o⟩
  have C:¬(f[k].toNat:Int)<97:=om;have c1D:decide ((f[k].toNat:Int)<97)=false:=(by simpa using C);by_cases c2:122<f[k].toNat
  ·have D:122<(f[k].toNat:Int):=om;have c2D:decide (122<(f[k].toNat:Int))=true:=(by simpa using D);have q:n=4:=u.o (λh=>xk G (λh=>by unfold mr at h;omega) h.2.2);subst q;go_wp2;go_ret;exact⟨rfl,l.o⟩
  have D:¬122<(f[k].toNat:Int):=om;have c2D:decide (122<(f[k].toNat:Int))=false:=(by simpa using D);have HL2:H (ox f (k+1)):=(D2 G).2 ⟨HL.o,by unfold mr;omega⟩;go_wp2;go_round
  case rel=>exact⟨k+1,om,by go_num,HL2.o⟩
  simp[intOf];omega
 obtain rfl:k=f.size:=om;have p:kt f.1.toList:=(by unfold kt;rw[vh];exact⟨om,om,E4.1 HL.o⟩);have t:H (¬(aq.mk f K F T b d).j->n=1):=V.o p;have G3:H ((aq.mk f K F T b d).j->¬(F≠T/\F≠b/\T≠b)->n=3):=P.o p;have G0:H ((aq.mk f K F T b d).j->(F≠T/\F≠b/\T≠b)->n=0):=W.o p;clear p V P W u HL;by_cases l0:K<0
 case pos=>have g:n=1:=t.o (λh=>by have s:=jO.1 (m.o.1 h).1;omega);subst g;have X:decide (K<0)=true:=(by simpa using l0);go_wp2;go_ret;exact⟨rfl,l.o⟩
 have X:decide (K<0)=false:=(by simpa using l0);by_cases u0:3<K
 case pos=>have g:n=1:=t.o (λh=>by have s:=jO.1 (m.o.1 h).1;omega);subst g;have u0D:decide (3<K)=true:=(by simpa using u0);go_wp2;go_ret;exact⟨rfl,l.o⟩
 have u0D:decide (3<K)=false:=(by simpa using u0);by_cases l1:F<0
 case pos=>have g:n=1:=t.o (λh=>by have s:=jO.1 (m.o.1 h).2.1;omega);subst g;have l1D:decide (F<0)=true:=(by simpa using l1);go_wp2;go_ret;exact⟨rfl,l.o⟩
 have l1D:decide (F<0)=false:=(by simpa using l1);by_cases u1:7<F
 case pos=>have g:n=1:=t.o (λh=>by have s:=jO.1 (m.o.1 h).2.1;omega);subst g;have u1D:decide (7<F)=true:=(by simpa using u1);go_wp2;go_ret;exact⟨rfl,l.o⟩
 have u1D:decide (7<F)=false:=(by simpa using u1);by_cases l2:T<0
 case pos=>have g:n=1:=t.o (λh=>by have s:=jO.1 (m.o.1 h).2.2.1;omega);subst g;have l2D:decide (T<0)=true:=(by simpa using l2);go_wp2;go_ret;exact⟨rfl,l.o⟩
 have l2D:decide (T<0)=false:=(by simpa using l2);by_cases u2:7<T
 case pos=>have g:n=1:=t.o (λh=>by have s:=jO.1 (m.o.1 h).2.2.1;omega);subst g;have u2D:decide (7<T)=true:=(by simpa using u2);go_wp2;go_ret;exact⟨rfl,l.o⟩
 have u2D:decide (7<T)=false:=(by simpa using u2);by_cases l3:b<(-1)
 case pos=>have g:n=1:=t.o (λh=>by have s:=jO.1 (m.o.1 h).2.2.2.1;omega);subst g;have l3D:decide (b<(-1:Int))=true:=(by simpa using l3);go_wp2;go_ret;exact⟨rfl,l.o⟩
 have l3D:decide (b<(-1:Int))=false:=(by simpa using l3);by_cases u3:7<b
 case pos=>have g:n=1:=t.o (λh=>by have s:=jO.1 (m.o.1 h).2.2.2.1;omega);subst g;have u3D:decide (7<b)=true:=(by simpa using u3);go_wp2;go_ret;exact⟨rfl,l.o⟩
 have u3D:decide (7<b)=false:=(by simpa using u3);by_cases l4:d<1
 case pos=>have g:n=1:=t.o (λh=>by have s:=jO.1 (m.o.1 h).2.2.2.2;omega);subst g;have l4D:decide (d<1)=true:=(by simpa using l4);go_wp2;go_ret;exact⟨rfl,l.o⟩
 have l4D:decide (d<1)=false:=(by simpa using l4);by_cases u4:50<d
 case pos=>have g:n=1:=t.o (λh=>by have s:=jO.1 (m.o.1 h).2.2.2.2;omega);subst g;have u4D:decide (50<d)=true:=(by simpa using u4);go_wp2;go_ret;exact⟨rfl,l.o⟩
 have u4D:decide (50<d)=false:=(by simpa using u4);have hB:(aq.mk f K F T b d).j:=m.o.2 ⟨jO.2 om,jO.2 om,jO.2 om,jO.2 om,jO.2 om⟩;have J3:H (¬(F≠T/\F≠b/\T≠b)->n=3):=G3.o hB;have J0:H ((F≠T/\F≠b/\T≠b)->n=0):=G0.o hB;clear hB t G3 G0 m;by_cases L:F=T
 case pos=>have x:n=3:=J3.o (λh=>absurd L h.1);subst x;have e0':(F == T)=true:=(by simpa using L);clear L;go_wp2;go_ret;exact⟨rfl,l.o⟩
 have e0':(F == T)=false:=(by simpa using L);by_cases R:F=b
 case pos=>have x:n=3:=J3.o (λh=>absurd R h.2.1);subst x;have a0:(F == b)=true:=(by simpa using R);clear R;go_wp2;go_ret;exact⟨rfl,l.o⟩
 have a0:(F == b)=false:=(by simpa using R);by_cases S:T=b
 case pos=>have x:n=3:=J3.o (λh=>absurd S h.2.2);subst x;have e2':(T == b)=true:=(by simpa using S);clear S;go_wp2;go_ret;exact⟨rfl,l.o⟩
 have e2':(T == b)=false:=(by simpa using S);have hn0:n=0:=J0.o ⟨L,R,S⟩;subst hn0;go_wp2;go_ret;exact⟨rfl,l.o⟩
end
end
end Go.Proofs.YtlaodjjfmhipnaaGreatDoor
