/-
  Part of it.
-/
import Derived.Test.YtlaodjjfmhipnaaGreatDoorSag
import Derived.Test.YtlaodjjfmhipnaaGreatDoorSad
set_option maxRecDepth 100000
set_option maxHeartbeats 8000000
set_option linter.all false
namespace Go.Proofs.YtlaodjjfmhipnaaGreatDoor
open Go.Proofs.Tryz
open Value renaming int→I,string→Z,pointer→Y,slice→M,tuple→Ψ
open Ending renaming returned→N
open Obj renaming cells→Δ
open Go renaming World→Ω,Calls→Φ
open IntKind renaming i64→Q
open Option renaming some→O,none→J
open RowKit renaming Below→B,Hid→H
section
open Go.RowKit
theorem Ob(a b:List UInt8):(Lib.trimSuffix a b).length<=a.length:=by
 unfold Lib.trimSuffix;split
 ·simp only[fj];omega
 exact aa _
theorem N9(l:List UInt8):(mh l).a.size<=l.length:=by
 have h:(mh l).a=ae (Lib.trimSuffix (ct l) [58]):=by unfold mh;split<;>rfl
 rw[h,aV];exact aP (Ob _ _) (AX l)
theorem Ma(s:ByteArray)(w:Ω)(c:s.size<=281474976710656):
  Φ prog 94 #[Z s] w λe b=>e=N (Z s)/\B w.1.size w b:=by
 go_enter func94,ntmps94;go_wp2_with fail;refine(stringslite_Clone s w c).m ?_;rintro e f ⟨rfl,a⟩;have d:=hid a;go_wp2;go_ret;exact⟨rfl,d.o⟩
def eK:aq:=⟨⟨#[]⟩,0,0,0,0,0⟩
def sE:Value:=Ψ #[aL eK,.iface 57 (I Q 4)]
structure BI (w V:Ω) (b:Nat) (c:aq):Prop where
 f:aT V
 d:B w.1.size w V
 a:ed V w.1.size (Z ⟨#[]⟩) (I Q 0) (I Q 0) (I Q 0) (I Q 0) (I Q 0)
 c:ed V b (Z c.a) (I Q c.e) (I Q c.c) (I Q c.g) (I Q c.b) (I Q c.d)
 g:w.1.size<b
theorem BI.e{w V V':Ω}{b:Nat}{r:aq}(h:BI w V b r)(i:B V.1.size V V'):BI w V' b r:=
 ⟨h.f.a i,h.d.t (i.m h.d.size),h.a.p (i.block _ h.a.o) i.size,h.c.p (i.block _ h.c.o) i.size,h.g⟩
theorem F4{w f:Ω}(r:aq)(u:aT w)(k:B (w.alloc (Δ #[Z ⟨#[]⟩,I Q 0,I Q 0,I Q 0,I Q 0,I Q 0] 65)).1.size (w.alloc (Δ #[Z ⟨#[]⟩,I Q 0,I Q 0,I Q 0,I Q 0,I Q 0] 65)) f):
  BI w (f.alloc (Δ #[Z r.a,I Q r.e,I Q r.c,I Q r.g,I Q r.b,I Q r.d] 65)) f.1.size r:=by
 have q:B w.1.size w (w.alloc (Δ #[Z ⟨#[]⟩,I Q 0,I Q 0,I Q 0,I Q 0,I Q 0] 65)):=(aj _ w).l nl _
 have c:ed (w.alloc (Δ #[Z ⟨#[]⟩,I Q 0,I Q 0,I Q 0,I Q 0,I Q 0] 65)) w.1.size (Z ⟨#[]⟩) (I Q 0) (I Q 0) (I Q 0) (I Q 0) (I Q 0):=by
  refine⟨?_,?_,?_,?_,?_,?_,?_,?_⟩
  all_goals first|go_simp|(intro i;go_simp)
 have j:B w.1.size w f:=q.t (k.m q.size);have h:B f.1.size f (f.alloc (Δ #[Z r.a,I Q r.e,I Q r.c,I Q r.g,I Q r.b,I Q r.d] 65)):=(aj _ f).l nl _;have n:=c.p (k.block _ c.o) k.size
 have s:ed (f.alloc (Δ #[Z r.a,I Q r.e,I Q r.c,I Q r.g,I Q r.b,I Q r.d] 65)) f.1.size (Z r.a) (I Q r.e) (I Q r.c) (I Q r.g) (I Q r.b) (I Q r.d):=by
  refine⟨?_,?_,?_,?_,?_,?_,?_,?_⟩
  all_goals first|go_simp|(intro i;go_simp)
 exact⟨(u.a j).a h,j.t (h.m j.size),n.p (h.block _ n.o) h.size,s,n.o⟩
section
variable (s:ByteArray)(w:Ω)
theorem Oa(T:aT w)(hs:s.size<4294967281)(x:¬∃r,bT s r):
  Φ prog 68 #[Z s] w λe C=>e=N sE/\B w.1.size w C:=by
 obtain⟨g,R⟩:∃g,g=mh s.1.toList:=⟨_,rfl⟩;have hsz:s.1.toList.length=s.size:=by simp
 have D:H (∀V:Ω,aT V->Φ prog 92 #[Z s] V λe C=>e=N (aL g)/\B V.1.size V C):=λV hV=>by have h:=DI s.1.toList V hV om;rw[xE,<-R]at h;exact h
 have hnm:g.a.size<4294967281:=by rw[R];exact nc (N9 _) om
 have K:H (g.h->¬gV g=s):=λh h'=>x ⟨g,h,h'⟩;obtain⟨n,U⟩:=vL g;have HN:=hid U;have HT:=hid T;clear R U x T;go_enter func68,ntmps68;go_wp2_with fail;refine(D.o _ (HT.o.a ba)).m ?_;rintro e W ⟨rfl,q⟩;have S:=hid (F4 g HT.o q);unfold aL;go_wp2_with fail;by_cases y:n=0
 case neg=>have he:lc n=.iface 57 (I Q (n:Int)):=ag y;have t:=PC g (W.alloc (Δ #[Z g.a,I Q g.e,I Q g.c,I Q g.g,I Q g.b,I Q g.d] 65)) om HN.o y;rw[he]at t;unfold aL at t;refine t.m ?_;rintro e w2 ⟨rfl,p⟩;have i:=hid (S.o.e p);have L:=i.o.a.m;have P:=i.o.a.j;have G:=i.o.a.k;have E:=i.o.a.l;have F:=i.o.a.g;have z:=i.o.a.h;have pf:=i.o.a.n;go_wp2;refine bK (v:=sE) (by simp[results,results68,go_sem,sE,aL,eK,L,P,G,E,F,z]) rfl ⟨rfl,?_⟩;exact(((((i.o.d.c nl _).c nl _).c nl _).c nl _).c nl _).c nl _
 have u:=(mO HN.o).1 y;have t:=D4 g (W.alloc (Δ #[Z g.a,I Q g.e,I Q g.c,I Q g.g,I Q g.b,I Q g.d] 65)) S.o.f u;unfold aL at t;refine t.m ?_;have A:=K.o u;rintro e w2 ⟨rfl,p⟩;have i:=hid (S.o.e p);have L:=i.o.a.m;have P:=i.o.a.j;have G:=i.o.a.k;have E:=i.o.a.l;have F:=i.o.a.g;have z:=i.o.a.h;have pf:=i.o.a.n;generalize gV g=X at *;have q:=pU A;have p:(X.toList != s.toList)=true:=by rw[bne,q];rfl
 go_wp2;refine bK (v:=sE) (by simp[results,results68,go_sem,sE,aL,eK,L,P,G,E,F,z]) rfl ⟨rfl,?_⟩;exact(((((i.o.d.c nl _).c nl _).c nl _).c nl _).c nl _).c nl _
theorem Mb(r:aq)(hT:aT w)(hs:s.size<4294967281)(F:bT s r):
  Φ prog 68 #[Z s] w λe z=>e=N (Ψ #[aL r,.nilIface])/\B w.1.size w z:=by
 have hsz:s.1.toList.length=s.size:=by simp
 have A:H (∀V:Ω,aT V->Φ prog 92 #[Z s] V λe z=>e=N (aL r)/\B V.1.size V z):=λV hV=>by have h:=DI s.1.toList V hV om;rw[xE,yK F]at h;exact h
 have hnm:r.a.size<=12:=by have h:=F.1.1.2.1;simpa using h
 have U:=hid hT;have G:=hid F;go_enter func68,ntmps68;go_wp2_with fail;refine(A.o _ (U.o.a ba)).m ?_;rintro e t ⟨rfl,p⟩;have X:=hid (F4 r U.o p);unfold aL;go_wp2_with fail;have L:=D4 r (t.alloc (Δ #[Z r.a,I Q r.e,I Q r.c,I Q r.g,I Q r.b,I Q r.d] 65)) X.o.f G.o.1;unfold aL at L;refine L.m ?_;rw[G.o.2];rintro e w2 ⟨rfl,y⟩;have x:=hid (X.o.e y);have p:(s.toList == s.toList)=true:=pX rfl;have y:(s.toList != s.toList)=false:=by rw[bne,p];rfl
 have q0:=x.o.c.m;go_wp2_with fail;refine(Ma r.a _ om).m ?_;rintro e E ⟨rfl,D⟩;have i:=hid (x.o.e D);have q0:=i.o.c.m;have q1:=i.o.c.j;have q2:=i.o.c.k;have q3:=i.o.c.l;have q4:=i.o.c.g;have q5:=i.o.c.h;have qf:=i.o.c.n;have T:=i.o.a.m;have W:=i.o.a.j;have S:=i.o.a.k;have P:=i.o.a.l;have R:=i.o.a.g;have K:=i.o.a.h;have pf:=i.o.a.n;have hlt:=i.o.g;go_wp2;have u:H (ed (E.setCell ⟨t.1.size,0,J⟩ (Z r.a)) w.1.size (Z ⟨#[]⟩) (I Q 0) (I Q 0) (I Q 0) (I Q 0) (I Q 0)):=i.o.a.q _ _ (by show w.1.size≠t.1.size;omega);have C:H (B w.1.size w (E.setCell ⟨t.1.size,0,J⟩ (Z r.a))):=i.o.d.c (by show w.1.size<=t.1.size;omega) _;generalize E.setCell ⟨t.1.size,0,J⟩ (Z r.a)=V9 at *;have T:=u.o.m;have W:=u.o.j;have S:=u.o.k;have P:=u.o.l;have R:=u.o.g;have K:=u.o.h;refine bK (v:=Ψ #[aL r,.nilIface]) (by simp[results,results68,go_sem,aL,T,W,S,P,R,K]) rfl ⟨rfl,?_⟩;exact(((((C.o.c nl _).c nl _).c nl _).c nl _).c nl _).c nl _
end
end
end Go.Proofs.YtlaodjjfmhipnaaGreatDoor
