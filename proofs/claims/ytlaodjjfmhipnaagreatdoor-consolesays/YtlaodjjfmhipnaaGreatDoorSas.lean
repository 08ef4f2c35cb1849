/-
  Part of it.
-/
import Derived.Test.YtlaodjjfmhipnaaGreatDoorSao
import Derived.Test.YtlaodjjfmhipnaaGreatDoorSai
import Derived.Test.YtlaodjjfmhipnaaGreatDoorSar
set_option maxRecDepth 100000
set_option maxHeartbeats 8000000
set_option linter.all false
namespace Go.Proofs.YtlaodjjfmhipnaaGreatDoor
open Go.Proofs.Tryz
open Value renaming int→I,string→Z,pointer→Y,slice→M,tuple→Ψ
open Ending renaming returned→N
open Obj renaming cells→Δ
open Go renaming World→Ω,Calls→Φ
open IntKind renaming i64→Q
open Option renaming some→O,none→J
open RowKit renaming Below→B,Hid→H
section
open Go.RowKit
theorem xX(w:Ω)(n:Nat):B w.1.size w (w.drewN n):=kT br n
structure fF (w V:Ω) (rb:Nat) (F:Nat->Prop) (W need q:Nat) (E:List (List ai)) (r:aq):Prop where
 e:ax F w V
 c:aO V rb F W need q E
 a:ed V w.1.size (Z r.a) (I Q r.e) (I Q r.c) (I Q r.g) (I Q r.b) (I Q r.d)
 i:∀b,F b->b<w.1.size
section
variable {w:Ω}{rb:Nat}{F:Nat->Prop}{W need q:Nat}{E:List (List ai)}
theorem fF.h{V V':Ω}{r:aq}(h:fF w V rb F W need q E r)(b:B V.1.size V V'):fF w V' rb F W need q E r:=
 ⟨h.e.a (bH b F),h.c.c b,h.a.p (b.block _ h.a.o) b.size,h.i⟩
theorem fF.g{V V':Ω}{r:aq}{f:Nat}(h:fF w V rb F W need q E r)(k:aO V' rb F W need f E)(d:ax F V V'):fF w V' rb F W need f E r:=
 ⟨h.e.a d,k,h.a.p (d.b _ h.a.o (λj=>by have:=h.i _ j;omega)) d.c,h.i⟩
theorem fF.f{V:Ω}{r:aq}{b:Nat}(h:fF w V rb F W need q E r)(d:q<=b):fF w V rb F W need b E r:=⟨h.e,h.c.a d,h.a,h.i⟩
theorem RL(r:aq)(d:aO w rb F W need q E):fF w (w.alloc (Δ #[Z r.a,I Q r.e,I Q r.c,I Q r.g,I Q r.b,I Q r.d] 65)) rb F W need q E r:=by
 have h:B w.1.size w (w.alloc (Δ #[Z r.a,I Q r.e,I Q r.c,I Q r.g,I Q r.b,I Q r.d] 65)):=(aj _ w).l nl _;refine⟨bH h F,d.c h,⟨?_,?_,?_,?_,?_,?_,?_,?_⟩,λb j=>d.f j⟩
 all_goals first|go_simp|(intro i;go_simp)
theorem FA{g:ByteArray}{ep:Nat->List ai}{W a n:Nat}{t:Bool}{p e:Int}(h:eI g ep W a n t p e=true):(0<=e/\e<(n:Int))/\t=true:=by unfold eI mp at h;rw[jo]at h;have:=Eo h.1;exact⟨this.1,this.2.1⟩
theorem GI{g:ByteArray}{ep:Nat->List ai}{W a n:Nat}{p:Int}{e:Nat}(b:e<n):eT g ep W a n true p (e:Int)=((p != -1)&&(aI g ep W a e == p)):=by unfold eT uK bV;rw[ak ⟨om,om⟩];simp
def kE(g:ByteArray)(ep:Nat->List ai)(W need n:Nat)(t:Bool)(r:aq)(x y:Nat):Prop:=
 eI g ep W need n t r.c (x:Int)=true/\∀z:Int,(x:Int)<z->z<(y:Int)->eT g ep W need n t r.b z=false
theorem C4{g:ByteArray}{ep:Nat->List ai}{W a n:Nat}{t:Bool}{r:aq}{x:Nat}:eI g ep W a n t r.c (x:Int)=true↔kE g ep W a n t r x (x+1):=
 ⟨λh=>⟨h,λz b d=>by omega⟩,λh=>h.1⟩
theorem t9{g:ByteArray}{ep:Nat->List ai}{W a n:Nat}{t:Bool}{r:aq}{x y:Nat}(e:x<y):kE g ep W a n t r x (y+1)↔kE g ep W a n t r x y/\eT g ep W a n t r.b (y:Int)=false:=by
 constructor
 ·intro h;exact⟨⟨h.1,λz f c=>h.2 z f om⟩,h.2 (y:Int) om om⟩
 rintro⟨h,c⟩;refine⟨h.1,λz d j=>?_⟩;by_cases i:z=(y:Int)
 ·rw[i];exact c
 exact h.2 z d om
theorem Kw(r:aq)(g:ByteArray)(e:Int){b:Bool}(d:aO w rb F W need q E)(hW:W<=8)(hg:g.size<=100000)(hq:q<=8000000000000)(he0:-1<=e)(he1:e<=100)(hnm:r.a.size<=9223372036854775807)
   (hb:b=true↔pz g (al E) W need E.length (aG g E) r e):
   Φ prog 54 #[Y (O ⟨rb,0,J⟩),aL r,Z g,I Q e] w λx w'=>x=N (.bool b)/\aO w' rb F W need (q+30000) E/\ax F w w':=by
  have h25:=(kY.1 d.e).1;have HB:H (b=true↔pz g (al E) W need E.length (aG g E) r e):=hb;have HC:H (∀(V:Ω)(q':Nat)(p x:Int),aO V rb F W need q' E->q'<=9000000000000->Φ prog 86 #[Y (O ⟨rb,0,J⟩),Z g,I Q p,I Q x] V λy w'=>y=N (.bool (eI g (al E) W need E.length (aG g E) p x))/\aO w' rb F W need (q'+2) E/\ax F V w'):=λV q' p x hV hq'=>Kc g p x hV hW hg hq';have HA:H (∀(V:Ω)(q' k:Nat),aO V rb F W need q' E->k<E.length->q'<=9000000000000->Φ prog 61 #[Y (O ⟨rb,0,J⟩),Z g,I Q (k:Int)] V λy w'=>y=N (I Q (aI g (al E) W need k))/\aO w' rb F W need (q'+1) E/\ax F V w'):=λV q' k hV hk hq'=>vF g k hV hk hW hg om;have HK:H (∀V:Ω,Φ prog 84 #[Z g] V λy w'=>y=N (I Q (aD g:Int))/\B V.1.size V w'):=λV=>vu g V hg;have HR:H _:=RL r d;obtain⟨m,hm⟩:=vL r;have HFL:H (r.i m):=hm;have HFC:H (∀V:Ω,Φ prog 25 #[.agg #[Z r.a,I Q r.e,I Q r.c,I Q r.g,I Q r.b,I Q r.d]] V λy w'=>y=N (I Q (m:Int))/\B V.1.size V w'):=λV=>wS r V hnm hm;have HEN:H (∀V:Ω,fF w V rb F W need q E r->aO V rb F W need (q+30000) E/\ax F w V):=λV hV=>⟨hV.c.a om,hV.e⟩;clear hb d hm hnm;unfold aL;go_enter func54,ntmps54;go_wp2_with fail;refine(HK.o _).m ?_;rintro y V1 ⟨rfl,hb1⟩;have u:H (fF w V1 rb F W need q E r):=HR.o.h hb1;clear hb1 HR HK;have c0:=u.o.a.m;have c1:=u.o.a.j;have c2:=u.o.a.k;have c3:=u.o.a.l;have c4:=u.o.a.g;have c5:=u.o.a.h;go_wp2_with fail;refine(HFC.o _).m ?_;rintro y V2 ⟨rfl,hb2⟩;have G:H (fF w V2 rb F W need q E r):=u.o.h hb2;clear hb2 u HFC c0 c1 c2 c3 c4 c5;by_cases hok:r.h
  case neg=>
   have S:b=false:=by rw[<-kR,HB.o];exact λh=>hok h.1
   subst S;have hm0:m≠0:=λh=>hok ((mO HFL.o).1 h);have i0:decide ((0:Int)<(m:Int))=true:=by simp;omega
   have i1:(0:Int)<(m:Int):=om;have i2:0<m:=om;clear hok hm0;go_wp2;go_ret;exact⟨rfl,HEN.o _ G.o⟩
  have hm0:m=0:=(mO HFL.o).2 hok;subst hm0;have hK:=hok.2.1.1;have hF:=hok.2.1.2.1;have hO:=hok.2.1.2.2.2.1;have hI:=hok.2.1.2.2.2.2;have HOK:H r.h:=hok;clear hok HFL;have d1:=G.o.a.j;obtain⟨kd,hkd⟩:∃kd,kd=aD g:=⟨_,rfl⟩;have HKD:H (kd=aD g):=hkd;rw[<-hkd];clear hkd;by_cases hof:pF g r.e=true
  case neg=>
   have S:b=false:=by rw[<-kR,HB.o];exact λh=>hof h.2.1
   subst S;have HOF:H (¬(0<kd/\(r.e=0\/(kd:Int)=r.e))):=by show ¬(0<kd/\(r.e=0\/(kd:Int)=r.e));rw[HKD.o];intro h;apply hof;unfold pF;simp[h.1,h.2]
   clear hof;by_cases hk0:kd=0
   ·subst hk0;go_wp2;go_ret;exact⟨rfl,HEN.o _ G.o⟩
   have hk1:((kd:Int) == 0)=false:=(by rw[oV];omega);have hno:¬(r.e=0\/(kd:Int)=r.e):=λh=>HOF.o ⟨om,h⟩;have g1:(0:Int)<r.e:=om;have g2:decide ((0:Int)<r.e)=true:=(by simpa using g1);have g3:(r.e != (kd:Int))=true:=(by simp;omega);go_wp2;go_ret;exact⟨rfl,HEN.o _ G.o⟩
  have hOF:0<kd/\(r.e=0\/(kd:Int)=r.e):=by rw[HKD.o];have h:=hof;unfold pF at h;simp at h;exact h
  have HOF:H (pF g r.e=true):=hof;clear hof;have hk1:((kd:Int) == 0)=false:=by rw[oV];omega
  by_cases g1:(0:Int)<r.e
  case pos=>
   have g2:decide ((0:Int)<r.e)=true:=(by simpa using g1);have g3:(r.e != (kd:Int))=false:=(by simp;omega);have d3:=G.o.a.l;go_wp2_with fail;refine(HC.o _ q r.g e G.o.c om).m ?_;rintro y V3 ⟨rfl,hd3,hk3⟩;have P:H (fF w V3 rb F W need (q+2) E r):=G.o.g hd3 hk3;clear hd3 hk3 G d1 d3;cases hct:eI g (al E) W need E.length (aG g E) r.g e with
  |false=>
    have S:b=false:=(by rw[<-kR,HB.o];exact λh=>by have h2:=h.2.2.1;rw[hct]at h2;exact Bool.noConfusion h2);subst S;go_wp2;go_ret;exact⟨rfl,P.o.c.a om,P.o.e⟩
  |true=>
    obtain⟨hin,htd⟩:=FA hct;have HBK:H (b=true↔pB (eI g (al E) W need E.length (aG g E) r.c) (eT g (al E) W need E.length (aG g E) r.b) (max 0 (e-r.d)) e):=⟨λh=>(HB.o.1 h).2.2.2,λh=>HB.o.2 ⟨HOK.o,HOF.o,hct,h⟩⟩;have HTD:H (aG g E=true):=htd;have w2:IntKind.i64.wrap (e-r.d)=e-r.d:=(by simp[IntKind.wrap,IntKind.bits,IntKind.signed];omega);clear hct HB HOK HOF htd;obtain⟨m,rfl⟩:∃m:Nat,e=(m:Int):=⟨e.toNat,om⟩;obtain⟨R,hlo⟩:∃R:Nat,max 0 ((m:Int)-r.d)=(R:Int):=⟨(max 0 ((m:Int)-r.d)).toNat,om⟩;have hlm:R<=m:=om;have HLO:H (max 0 ((m:Int)-r.d)=(R:Int)):=hlo;rw[hlo]at HBK;have d5:=P.o.a.h;go_wp2;clear d5 hlo w2;have HST:H (fF w V3 rb F W need (q+2+200*R) E r):=P.o.f om;clear P;obtain⟨t,hn0⟩:∃t,t=E.length:=⟨_,rfl⟩;have HN0:H (t=E.length):=hn0;have hm0:m<t:=om;rw[<-hn0]at h25;rw[<-hn0]at HBK HC;clear hin hn0;go_loopw [11,12,13] (λi _ _ V=>∃x:Nat,R<=x/\x<=m/\i=I Q x/\nO (eI g (al E) W need t (aG g E) r.c) (eT g (al E) W need t (aG g E) r.b) R m x/\fF w V rb F W need (q+2+200*x) E r) (λi _ _ _=>m-(intOf i).toNat)
    case atStart=>exact⟨R,aa _,hlm,rfl,Er _ _ _ _,HST.o⟩
    obtain⟨x,hx0,hx1,rfl,hup,C⟩:=hrel;have HUP:H (nO (eI g (al E) W need t (aG g E) r.c) (eT g (al E) W need t (aG g E) r.b) R m x):=hup;have s:H (fF w wr rb F W need (q+2+200*x) E r):=C;have d2:=C.a.k;clear hup C HST;by_cases hxm:x<m
    case neg=>obtain rfl:x=m:=om;have S:b=false:=(by rw[<-kR,HBK.o];exact FZ HUP.o (Int.le_refl _));subst S;go_wp2;go_ret;exact⟨rfl,s.o.c.a om,s.o.e⟩
    have hxI:(x:Int)<(m:Int):=om;go_wp2_with fail;refine(HC.o _ (q+2+200*x) r.c x s.o.c om).m ?_;rintro y V4 ⟨rfl,hd4,hk4⟩;have HR4:H (fF w V4 rb F W need (q+2+200*x+2+(x+1)) E r):=(s.o.g hd4 hk4).f om;clear hd4 hk4 s d2;obtain⟨cb,hcb⟩:∃cb,cb=eI g (al E) W need t (aG g E) r.c (x:Int):=⟨_,rfl⟩;have HCB:H (cb=true↔kE g (al E) W need t (aG g E) r x (x+1)):=(by rw[hcb];exact C4);rw[<-hcb];clear hcb;go_wp2;go_loopw [12,13] (λc y V=>∃(cv:Bool) (n:Nat),x+1<=n/\n<=m/\c=.bool cv/\y=I Q n/\(cv=true↔kE g (al E) W need t (aG g E) r x n)/\fF w V rb F W need (q+2+200*x+2+n) E r) (λ_ y _=>m-(intOf y).toNat)
    case atStart=>exact⟨cb,x+1,aa _,om,rfl,by first|rfl|go_num,HCB.o,HR4.o⟩
    obtain⟨cv,n,hy0,hy1,rfl,rfl,hcv,C⟩:=hrel;have D:H (cv=true↔kE g (al E) W need t (aG g E) r x n):=hcv;have s:H (fF w wr rb F W need (q+2+200*x+2+n) E r):=C;have d4:=C.a.g;clear hcv C HR4 HCB;by_cases hym:n<m
    case neg=>
     obtain rfl:n=m:=om;cases cv with
    |true=>
      have hbt:b=true:=HBK.o.2 ⟨x,om,om,(D.o.1 rfl).1,(D.o.1 rfl).2⟩;subst hbt;go_wp2;go_ret;exact⟨rfl,s.o.c.a om,s.o.e⟩
    |false=>
      have T:H (nO (eI g (al E) W need t (aG g E) r.c) (eT g (al E) W need t (aG g E) r.b) R n ((x:Int)+1)):=xJ HUP.o (λh=>Bool.noConfusion (D.o.2 h));go_wp2;go_roundw
      case rel=>exact⟨x+1,om,om,by first|rfl|go_num,by have h:=T.o;exact h,s.o.f om⟩
      simp[intOf];omega
    have hyI:(n:Int)<(m:Int):=om;cases cv with
   |false=>
     have T:H (nO (eI g (al E) W need t (aG g E) r.c) (eT g (al E) W need t (aG g E) r.b) R m ((x:Int)+1)):=xJ HUP.o (λh=>Bool.noConfusion (D.o.2 ⟨h.1,λz h1 h2=>h.2 z h1 om⟩));go_wp2;go_roundw
     case rel=>exact⟨x+1,om,om,by first|rfl|go_num,by have h:=T.o;exact h,s.o.f om⟩
     simp[intOf];omega
   |true=>
     have HWS:H (eT g (al E) W need t (aG g E) r.b (n:Int)=((r.b != -1)&&(aI g (al E) W need n == r.b))):=(by show eT g (al E) W need t (aG g E) r.b (n:Int)=_;rw[HTD.o];exact GI om);by_cases ho:(0:Int)<=r.b
     case neg=>
      have hoD:decide ((0:Int)<=r.b)=false:=(by simpa using ho);have A:H (true=true↔kE g (al E) W need t (aG g E) r x (n+1)):=(by show true=true↔_;rw[t9 om];refine⟨λ_=>⟨D.o.1 rfl,?_⟩,λ_=>rfl⟩;rw[HWS.o,show r.b=-1 by omega];rfl);go_upto_region 14 with fail;go_quiet (fail);have HR6:H (∀dd,fF w (wr.drewN dd) rb F W need (q+2+200*x+2+(n+1)) E r):=λdd=>(s.o.h (xX wr dd)).f om;clear s d4;go_wp2;go_roundw
      case rel=>exact⟨true,n+1,om,om,rfl,by first|rfl|go_num,A.o,HR6.o _⟩
      simp[intOf];omega
     have hoD:decide ((0:Int)<=r.b)=true:=(by simpa using ho);obtain⟨v,hv⟩:∃v,v=aI g (al E) W need n:=⟨_,rfl⟩;have HA2:H (∀(V:Ω)(q':Nat),aO V rb F W need q' E->q'<=9000000000000->Φ prog 61 #[Y (O ⟨rb,0,J⟩),Z g,I Q (n:Int)] V λy w'=>y=N (I Q v)/\aO w' rb F W need (q'+1) E/\ax F V w'):=λV q' hV hq'=>(by have h:=HA.o V q' n hV (by have:=HN0.o;omega) hq';rw[<-hv]at h;exact h);have HWS2:H (eT g (al E) W need t (aG g E) r.b (n:Int)=(v == r.b)):=(by show eT g (al E) W need t (aG g E) r.b (n:Int)=_;rw[HWS.o,<-hv,show (r.b != -1)=true by simp;omega];rfl);clear hv HWS;have hR1:∀dd,fF w (wr.drewN dd) rb F W need (q+2+200*x+2+n) E r:=λdd=>s.o.h (xX wr dd);have u:H _:=hR1;clear hR1;by_cases hvw:v=r.b
     case pos=>
      have hvB:(v == r.b)=true:=(by simpa using hvw);have A:H (false=true↔kE g (al E) W need t (aG g E) r x (n+1)):=(by show false=true↔_;rw[t9 om,HWS2.o,hvB];exact⟨λh=>Bool.noConfusion h,λh=>Bool.noConfusion h.2⟩);clear hvw;go_upto_region 14 with fail
      go_region_held3 (λU=>U.cell? ⟨w.1.size,4,J⟩=O (I Q r.b)) (go_keep) (first|(go_at_call 61;refine(HA2.o _ (q+2+200*x+2+n) (u.o 1).c om).m ?_;rintro y w3 ⟨rfl,L,K⟩;have X:H (fF w w3 rb F W need (q+2+200*x+2+n+1) E r):=(u.o 1).g L K;have t4:w3.cell? ⟨w.1.size,4,J⟩=O (I Q r.b):=X.o.a.g;clear L K));clear t4 d4 s u;go_wp2;go_roundw
      case rel=>exact⟨false,n+1,om,om,rfl,by first|rfl|go_num,A.o,X.o⟩
      simp[intOf];omega
     have hvB:(v == r.b)=false:=(by simpa using hvw);have A:H (kE g (al E) W need t (aG g E) r x (n+1)):=(by show kE g (al E) W need t (aG g E) r x (n+1);rw[t9 om,HWS2.o,hvB];exact⟨D.o.1 rfl,rfl⟩);clear hvw;go_upto_region 14 with fail
     go_region_held3 (λU=>U.cell? ⟨w.1.size,4,J⟩=O (I Q r.b)) (go_keep) (first|(go_at_call 61;refine(HA2.o _ (q+2+200*x+2+n) (u.o 1).c om).m ?_;rintro y w3 ⟨rfl,L,K⟩;have X:H (fF w w3 rb F W need (q+2+200*x+2+n+1) E r):=(u.o 1).g L K;have t4:w3.cell? ⟨w.1.size,4,J⟩=O (I Q r.b):=X.o.a.g;clear L K));clear t4 d4 s u;go_wp2;go_roundw
     case rel=>exact⟨true,n+1,om,om,rfl,by first|rfl|go_num,⟨λ_=>A.o,λ_=>rfl⟩,X.o⟩
     simp[intOf];omega
  have g2:decide ((0:Int)<r.e)=false:=(by simpa using g1);have d3:=G.o.a.l;go_wp2_with fail;refine(HC.o _ q r.g e G.o.c om).m ?_;rintro y V3 ⟨rfl,hd3,hk3⟩;have P:H (fF w V3 rb F W need (q+2) E r):=G.o.g hd3 hk3;clear hd3 hk3 G d1 d3;cases hct:eI g (al E) W need E.length (aG g E) r.g e with
 |false=>
   have S:b=false:=(by rw[<-kR,HB.o];exact λh=>by have h2:=h.2.2.1;rw[hct]at h2;exact Bool.noConfusion h2);subst S;go_wp2;go_ret;exact⟨rfl,P.o.c.a om,P.o.e⟩
 |true=>
   obtain⟨hin,htd⟩:=FA hct;have HBK:H (b=true↔pB (eI g (al E) W need E.length (aG g E) r.c) (eT g (al E) W need E.length (aG g E) r.b) (max 0 (e-r.d)) e):=⟨λh=>(HB.o.1 h).2.2.2,λh=>HB.o.2 ⟨HOK.o,HOF.o,hct,h⟩⟩;have HTD:H (aG g E=true):=htd;have w2:IntKind.i64.wrap (e-r.d)=e-r.d:=(by simp[IntKind.wrap,IntKind.bits,IntKind.signed];omega);clear hct HB HOK HOF htd;obtain⟨m,rfl⟩:∃m:Nat,e=(m:Int):=⟨e.toNat,om⟩;obtain⟨R,hlo⟩:∃R:Nat,max 0 ((m:Int)-r.d)=(R:Int):=⟨(max 0 ((m:Int)-r.d)).toNat,om⟩;have hlm:R<=m:=om;have HLO:H (max 0 ((m:Int)-r.d)=(R:Int)):=hlo;rw[hlo]at HBK;have d5:=P.o.a.h;go_wp2;clear d5 hlo w2;have HST:H (fF w V3 rb F W need (q+2+200*R) E r):=P.o.f om;clear P;obtain⟨t,hn0⟩:∃t,t=E.length:=⟨_,rfl⟩;have HN0:H (t=E.length):=hn0;have hm0:m<t:=om;rw[<-hn0]at h25;rw[<-hn0]at HBK HC;clear hin hn0;go_loopw [11,12,13] (λi _ _ V=>∃x:Nat,R<=x/\x<=m/\i=I Q x/\nO (eI g (al E) W need t (aG g E) r.c) (eT g (al E) W need t (aG g E) r.b) R m x/\fF w V rb F W need (q+2+200*x) E r) (λi _ _ _=>m-(intOf i).toNat)
   case atStart=>exact⟨R,aa _,hlm,rfl,Er _ _ _ _,HST.o⟩
   obtain⟨x,hx0,hx1,rfl,hup,C⟩:=hrel;have HUP:H (nO (eI g (al E) W need t (aG g E) r.c) (eT g (al E) W need t (aG g E) r.b) R m x):=hup;have s:H (fF w wr rb F W need (q+2+200*x) E r):=C;have d2:=C.a.k;clear hup C HST;by_cases hxm:x<m
   case neg=>obtain rfl:x=m:=om;have S:b=false:=(by rw[<-kR,HBK.o];exact FZ HUP.o (Int.le_refl _));subst S;go_wp2;go_ret;exact⟨rfl,s.o.c.a om,s.o.e⟩
   have hxI:(x:Int)<(m:Int):=om;go_wp2_with fail;refine(HC.o _ (q+2+200*x) r.c x s.o.c om).m ?_;rintro y V4 ⟨rfl,hd4,hk4⟩;have HR4:H (fF w V4 rb F W need (q+2+200*x+2+(x+1)) E r):=(s.o.g hd4 hk4).f om;clear hd4 hk4 s d2;obtain⟨cb,hcb⟩:∃cb,cb=eI g (al E) W need t (aG g E) r.c (x:Int):=⟨_,rfl⟩;have HCB:H (cb=true↔kE g (al E) W need t (aG g E) r x (x+1)):=(by rw[hcb];exact C4);rw[<-hcb];clear hcb;go_wp2;go_loopw [12,13] (λc y V=>∃(cv:Bool) (n:Nat),x+1<=n/\n<=m/\c=.bool cv/\y=I Q n/\(cv=true↔kE g (al E) W need t (aG g E) r x n)/\fF w V rb F W need (q+2+200*x+2+n) E r) (λ_ y _=>m-(intOf y).toNat)
   case atStart=>exact⟨cb,x+1,aa _,om,rfl,by first|rfl|go_num,HCB.o,HR4.o⟩
   obtain⟨cv,n,hy0,hy1,rfl,rfl,hcv,C⟩:=hrel;have D:H (cv=true↔kE g (al E) W need t (aG g E) r x n):=hcv;have s:H (fF w wr rb F W need (q+2+200*x+2+n) E r):=C;have d4:=C.a.g;clear hcv C HR4 HCB;by_cases hym:n<m
   case neg=>
    obtain rfl:n=m:=om;cases cv with
   |true=>
     have hbt:b=true:=HBK.o.2 ⟨x,om,om,(D.o.1 rfl).1,(D.o.1 rfl).2⟩;subst hbt;go_wp2;go_ret;exact⟨rfl,s.o.c.a om,s.o.e⟩
   |false=>
     have T:H (nO (eI g (al E) W need t (aG g E) r.c) (eT g (al E) W need t (aG g E) r.b) R n ((x:Int)+1)):=xJ HUP.o (λh=>Bool.noConfusion (D.o.2 h));go_wp2;go_roundw
     case rel=>exact⟨x+1,om,om,by first|rfl|go_num,by have h:=T.o;exact h,s.o.f om⟩
     simp[intOf];omega
   have hyI:(n:Int)<(m:Int):=om;cases cv with
  |false=>
    have T:H (nO (eI g (al E) W need t (aG g E) r.c) (eT g (al E) W need t (aG g E) r.b) R m ((x:Int)+1)):=xJ HUP.o (λh=>Bool.noConfusion (D.o.2 ⟨h.1,λz h1 h2=>h.2 z h1 om⟩));go_wp2;go_roundw
    case rel=>exact⟨x+1,om,om,by first|rfl|go_num,by have h:=T.o;exact h,s.o.f om⟩
    simp[intOf];omega
  |true=>
    have HWS:H (eT g (al E) W need t (aG g E) r.b (n:Int)=((r.b != -1)&&(aI g (al E) W need n == r.b))):=(by show eT g (al E) W need t (aG g E) r.b (n:Int)=_;rw[HTD.o];exact GI om);by_cases ho:(0:Int)<=r.b
    case neg=>
     have hoD:decide ((0:Int)<=r.b)=false:=(by simpa using ho);have A:H (true=true↔kE g (al E) W need t (aG g E) r x (n+1)):=(by show true=true↔_;rw[t9 om];refine⟨λ_=>⟨D.o.1 rfl,?_⟩,λ_=>rfl⟩;rw[HWS.o,show r.b=-1 by omega];rfl);go_upto_region 14 with fail;go_quiet (fail);have HR6:H (∀dd,fF w (wr.drewN dd) rb F W need (q+2+200*x+2+(n+1)) E r):=λdd=>(s.o.h (xX wr dd)).f om;clear s d4;go_wp2;go_roundw
     case rel=>exact⟨true,n+1,om,om,rfl,by first|rfl|go_num,A.o,HR6.o _⟩
     simp[intOf];omega
    have hoD:decide ((0:Int)<=r.b)=true:=(by simpa using ho);obtain⟨v,hv⟩:∃v,v=aI g (al E) W need n:=⟨_,rfl⟩;have HA2:H (∀(V:Ω)(q':Nat),aO V rb F W need q' E->q'<=9000000000000->Φ prog 61 #[Y (O ⟨rb,0,J⟩),Z g,I Q (n:Int)] V λy w'=>y=N (I Q v)/\aO w' rb F W need (q'+1) E/\ax F V w'):=λV q' hV hq'=>(by have h:=HA.o V q' n hV (by have:=HN0.o;omega) hq';rw[<-hv]at h;exact h);have HWS2:H (eT g (al E) W need t (aG g E) r.b (n:Int)=(v == r.b)):=(by show eT g (al E) W need t (aG g E) r.b (n:Int)=_;rw[HWS.o,<-hv,show (r.b != -1)=true by simp;omega];rfl);clear hv HWS;have hR1:∀dd,fF w (wr.drewN dd) rb F W need (q+2+200*x+2+n) E r:=λdd=>s.o.h (xX wr dd);have u:H _:=hR1;clear hR1;by_cases hvw:v=r.b
    case pos=>
     have hvB:(v == r.b)=true:=(by simpa using hvw);have A:H (false=true↔kE g (al E) W need t (aG g E) r x (n+1)):=(by show false=true↔_;rw[t9 om,HWS2.o,hvB];exact⟨λh=>Bool.noConfusion h,λh=>Bool.noConfusion h.2⟩);clear hvw;go_upto_region 14 with fail
     go_region_held3 (λU=>U.cell? ⟨w.1.size,4,J⟩=O (I Q r.b)) (go_keep) (first|(go_at_call 61;refine(HA2.o _ (q+2+200*x+2+n) (u.o 1).c om).m ?_;rintro y w3 ⟨rfl,L,K⟩;have X:H (fF w w3 rb F W need (q+2+200*x+2+n+1) E r):=(u.o 1).g L K;have t4:w3.cell? ⟨w.1.size,4,J⟩=O (I Q r.b):=X.o.a.g;clear L K));clear t4 d4 s u;go_wp2;go_roundw
     case rel=>exact⟨false,n+1,om,om,rfl,by first|rfl|go_num,A.o,X.o⟩
     simp[intOf];omega
    have hvB:(v == r.b)=false:=(by simpa using hvw);have A:H (kE g (al E) W need t (aG g E) r x (n+1)):=(by show kE g (al E) W need t (aG g E) r x (n+1);rw[t9 om,HWS2.o,hvB];exact⟨D.o.1 rfl,rfl⟩);clear hvw;go_upto_region 14 with fail
    go_region_held3 (λU=>U.cell? ⟨w.1.size,4,J⟩=O (I Q r.b)) (go_keep) (first|(go_at_call 61;refine(HA2.o _ (q+2+200*x+2+n) (u.o 1).c om).m ?_;rintro y w3 ⟨rfl,L,K⟩;have X:H (fF w w3 rb F W need (q+2+200*x+2+n+1) E r):=(u.o 1).g L K;have t4:w3.cell? ⟨w.1.size,4,J⟩=O (I Q r.b):=X.o.a.g;clear L K));clear t4 d4 s u;go_wp2;go_roundw
    case rel=>exact⟨true,n+1,om,om,rfl,by first|rfl|go_num,⟨λ_=>A.o,λ_=>rfl⟩,X.o⟩
    simp[intOf];omega
end
end
theorem AP{c:aE}{s:ay}{K e j:Nat}(a:e<K)(b:j<=e):al (aC c s (e+1)) j=al (aC c s K) j:=by rw[sy,sy,ak om,ak om]
theorem Gh{c:aE}{s:ay}{K e j:Nat}(g:ByteArray)(W a:Nat)(b:e<K)(f:j<=e):aI g (al (aC c s (e+1))) W a j=aI g (al (aC c s K)) W a j:=
 zl (λp k d=>by rw[AP b om]) (λp k d=>by rw[AP b om])
theorem GN{c:aE}{s:ay}{K e:Nat}(g:ByteArray)(W a:Nat)(d:e<K){x:Int}(f:x<=(e:Int)):
  bV (e+1) true x (aI g (al (aC c s (e+1))) W a x.toNat)=bV K true x (aI g (al (aC c s K)) W a x.toNat):=by
 unfold bV;by_cases b:0<=x
 ·rw[ak (show 0<=x/\x<((e+1:Nat):Int) by omega),ak (show 0<=x/\x<(K:Int) by omega),Gh g W a d om]
 rw[ag (λh=>b h.1),ag (λh=>b h.1)]
theorem Gg{c:aE}{s:ay}{K e:Nat}(g:ByteArray)(W a:Nat)(d:e<K){p x:Int}(b:x<=(e:Int)):
  iR (e+1) true p x (aI g (al (aC c s (e+1))) W a x.toNat)=iR K true p x (aI g (al (aC c s K)) W a x.toNat):=by
 unfold iR;rw[GN g W a d b]
theorem Bv{c:aE}{s:ay}{K e:Nat}(g:ByteArray)(W a:Nat)(b:e<K){p x:Int}(d:x<=(e:Int)):
  eI g (al (aC c s (e+1))) W a (e+1) true p x=eI g (al (aC c s K)) W a K true p x:=by
 unfold eI mp;simp only;rw[Gg g W a b d,Gg g W a b (show x-1<=(e:Int) by omega)]
theorem GM{c:aE}{s:ay}{K e:Nat}(g:ByteArray)(W a:Nat)(d:e<K){p x:Int}(b:x<=(e:Int)):
  eT g (al (aC c s (e+1))) W a (e+1) true p x=eT g (al (aC c s K)) W a K true p x:=by
 unfold eT uK;rw[GN g W a d b]
theorem QF{c:aE}{s:ay}{K e:Nat}{g:ByteArray}(d:e<K)(h:aG g (aC c s (e+1))=true):aG g (aC c s K)=true:=by
 rw[vm]at h⊢;obtain⟨j,a⟩:=h;by_cases b:j<=e
 ·exact⟨j,by rw[<-AP d b];exact a⟩
 rw[sy,ag om]at a;cases a
theorem RU{c:aE}{s:ay}{K e:Nat}{g:ByteArray}(b:1<=c.c)(a:e<K)(h:aG g (aC c s (e+1))=false):aI g (al (aC c s K)) c.d c.c e=-1:=by
 rw[<-Gh g c.d c.c a nl];refine zc b (λj=>?_);cases hj:bz g (al (aC c s (e+1)) j) with
 |false=>rfl
 |true=>
  have:=vm.2 ⟨j,hj⟩;rw[h]at this;cases this
theorem Cw{c:aE}{s:ay}{K e:Nat}{g:ByteArray}{r:aq}(p:1<=c.c)(f:e<K):
   (aG g (aC c s (e+1))=true/\pz g (al (aC c s (e+1))) c.d c.c (e+1) true r (e:Int))↔pz g (al (aC c s K)) c.d c.c K (aG g (aC c s K)) r (e:Int):=by
  cases ht:aG g (aC c s (e+1)) with
 |true=>
   rw[QF f ht];unfold pz pB;rw[Bv g c.d c.c f (Int.le_refl _)];constructor
   ·rintro⟨_,m,n,b,y,a,j,i,l⟩;refine⟨m,n,b,y,a,j,by rw[<-Bv g c.d c.c f om];exact i,λx k o=>by rw[<-GM g c.d c.c f om];exact l x k o⟩
   rintro⟨m,n,b,y,a,j,i,l⟩;refine⟨rfl,m,n,b,y,a,j,by rw[Bv g c.d c.c f om];exact i,λx k o=>by rw[GM g c.d c.c f om];exact l x k o⟩
 |false=>
   constructor
   ·rintro⟨h,_⟩;cases h
   rintro⟨_,_,b,_⟩;exfalso;have q:=RU p f ht;unfold eI mp at b;rw[jo]at b;have a:iR K (aG g (aC c s K)) r.g (e:Int) (aI g (al (aC c s K)) c.d c.c ((e:Int).toNat))=true:=b.1;rw[ir,q]at a;unfold iR bV at a;rw[ak ⟨om,om⟩]at a;cases hk:aG g (aC c s K) with
  |true=>
    rw[hk]at a;simp at a;omega
  |false=>
    rw[hk]at a;simp at a
end Go.Proofs.YtlaodjjfmhipnaaGreatDoor
