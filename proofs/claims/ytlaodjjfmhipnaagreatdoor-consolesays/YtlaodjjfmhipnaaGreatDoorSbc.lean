/-
  Part of it.
-/
import Derived.Test.YtlaodjjfmhipnaaGreatDoorWbI
import Derived.Great.BuildSlice
import Derived.Test.YtlaodjjfmhipnaaGreatDoorSbb
import Derived.Test.YtlaodjjfmhipnaaGreatDoorRows
import Derived.Lib.SmallJoins
set_option maxRecDepth 100000
set_option maxHeartbeats 8000000
set_option linter.all false
namespace Go.Proofs.YtlaodjjfmhipnaaGreatDoor
open Go.Proofs.Tryz
open Value renaming int→I,string→Z,pointer→Y,slice→M,tuple→Ψ
open Ending renaming returned→N
open Obj renaming cells→Δ
open Go renaming World→Ω,Calls→Φ
open IntKind renaming i64→Q
open Option renaming some→O,none→J
open RowKit renaming Below→B,Hid→H
section
open Go.RowKit Go.Maps
theorem ML(s x:List UInt8):∀l:List (List UInt8),Lib.join (l++[x]) s=if l=[] then x else Lib.join l s++s++x
 |[]=>by simp[Lib.join_one]
 |y::l=>by rw[ag sm,ni,Lib.join_cons,Lib.join_cons];simp[Lib.joinTail]
theorem QX{S:bY}{A:List dG}{xs:List (List UInt8)}(h:pH S A xs)(d:A≠[]):Lib.join xs [44,32]≠[]:=by
  cases xs with
 |nil=>exact absurd (iG.1 h.b.symm) d
 |cons y ys=>
   cases A with
  |nil=>exact absurd rfl d
  |cons a A=>
    obtain⟨f,r,_,_,e⟩:=h.c 0 a y rfl rfl;rw[Lib.join_cons,e];simp
section
variable {w w' V:Ω}{sb rb q:Nat}{F:Nat->Prop}{S:bY}{W:fP}{rv:Value}{od od':Nat->Nat}{s':ay}
structure Ho (w1 V:Ω) (o:Value) (xs:List (List UInt8)) (j:Nat):Prop where
 b:o=Z (ae (Lib.join (xs.take j) [44,32]))
 a:B w1.1.size w1 V
theorem MM(ns:List Int)(x:ByteArray){t:List UInt8}(h:kK w sb F S q W rv rb od)(hF:∀b,w.1.size<=b->F b)(hq:q<=6000000000000)(hk:W.a.c W.b<=100)(hr:BD S (bM W.b W.d W.a (W.a.c W.b)) t):
  Φ prog 19 #[Y (O ⟨sb,0,J⟩),Z ⟨#[97,108,101,114,116,115]⟩,.agg (eQ ns),Z x] w λe G=>e=N (Z (ae t))/\nQ w sb F S q W W.a G:=by
 obtain⟨p,hp⟩:=h.f.a;have L:∀r,r∈W.d->r.h:=λr hr=>by obtain⟨tl,htl⟩:=h.i;exact h.c.g r (by rw[htl];simp[hr])
 have hAl:(bM W.b W.d W.a (W.a.c W.b)).length<=7200:=by refine aP (ze W.b W.d W.a _ 12 h.a.b) ?_;have h6:=h.j;exact aP (pT hk (Nat.mul_le_mul_right 12 h6)) dc
 have HAM:H (∀a,a∈bM W.b W.d W.a (W.a.c W.b)->a.a<W.d.length/\a.b<=1000):=λa E=>by obtain⟨h1,h2,_⟩:=Gk E;exact⟨h1,om⟩
 obtain⟨n,hxs,s⟩:∃n,pH S (bM W.b W.d W.a (W.a.c W.b)) n/\t=if bM W.b W.d W.a (W.a.c W.b)=[] then [45] else Lib.join n [44,32]:=by
  rcases hr with ⟨h1,h2⟩|⟨h1,n,h2,h3⟩
  ·rw[h1];exact⟨[],⟨rfl,λi a x hi=>by simp at hi⟩,by rw[ak rfl];exact h2⟩
  exact⟨n,h2,by rw[ag h1];exact h3⟩
 have HXL:H (∀j,(Lib.join (n.take j) [44,32]).length<=7200*72):=λj=>by refine aP (xL (k:=70) _ _ (λy hy=>hxs.d h.c.g (λa E=>(HAM.o a E).2) y (List.mem_of_mem_take hy))) ?_;refine pT (aP (List.length_take_le' ..) ?_) nl;rw[hxs.b];exact hAl
 have HX:H (∀V,B w.1.size w V->Φ prog 32 #[Y (O ⟨rb,0,J⟩)] V λe G=>∃v,e=N v/\G.ownsRow V.1.size 98 3 v (bM W.b W.d W.a (W.a.c W.b)).length (gd (bM W.b W.d W.a (W.a.c W.b)))/\tp w sb F S q W W.a rb V G/\ek G rb od W.b W.d W.a (W.a.c W.b) (q+300000000) (bJ W.a.a) p):=λV hV=>(Jv (hp.o hV) h.a hk h.j L om).m λe G ⟨v,he,ho,E⟩=>⟨v,he,ho,h.h hV hF ⟨p,E.a⟩ nl h.a E.b,E.a⟩;have HPR:=hid h.i;have HRO:=hid L;have HXS:=hid hxs;have HTX:=hid s;have c23:=h.e;have HB0:H (∀o,B w.1.size w (w.alloc o)):=λo=>br.l nl o;have HC:H (∀o,(w.alloc o).cell? ⟨sb,23,J⟩=O (Y (O ⟨rb,0,J⟩))):=λo=>cz (HB0.o o) c23;have hc:=HC.o;unfold eQ;generalize bM W.b W.d W.a (W.a.c W.b)=A at *;clear h hp hF hq hk hr L hxs s c23;go_enter func19,ntmps19;go_wp2_with fail;refine(HX.o _ (HB0.o _)).m ?_;rintro e w1 ⟨u,rfl,a0,hkt,z⟩;clear hc
 obtain⟨qa,ca,rfl⟩:∃q cap,u=M q A.length cap:=by
  rcases a0.2 with ⟨rfl,h0⟩|⟨g,cap,cur,hv,_⟩
  ·exact⟨J,0,by rw[h0]⟩
  exact⟨_,_,hv⟩
 have HROW:=hid a0;have HKT:=hid hkt;have HDA:=hid z;have HI0:H (Ho w1 w1 (Z ⟨#[]⟩) n 0):=⟨rfl,aj _ _⟩;clear a0 hkt z;go_wp2_with fail;go_loopw [12,13,14,15] (λo i _ _ V=>∃j:Nat,j<=A.length/\i=I Q (j:Int)/\Ho w1 V o n j) (λ_ i _ _ _=>A.length-(intOf i).toNat)
 case atStart=>exact⟨0,om,rfl,HI0.o⟩
 obtain⟨j,hj,rfl,rfl,hbl⟩:=hrel;have T:=hid hbl;clear hbl HI0;by_cases hlt:j<A.length
 case pos=>
  have hI:(j:Int)<A.length:=om;obtain⟨a,E⟩:∃a,A[j]?=O a:=⟨A[j],by simp[hlt]⟩;have hjx:j<n.length:=(by rw[HXS.o.b];exact hlt);have hxj:n[j]?=O n[j]:=bc hjx;obtain⟨tt,r,hr,htg,hxe⟩:=HXS.o.c j a _ E hxj;obtain⟨hru,hep⟩:=HAM.o a (iW E);have hrW:W.d[a.a]?=O r:=by obtain⟨tl,htl⟩:=HPR.o;rw[htl,gO hru]at hr;exact hr
  obtain⟨g,rfl⟩:∃g,qa=O ⟨g,0,J⟩:=by
   rcases HROW.o.2 with ⟨_,h0⟩|⟨g,_,_,hv,_⟩
   ·omega
   cases hv;exact⟨_,rfl⟩
  have hcc:∀k u,k<3->(rE a)[k]?=O u->wr.cell? ⟨g,j*3+k,J⟩=O u:=λk u hk hu=>(by have:=World.ownsRow.cells HROW.o (g:=g) rfl (j*3+k) u (by unfold gd;rw[qq rE 3 (λ_=>rfl) A j k a E hk];exact hu);rw[dD]at this;exact cz T.o this);have e0:wr.cell? ⟨g,j*3,J⟩=O (I Q (a.a:Int)):=hcc 0 _ om rfl;have e1:wr.cell? ⟨g,j*3+1,J⟩=O (I Q (a.b:Int)):=hcc 1 _ om rfl;have e2:wr.cell? ⟨g,j*3+1+1,J⟩=O (Z a.c):=hcc 2 _ om rfl;have z:=HDA.o.o T.o;obtain⟨q',cap',hrv,hon,-,hcp⟩:=vS z.h;obtain⟨gr,o,rfl,hgr,hcr⟩:=hon.a (λe=>by rw[e]at hru;cases hru);have e3:wr.cell? ⟨gr,o+a.a*6,J⟩=O (Z r.a):=(hcr a.a r hrW).1;have e4:wr.cell? ⟨rb,22,J⟩=O (M (O ⟨gr,o,J⟩) W.d.length cap'):=(by rw[<-hrv];exact z.e om);have e5:wr.cell? ⟨sb,23,J⟩=O (Y (O ⟨rb,0,J⟩)):=cz T.o HKT.o.b;obtain⟨K,F',P,C,R,S',t1,t2,t3⟩:=G6 htg;have hgz:=qu htg;have HO:H (∀V,Φ prog 33 #[Z a.c] V λe G=>e=N (Ψ #[.agg #[I Q K,I Q F',I Q P,I Q C,I Q R,I Q S'],.bool true])/\B V.1.size V G):=λV=>(by rw[<-t3];exact zt a.c V (by unfold maxLen;omega));have HT:H (∀V,Φ prog 34 #[.agg #[I Q K,I Q F',I Q P,I Q C,I Q R,I Q S']] V λe G=>e=N (Z (ae tt))/\B V.1.size V G):=λV=>(by rw[<-t2];exact wz _ _ _ _ _ _ V t1);have HD:H (∀V,Φ prog 22 #[I Q (a.b:Int)] V λe G=>e=N (Z (ae (Lib.itoa (a.b:Int))))/\B V.1.size V G):=λV=>vy _ V om om;have z1:=um (HRO.o r (iW hrW));have z2:=Bi htg;have z3:(ae (Lib.itoa (a.b:Int))).size<=20:=(by rw[aV];exact sO _ om om);have z4:(ae (Lib.join (n.take j) [44,32])).size<=518400:=by rw[aV];exact HXL.o j
  obtain⟨O2,D,hO3⟩:∃O2,((¬(0:Int)<j/\ae (Lib.join (n.take j) [44,32])=O2)\/((0:Int)<j/\ae (Lib.join (n.take j) [44,32])++⟨#[44,32]⟩=O2))/\O2++r.a++⟨#[32]⟩++ae (Lib.itoa (a.b:Int))++⟨#[32]⟩++ae tt=ae (Lib.join (n.take (j+1)) [44,32]):=by
   have e:∀y:List UInt8,ae y++r.a++⟨#[32]⟩++ae (Lib.itoa (a.b:Int))++⟨#[32]⟩++ae tt=ae (y++n[j]):=λy=>(by rw[hxe];simp only[<-pq,ByteArray.append_assoc];rfl);rw[jL,hxj,Option.toList_some,ML];by_cases hz:j=0
   ·subst hz;exact⟨_,af ⟨om,rfl⟩,by rw[ak (by rfl)];exact e _⟩
   refine⟨_,ah ⟨om,rfl⟩,?_⟩;rw[ag (λh=>hz (by have:=congrArg List.length h;rw[fj,mH]at this;omega))];rw[show (⟨#[44,32]⟩:ByteArray)=ae [44,32] from rfl,pq];exact e _
  have z5:O2.size<=518402:=by
   rcases D with ⟨_,h⟩|⟨_,h⟩
   ·rw[<-h];omega
   rw[<-h,qW];show _+2<=_;omega
  have HO3:=hid hO3;have HC5:H (∀V,B wr.1.size wr V->V.cell? ⟨g,j*3,J⟩=O (I Q (a.a:Int))/\V.cell? ⟨g,j*3+1,J⟩=O (I Q (a.b:Int))/\V.cell? ⟨gr,o+a.a*6,J⟩=O (Z r.a)/\V.cell? ⟨rb,22,J⟩=O (M (O ⟨gr,o,J⟩) W.d.length cap')/\V.cell? ⟨sb,23,J⟩=O (Y (O ⟨rb,0,J⟩))):=λV hV=>⟨cz hV e0,cz hV e1,cz hV e3,cz hV e4,cz hV e5⟩;have hru':(a.a:Int)<W.d.length:=om;have n0:¬9223372036854775807<(ae (Lib.join (n.take j) [44,32])).size+2:=om;generalize ae (Lib.itoa (a.b:Int))=IT at *;generalize ae tt=TT at *;generalize ae (Lib.join (n.take j) [44,32])=OJ at *;have n1:¬9223372036854775807<O2.size+r.a.size:=om;have n2:¬9223372036854775807<O2.size+r.a.size+1:=om;have n3:¬9223372036854775807<O2.size+r.a.size+1+IT.size:=om;have n4:¬9223372036854775807<O2.size+r.a.size+1+IT.size+1:=om;have n5:¬9223372036854775807<O2.size+r.a.size+1+IT.size+1+TT.size:=om;clear z hon hcr hgr hcp hrv e0 e1 e3 e4 e5 hcc htg hr hrW hxe hxj hjx E t1 t2 t3 hgz z1 z2 z3 z4 z5 hO3 hep hru;have HO2:H (ae []=ae []):=rfl;rcases D with ⟨hj0,D⟩|⟨hj0,D⟩
  all_goals
   replace HO2:=hid D;clear D;go_wp2_with fail;rw[HO2.o];refine(HO.o _).m ?_;rintro e w2 ⟨rfl,hb2⟩;obtain⟨U,HU,hbU,f0,f1,f2,f3,f4,f5⟩:∃U,H (w2.alloc (Δ #[I Q K,I Q F',I Q P,I Q C,I Q R,I Q S'] 94)=U)/\B w2.1.size w2 U/\U.cell? ⟨w2.1.size,0,J⟩=O (I Q K)/\U.cell? ⟨w2.1.size,1,J⟩=O (I Q F')/\U.cell? ⟨w2.1.size,2,J⟩=O (I Q P)/\U.cell? ⟨w2.1.size,3,J⟩=O (I Q C)/\U.cell? ⟨w2.1.size,4,J⟩=O (I Q R)/\U.cell? ⟨w2.1.size,5,J⟩=O (I Q S'):=(by have h:=(ck (bn w2 (Δ #[I Q K,I Q F',I Q P,I Q C,I Q R,I Q S'] 94))).1;exact⟨_,rfl,ba,h 0 _ rfl,h 1 _ rfl,h 2 _ rfl,h 3 _ rfl,h 4 _ rfl,h 5 _ rfl⟩);have X:=bQ hb2 hbU;obtain⟨e0,e1,e3,e4,e5⟩:=HC5.o U X;have HBU:=hid (bQ T.o X);have k0:=cell_regrown f0;have k1:=cell_regrown f1;have k2:=cell_regrown f2;have k3:=cell_regrown f3;have k4:=cell_regrown f4;have k5:=cell_regrown f5;have l0:=cell_regrown e0;have l1:=cell_regrown e1;have l3:=cell_regrown e3;have l4:=cell_regrown e4;have l5:=cell_regrown e5;clear hb2 hbU X f0 f1 f2 f3 f4 f5 e0 e1 e2 e3 e4 e5;go_wp2_with fail;rw[HU.o];refine wp_region_quiet_below kr kr ?_
   repeat (go_big_quiet_step (first|with_reducible exact Calls.regrown_of (HD.o _)|with_reducible exact Calls.regrown_of (HT.o _)))
   refine gq ?_;rintro _ ⟨⟨dq,osq⟩,hw''⟩;subst hw'';go_wp2;go_roundw
   case rel=>exact⟨j+1,om,by go_num,by rw[<-HO3.o],HBU.o.t ((below_regrown U dq osq).m HBU.o.size)⟩
   simp[intOf];omega
 have hI:¬(j:Int)<A.length:=om;have e5:j=A.length:=om;have hxl:=HXS.o.b;subst e5;rw[show n.take A.length=n by rw[<-hxl];exact eL];have HDN:=hid (HKT.o.c.a T.o);have s:=HTX.o;by_cases hA:A=[]
 ·rw[ak hA]at s;have hx0:n=[]:=iG.1 (by rw[hxl,hA];rfl);have hT:=hid s;have h0:((ae (Lib.join n [44,32])).toList == [])=true:=(by rw[hx0,lG];rfl);clear s hA hx0 hxl;go_wp2;go_ret;exact⟨by rw[hT.o];rfl,HDN.o⟩
 rw[ag hA]at s;have hT:=hid s;have h0:((ae (Lib.join n [44,32])).toList == [])=false:=(by rw[lG];exact oV.2 (QX HXS.o hA));clear s hA hxl;go_wp2;go_ret;exact⟨by rw[hT.o];rfl,HDN.o⟩
end
end
section
open Go.RowKit Go.Maps
section
variable {w w' V:Ω}{sb rb q:Nat}{F:Nat->Prop}{S:bY}{W:fP}{rv:Value}{od od':Nat->Nat}{s':ay}
theorem Se(c:cj)(x:List UInt8){t:List UInt8}{n:Nat}(h:kK w sb F S q W rv rb od)(l:∀b,w.1.size<=b->F b)(p:(∃a,eS c.b=O (a,1))->x=c.a)(o:x.length<=300)(v:W.a.d+200<=20000)(y:jF W.a)(u:W.a.c W.b<=100)(s:q<=6000000000000)(f:pD S W c t n s'):
  Φ prog 19 #[Y (O ⟨sb,0,J⟩),Z (ae c.b),.agg (eQ c.c),Z (ae x)] w λe k=>e=N (Z (ae (eX t n)))/\nQ w sb F S q W s' k:=by
 have r:=aV x;rcases f with ⟨hn,f⟩|⟨hn,f⟩|⟨hn,rfl,rfl,rfl⟩|⟨rfl,f⟩
 ·rw[p ⟨1,by rw[hn];rfl⟩]at o r⊢;rw[hn];rcases f with ⟨h1,rfl,rfl,rfl⟩|⟨h1,rfl,rfl,rfl⟩
  ·exact(Jz c.c c.a w h1 om).m λe k ⟨i,j⟩=>⟨i,h.g j⟩
  exact QU c.c c.a h l h1 om v
 ·rw[p ⟨4,by rw[hn];rfl⟩]at o r⊢;rw[hn];rcases f with ⟨h1,rfl,rfl,rfl⟩|⟨b,h1,h2⟩
  ·exact(Az _ c.c _ w (af rfl) h1 om).m λe k ⟨i,j⟩=>⟨i,h.g j⟩
  exact QW c _ b h l h1 om v h2
 ·rw[hn];exact QT c.c _ h l
 rcases f with ⟨hn,f⟩|⟨hn,f⟩|⟨hn,rfl,rfl⟩|⟨hn,rfl,f⟩|⟨hn,rfl,rfl⟩
 ·rw[p ⟨1,by rw[hn];rfl⟩]at o r⊢;rw[hn];rcases f with ⟨h1,rfl,rfl⟩|⟨b,h1,h2⟩
  ·exact(Az _ c.c _ w (ah (af rfl)) h1 om).m λe k ⟨i,j⟩=>⟨i,h.g j⟩
  exact Ps c.c _ b h l h1 om s h2
 ·rw[p ⟨1,by rw[hn];rfl⟩]at o r⊢;rw[hn];rcases f with ⟨h1,rfl,rfl⟩|⟨b,g,h1,h2,h3⟩
  ·exact(Az _ c.c _ w (ah (ah rfl)) h1 om).m λe k ⟨i,j⟩=>⟨i,h.g j⟩
  exact Tk c.c _ b g h l h1 om s u h2 h3
 ·rw[hn];exact(QV c.c _ h y).m λe k ⟨i,j⟩=>⟨i,h.g j⟩
 ·rw[hn];exact MM c.c _ h l s u f
 rw[hn];exact(Pr c.c _ h).m λe k ⟨i,j⟩=>⟨i,h.g j⟩
end
end
section
open Go.RowKit Go.Maps
def qS(w:Ω)(sb:Nat)(F:Nat->Prop)(q:Nat)(S':bY)(t:List UInt8)(n:Nat)(e:Ending)(w':Ω):Prop:=e=N (Z (ae (eX t n)))/\(∃q',q'<=q+300000000/\io w' sb F S' q')/\ax F w w'
section
variable {w w' V:Ω}{sb q:Nat}{F G:Nat->Prop}{S S':bY}{rv wv:Value}{t:List UInt8}{n:Nat}
theorem io.e(h:io w sb F S q)(f:∀b,F b->G b):io w sb G S q:=by
 obtain⟨l,k,h⟩:=h.a;refine⟨l,k,h.a,f _ h.e,h.d,λb e=>⟨f _ (h.c b e).1,(h.c b e).2⟩,h.g,h.j,?_⟩;rcases h.i with h1|⟨W,rb,od,h1,h2,h3,h4,h5,h6,h7⟩
 ·exact af h1
 exact ah ⟨W,rb,od,h1,h2,h3,h4,h5,λb e=>⟨f _ (h6 b e).1,(h6 b e).2⟩,h7⟩
theorem io.c(h:io w sb F S q)(l:B w.1.size w V):io V sb (λb=>(b<w.1.size/\F b)\/V.1.size<=b) S q:=by
 obtain⟨n,m,h⟩:=h.a;have k:=h.f l;refine⟨n,m,k.a,af ⟨h.h,h.e⟩,k.d,λb e=>⟨af ⟨aU h.d e,(h.c b e).1⟩,(h.c b e).2⟩,h.g,h.j,?_⟩;rcases h.i with k|⟨W,rb,od,k,h2,h3,h4,h5,h6,h7⟩
 ·exact af k
 exact ah ⟨W,rb,od,k,h2,h3.b l,h4,h5,λb e=>⟨af ⟨ya h3 e,(h6 b e).1⟩,(h6 b e).2⟩,h7⟩
def yq(w2:Ω)(r a2:Nat)(n2:Int)(U:Ω):Prop:=U.cell? ⟨w2.1.size,0,J⟩=O (I Q (r:Int))/\U.cell? ⟨w2.1.size,1,J⟩=O (I Q (a2:Int))/\U.cell? ⟨w2.1.size,2,J⟩=O (I Q n2)
def rF(sb:Nat)(C:Array Value)(rv:Value)(U:Ω):Prop:=U.rangeAt sb 0 C.toList/\U.cell? ⟨sb,22,J⟩=O rv
def BG(g nb m:Nat)(nm x:List UInt8)(tt:List Int)(U:Ω):Prop:=U.cell? ⟨g,0,J⟩=O (Z (ae nm))/\U.cell? ⟨g,m,J⟩=O (Z (ae x))/\∀i v,(eQ tt)[i]?=O v->U.cell? ⟨nb,i,J⟩=O v
theorem Sh{x:eJ}{V:Ω}{ty:Nat}(h:V.1[sb]?=O (Δ (cM x rv wv) ty)):V.rangeAt sb 0 (bj x).toList:=λi v a=>by
 have b:i<22:=by have:=(gD.1 a).1;exact this
 rw[dj];refine(ck h).1 i v ?_;rw[rM]at a;unfold cM;rw[Array.getElem?_append_left (by exact b)];exact a
theorem Pu(l:List UInt8){k:Nat}(h:io w sb F S q)(hl:l.length<=300)(hp:(gW++[32]).isPrefixOf l=false)(hF:∀b,w.1.size<=b->F b)(hi:lQ S k)(hk:k<=99)(h60:∀W,S.c=O W->W.a.c W.b<=60)(hq:q<=6000000000000)(hd:oL S l S' t n):
   Φ prog 8 #[Y (O ⟨sb,0,J⟩),Z (ae l)] w (qS w sb F q S' t n):=by
  have hz:=aV l;have hI:¬(300:Int)<l.length:=om
  have hpre:¬(4:Int)<l.length\/((4:Int)<l.length/\(((ae l).extract 0 5).toList == [114,117,108,101,32])=false):=by
   by_cases h4:4<l.length
   ·refine ah ⟨om,?_⟩;cases e:((ae l).extract 0 5).toList == [114,117,108,101,32] with
   |false=>rfl
   |true=>rw[xB.2 ⟨h4,e⟩]at hp;cases hp
   exact af om
  have hco:eO l=jf l:=by unfold eO;rw[ag om,hp];rfl
  obtain⟨A,y,hw⟩:=pu 32 l;have HCut:H (∀V,Φ prog 14 #[Z (ae l),I .u8 32] V λe P=>∃g c,e=N (M (O ⟨g,0,J⟩) (y.length+1) c)/\uT P V.1.size g (A::y)/\B V.1.size V P):=λV=>by have:=Gr l V hl;rw[hw]at this;exact this
  have HWL:H (y.length<=300):=by have:=xF 32 l;rw[hw]at this;simp at this;show _<=_;omega
  have HWM:H (∀x,x∈A::y->x.length<=300):=λx hx=>by rw[<-hw]at hx;have:=ur 32 l x hx;omega
  have HMa:H (∀V,Φ prog 15 #[Z (ae A)] V λe P=>e=N (qQ (eS A))/\P=V):=λV=>ET A V
  have HNO:H (jf l=J->∀P,B w.1.size w P->qS w sb F q S' t n (N (Z (ae (iE 4)))) P):=λhc P R=>by
   rcases hd with ⟨_,rfl,rfl,rfl⟩|⟨c,h1,_⟩
   ·exact⟨rfl,⟨q,om,h.b R⟩,bH R F⟩
   rw[hco,hc]at h1;cases h1
  have HWN:H (eS A=J->jf l=J):=λR=>by unfold jf;rw[hw];simp only[R]
  have HWQ:H (∀a b,eS A=O (a,b)->y.length≠a+b->jf l=J):=λa b R hq=>by unfold jf;rw[hw];simp only[R];rw[ag hq]
  have HWX:H (∀a b,eS A=O (a,b)->y.length=a+b->jf l=match fZ (y.take a) with
  |some t=>O ⟨A,t,y.getD a []⟩
  |none=>J):=λa b R hq=>xM hw R hq
  have HCM:H (∀c,jf l=O c->qL S c S' t n):=λc hc=>qx (by rw[hco];exact hc) hd;have HD9:=hid (GW hd hi);have p:=hid h;have HF:=hid hF;have HI:=hid (And.intro hi (And.intro hk (And.intro h60 hq)));clear hw hp hco hd hF h hi hk h60 hq;go_enter func8,ntmps8;go_upto_region 3 with fail
  go_cut [27] from 20 to 27 (λc wx=>c=.bool false/\w=wx)
  case first=>
   rcases hpre with hpre|⟨hpre,hx⟩
   all_goals
    go_wp2;go_meet;exact⟨rfl,rfl⟩
  case rest=>
  obtain⟨rfl,rfl⟩:=hcut;clear hpre;go_wp2_with fail;refine(HCut.o _).m ?_;rintro e w1 ⟨g,cc,rfl,hwo,hb1⟩;have k0:=hwo.a 0 A rfl;have HWO:=hid hwo;have HB1:=hid hb1;clear hwo hb1;go_wp2_with fail;refine(HMa.o _).m ?_;rintro e D ⟨rfl,rfl⟩;cases hwb:eS A with
 |none=>
   unfold qQ;have hne:((y.length:Int)+1 != 0)=true:=by simp;omega
   go_wp2_with (go_at_call 12;refine(kf 4 _ dc).m ?_;rintro e w3 ⟨rfl,hb3⟩);go_ret;exact HNO.o (HWN.o hwb) _ (bQ HB1.o hb3)
 |some ab=>
   obtain⟨a,b⟩:=ab;have hab:=xO hwb;unfold qQ;by_cases hq:y.length=a+b
   ·have hne:((y.length:Int)+1 != 1+(a:Int)+(b:Int))=false:=(by simp;omega);have HST:H (tm D (D.alloc (Δ (eQ []) 71)) y 0):=⟨⟨[],rfl,bn D _⟩,ba⟩;have HQ:=hid hq;have HWB:=hid hwb;clear hq hwb;go_wp2_with fail;go_loopw [11,12,13] (λi _ _ V=>∃j:Nat,j<=a/\i=I Q (j:Int)/\tm D V y j) (λi _ _ _=>a-(intOf i).toNat)
    case atStart=>exact⟨0,om,rfl,HST.o⟩
    obtain⟨j,hj,rfl,hN⟩:=hrel;have HN:=hid hN;clear hN HST;by_cases hlt:j<a
    case pos=>
     have hJ:(j:Int)<a:=om;have hjw:j<y.length:=(by have:=HQ.o;omega);have hJ1:(1:Int)+j<(y.length:Int)+1:=om;obtain⟨x,hx⟩:∃x,y[j]?=O x:=⟨y[j],by simp[hjw]⟩;have HX:=hid hx;have cx:wr.cell? ⟨g,1+j,J⟩=O (Z (ae x)):=cz HN.o.a (HWO.o.a (1+j) x (by rw[Nat.add_comm 1 j];exact hx));have HNu:H (Φ prog 16 #[Z (ae x)] wr (wh x wr)):=BZ x wr (HWM.o x (rP _ (iW hx)));clear hx;go_wp2_with fail;refine HNu.o.m ?_;rintro e w3 ⟨v,rfl,hv,hb3⟩;have HB3:=hid (bQ (HB1.o.t (HN.o.a.m HB1.o.size)) hb3);have a0:=hid (bQ HN.o.a hb3);obtain⟨u,ht,hA⟩:=HN.o.b;have hA3:w3.1[D.1.size]?=O (Δ (eQ u) 71):=(hb3.block _ (bP.1 hA).1).trans hA;have htl:u.length=j:=(by rw[xm ht,fj];omega);cases hnx:eo x with
    |none=>
      have HZ:H (jf l=J):=(by show _=_;rw[HWX.o a b HWB.o HQ.o];have T:=Di (show j+1<=a by omega) (by rw[rY HX.o,ht,hnx]);rw[T]);simp only[ie];clear hb3 hv hA hA3 hnx ht htl;go_wp2_with (go_at_call 12;refine(kf 4 _ dc).m ?_;rintro e w4 ⟨rfl,hb4⟩);go_ret;exact HNO.o HZ.o _ (bQ HB3.o hb4)
    |some m=>
      have hvm:v=m:=hv m hnx;subst hvm;simp only[Option.isSome_some];obtain⟨p1,f1,_⟩:=ck hA3;have q1:=f1 j;obtain⟨v0,q0⟩:∃v,w3.cell? ⟨D.1.size,j,J⟩=O v:=⟨_,p1 j _ (oQ (show j<6 by omega))⟩;have hj6:(j:Int)<6:=om
      have HN5:H (tm D (w3.setCell ⟨D.1.size,j,J⟩ (I Q v)) y (j+1)):=by
       refine⟨⟨u++[v],?_,?_⟩,a0.o.c nl _⟩
       ·rw[rY HX.o,ht,hnx]
       simp only[World.setCell,dU,hA3,iP,kS,ie,iq,fL];rw[<-htl,EW u v om]
      clear hb3 hv hA hA3 p1 f1 hnx ht htl;go_wp2;go_roundw
      case rel=>exact⟨j+1,om,by go_num,HN5.o⟩
      simp[intOf];omega
    have hJ:¬(j:Int)<a:=om;obtain⟨u,ht,hA⟩:=HN.o.b;rw[show j=a by omega]at ht;have hR:=HCM.o ⟨A,u,y.getD a []⟩ (by rw[HWX.o a b HWB.o HQ.o,ht]);have HB:=hid (HB1.o.t (HN.o.a.m HB1.o.size));have k1:wr.cell? ⟨g,0,J⟩=O (Z (ae A)):=cz HN.o.a k0;clear ht HNO HWN HWQ HWX HCM HMa HCut k0;rcases Bj HWB.o with G|G|G|G|G
    ·obtain⟨rfl,rfl,rfl⟩:=FJ G hR;have e1:((ae A).toList == [115,101,116])=true:=(by rw[lG,G];rfl);obtain⟨X,wv,z⟩:=p.o.a;have E:=z.f HB.o;obtain⟨U,hM⟩:=QS E hA;have HFI:H (qS w sb F q { S with b:=⟨cj.n ⟨A,u,y.getD a []⟩ 0,cj.n ⟨A,u,y.getD a []⟩ 1,cj.n ⟨A,u,y.getD a []⟩ 2,cj.n ⟨A,u,y.getD a []⟩ 3,cj.n ⟨A,u,y.getD a []⟩ 4,cj.n ⟨A,u,y.getD a []⟩ 5,S.b.a⟩ } iy 0 (N (Z ⟨#[111,107]⟩)) (U.setCells sb 0 (bj ⟨u.getD 0 0,u.getD 1 0,u.getD 2 0,u.getD 3 0,u.getD 4 0,u.getD 5 0,S.b.a⟩).toList)):=(by obtain⟨h1,T⟩:=hM.d ⟨u.getD 0 0,u.getD 1 0,u.getD 2 0,u.getD 3 0,u.getD 4 0,u.getD 5 0,S.b.a⟩;exact⟨rfl,⟨q,om,E.k h1 T⟩,(bH HB.o F).a (T.e λb _ e=>by rw[e];exact E.e)⟩);have m0:U.cell? ⟨D.1.size,0,J⟩=O (I Q (u.getD 0 0)):=hM.a 0 _ rfl;have m1:U.cell? ⟨D.1.size,1,J⟩=O (I Q (u.getD 1 0)):=hM.a 1 _ rfl;have m2:U.cell? ⟨D.1.size,2,J⟩=O (I Q (u.getD 2 0)):=hM.a 2 _ rfl;have m3:U.cell? ⟨D.1.size,3,J⟩=O (I Q (u.getD 3 0)):=hM.a 3 _ rfl;have m4:U.cell? ⟨D.1.size,4,J⟩=O (I Q (u.getD 4 0)):=hM.a 4 _ rfl;have m5:U.cell? ⟨D.1.size,5,J⟩=O (I Q (u.getD 5 0)):=hM.a 5 _ rfl;generalize u.getD 0 0=n0 at *;generalize u.getD 1 0=n1 at *;generalize u.getD 2 0=n2 at *;generalize u.getD 3 0=n3 at *;generalize u.getD 4 0=n4 at *;generalize u.getD 5 0=n5 at *;obtain⟨C,hC⟩:∃C,C=bj ⟨n0,n1,n2,n3,n4,n5,S.b.a⟩:=⟨_,rfl⟩;obtain⟨PA,hPA⟩:∃PA,PA=rI S.b.a:=⟨_,rfl⟩;rw[<-hC]at HFI;have hra:=hM.e;have hth:=hM.g;have HEQ:=hid hM.c;have hra2:=hM.f;have hth2:U.there sb 0 C.size:=(by rw[hC];exact hM.h);have hi32:(prog.info? 32).map (·.size)=O PA.size:=(by rw[hPA];kernel_rfl);have hi32':(prog.info? 32).map (·.size)=O PA.toList.length:=(by rw[hPA];kernel_rfl);have ho32:PA.all (·.oneCell')=true:=(by rw[hPA];simp[rI,Value.oneCell']);have hi34:(prog.info? 34).map (·.size)=O C.size:=(by rw[hC];kernel_rfl);have ho34:C.all (·.oneCell')=true:=(by rw[hC];simp[bj,Value.oneCell']);rw[<-hPA]at hra hth HEQ hra2;have HC:=hid hC;have HPA:=hid hPA;unfold qR at hth HEQ;clear hM E z hA G hC hPA;go_wp2_with (first|(refine wpList_load_mid rfl 32 (.tmp 92) rfl sb 6 rfl PA.toList _ hra underlying32 rfl hi32' ?_)|(refine wpList_store_mid rfl 32 (.tmp 14) (.tmp 93) rfl wr.1.size 0 PA rfl rfl hth hi32 ho32 ?_;rw[HEQ.o])|(refine wpList_load_mid rfl 32 (.tmp 14) rfl wr.1.size 0 rfl PA.toList _ hra2 underlying32 rfl hi32' ?_)|(refine wpList_buildTo rfl 34 _ rfl _ rfl C (by rw[HC.o,HPA.o];kernel_rfl) ?_)|(refine wpList_store_mid rfl 34 (.tmp 110) (.tmp 108) rfl sb 0 C rfl rfl hth2 hi34 ho34 ?_));go_ret;exact HFI.o
    ·have e0:((ae A).toList == [115,101,116])=false:=(by rw[lG,G];rfl);have e1:((ae A).toList == [97,116])=true:=(by rw[lG,G];rfl);have hcl:=(ck hA).1;have m0:wr.cell? ⟨D.1.size,0,J⟩=O (I Q (u.getD 0 0)):=hcl 0 _ rfl;have m1:wr.cell? ⟨D.1.size,1,J⟩=O (I Q (u.getD 1 0)):=hcl 1 _ rfl;have m2:wr.cell? ⟨D.1.size,2,J⟩=O (I Q (u.getD 2 0)):=hcl 2 _ rfl;have HNB:H (D.1.size<wr.1.size/\w.1.size<=D.1.size):=⟨(bP.1 hA).1,HB1.o.size⟩;rcases Gs G hR with ⟨hbad,rfl,rfl,rfl⟩|⟨hok,rfl,rfl,rfl⟩
     ·unfold pC cj.n at hbad;dsimp only at hbad;have HNO:H (∀P,B w.1.size w P->qS w sb F q S' [] 1 (N (Z (ae (iE 1)))) P):=λP R=>⟨rfl,⟨q,om,p.o.b R⟩,bH R F⟩;generalize u.getD 0 0=n0 at *;generalize u.getD 1 0=n1 at *;generalize u.getD 2 0=n2 at *;have hd:n0<0\/(¬n0<0/\3<n0)\/(¬n0<0/\¬3<n0/\n1<0)\/(¬n0<0/\¬3<n0/\¬n1<0/\3<n1):=om;clear hbad hcl hA G hR;rcases hd with d0|⟨d0,d1⟩|⟨d0,d1,d2⟩|⟨d0,d1,d2,d3⟩
      all_goals
       go_wp2_with (go_at_call 12;refine(kf 1 _ dc).m ?_;rintro e w4 ⟨rfl,hb4⟩);go_ret;exact HNO.o _ (bQ HB.o hb4)
     obtain⟨⟨d0,d1⟩,d2,d3⟩:=hok;unfold cj.n at *;dsimp only at *;generalize u.getD 0 0=n0 at *;generalize u.getD 1 0=n1 at *;generalize u.getD 2 0=n2 at *;obtain⟨r,rfl⟩:∃r:Nat,n0=(r:Int):=⟨n0.toNat,om⟩;obtain⟨a2,rfl⟩:∃a2:Nat,n1=(a2:Int):=⟨n1.toNat,om⟩;rw[ir,ir];obtain⟨X,wv,z⟩:=p.o.a;have E:=z.f HB.o;obtain⟨p0,f0,-⟩:=ck E.a;obtain⟨ov,hov⟩:∃ov,(cM S.b X wv)[6+r*4+a2]?=O ov:=⟨_,oQ (by show 6+r*4+a2<24;omega)⟩;have co:=p0 _ _ hov;have fo:=f0 (6+r*4+a2);have HFI:H (qS w sb F q { S with b:={ S.b with a:=qJ S.b.a r a2 n2 } } iy 0 (N (Z ⟨#[111,107]⟩)) (wr.drew.setCell ⟨sb,6+r*4+a2,J⟩ (I Q n2))):=(by have T:ax (λb=>b=sb) wr (wr.drew.setCell ⟨sb,6+r*4+a2,J⟩ (I Q n2)):=qw (Fw ⟨rfl,rfl,rfl,aa _,λ_ _ _=>rfl⟩) rfl;exact⟨rfl,⟨q,om,E.k (vU E.a (GC S.b r a2 n2 X wv om om)) T⟩,(bH HB.o F).a (T.e λb _ e=>by rw[e];exact E.e)⟩);have i0:¬(r:Int)<0:=om;have i1:¬(3:Int)<r:=om;have i2:¬(a2:Int)<0:=om;have i3:¬(3:Int)<a2:=om;have i4:(r:Int)<4:=om;have i5:(a2:Int)<4:=om;have hne:D.1.size≠sb:=(by have:=z.h;have:=HNB.o.2;omega);have HS:H (∀V:Ω,∀v,yq D r a2 n2 V->yq D r a2 n2 (V.setCell ⟨sb,6+r*4+a2,J⟩ v)):=λV v hv=>(by have e:∀i,(V.setCell ⟨sb,6+r*4+a2,J⟩ v).cell? ⟨D.1.size,i,J⟩=V.cell? ⟨D.1.size,i,J⟩:=λi=>(by have:=bN V ⟨sb,6+r*4+a2,J⟩ v D.1.size hne;simp only[World.cell?,this]);exact⟨(e 0).trans hv.1,(e 1).trans hv.2.1,(e 2).trans hv.2.2⟩);have s:yq D r a2 n2 wr.drew:=⟨m0,m1,m2⟩;clear hcl hA G hR p0 f0 E z hov hne d0 d1 d2 d3;go_wp2_with fail;refine fG (S:=yq D r a2 n2) kr s (λ_=>?_);refine ar 0 132 (Y (O ⟨sb,0,J⟩)) s ?_;refine ar 1 133 (Y (O ⟨D.1.size,0,J⟩)) s ?_;refine ar 2 134 (I Q (r:Int)) s ?_ (hy:=af ⟨by rfl,λwx hS=>by obtain⟨r0,r1,r2⟩:=hS;go_simp⟩);refine ar 3 135 (Y (O ⟨D.1.size,1,J⟩)) s ?_;refine ar 4 136 (I Q (a2:Int)) s ?_ (hy:=af ⟨by rfl,λwx hS=>by obtain⟨r0,r1,r2⟩:=hS;go_simp⟩);refine ar 5 137 (Y (O ⟨D.1.size,2,J⟩)) s ?_;refine ar 6 138 (I Q n2) s ?_ (hy:=af ⟨by rfl,λwx hS=>by obtain⟨r0,r1,r2⟩:=hS;go_simp⟩);refine ar 7 139 (Y (O ⟨sb,0,J⟩)) s ?_;refine ar 8 140 (Y (O ⟨sb,0,J⟩)) s ?_;refine ar 9 141 (Y (O ⟨sb,6,J⟩)) s ?_;refine ar 10 142 (Y (O ⟨sb,6+r*4,J⟩)) s ?_;refine ar 11 143 (Y (O ⟨sb,6+r*4+a2,J⟩)) s ?_;refine a9 (rs:=[12]) kr sm ?_;refine aQ rfl (λK hK=>?_) aZ;go_simp;refine hK.out _ _ (HS.o _ _ s) (λ_=>?_);clear hK K;refine ea kr ?_ _;clear s;go_wp2;go_ret;exact HFI.o
    ·exfalso;have:=HWB.o;rw[G]at this;cases this
    ·have e0:((ae A).toList == [115,101,116])=false:=(by rw[lG,G];rfl);have e1:((ae A).toList == [97,116])=false:=(by rw[lG,G];rfl);have e2:((ae A).toList == [115,116,97,114,116])=true:=by rw[lG,G];rfl
     obtain⟨f,hfl⟩:∃f,pI S.b S.a f/\f<=9/\((f≠0/\∀P,B w.1.size w P->qS w sb F q S' t n (N (Z (ae (iE f)))) P)\/(f=0/\∃cf:aE,cf.h/\jt cf=S.b/\lz S.a 0/\S' = { S with c:=O ⟨cf,S.a,ay.k⟩ }/\t=iy/\n=0)):=by
      rcases DW G hR with ⟨h1,T,rfl,rfl⟩|⟨cf,h1,T,h3,h4⟩
      ·exact⟨n,h1,HD9.o,af ⟨T,λP R=>⟨by unfold eX;rw[ag T],⟨q,om,p.o.b R⟩,bH R F⟩⟩⟩
      exact⟨0,ah ⟨by rw[<-T];exact Ez h1,h3⟩,dc,ah ⟨rfl,cf,h1,T,h3,h4⟩⟩
     obtain⟨hf,hf9,hfd⟩:=hfl;obtain⟨X,wv,z⟩:=p.o.a;obtain⟨rq,rc,hrv,hr1,hr2,hr3⟩:=vS z.d;have HRS:H (∀V,B w.1.size w V->sT V rq rc S.a):=λV hV=>⟨hr1.c hV,hr2,hr3,by have:=z.j;omega,λr hr=>aP (um (z.g r hr)) dc⟩;have HR:H (∀V wv',V.1[sb]?=O (Δ (cM S.b X wv') 38)->rF sb (bj S.b) X V):=λV wv' hV=>⟨Sh hV,(ck hV).1 22 X rfl⟩;have HA0:=hid z;have hi':(prog.info? 34).map (·.size)=O (bj S.b).toList.length:=kr;have HWF:H (∀V,B w.1.size w V->Φ prog 17 #[.agg (bj S.b),X] V λe P=>e=N (I Q (f:Int))/\B V.1.size V P):=λV hV=>(by rw[hrv];have:=HRS.o V hV;exact Io S.b S.a rq rc V hf this.a this.b this.c);have HNW:H (∀cf:aE,jt cf=S.b->S.a.length<=6->∀V,B w.1.size w V->Φ prog 18 #[.agg (bj S.b),X] V λe P=>∃rb ow,e=N (Y (O ⟨rb,0,J⟩))/\dF P rb ow cf S.a ay.k 0 0/\(∀b,ow b≠0->V.1.size<=b)/\B V.1.size V P):=λcf hcf h6 V hV=>(by rw[hrv,<-hcf];exact IX cf S.a rq rc V (HRS.o V hV) h6);have HDA:H (∀V,B w.1.size w V->mE V sb F S q X wv):=λV hV=>z.f hV;generalize bj S.b=C at *;have s:rF sb C X wr.drew:=HR.o _ _ (z.f HB.o).a;have HFD:=hid hfd;clear hA G hR hf hfd z hr1 hr2 hr3 hrv;go_wp2_with fail;refine fG (S:=rF sb C X) kr s (λ_=>?_);refine ar 0 146 (Y (O ⟨sb,0,J⟩)) s ?_;refine ar 1 147 (Y (O ⟨sb,0,J⟩)) s ?_;refine ar 2 148 (Y (O ⟨sb,0,J⟩)) s ?_;refine ar 3 149 (.agg C.toList.toArray) s ?_ (hy:=yieldsIf_load_mid rfl 34 (.tmp 148) rfl sb 0 rfl C.toList _ (λ_ h=>h.1) underlying34 rfl hi');refine ar 4 150 (Y (O ⟨sb,0,J⟩)) s ?_;refine ar 5 151 (Y (O ⟨sb,0,J⟩)) s ?_;refine ar 6 152 (Y (O ⟨sb,22,J⟩)) s ?_;refine ar 7 153 X s ?_ (hy:=af ⟨by rfl,λwx hS=>by obtain⟨r0,r1⟩:=hS;go_simp⟩);rw[rO];refine a9 (rs:=[8]) kr sm ?_;refine aQ rfl (λK hK=>?_) aZ;go_simp;refine(HWF.o _ HB.o.drew).m ?_;rintro e w4 ⟨rfl,hb4⟩;have a0:=hid (bQ HB.o.drew hb4);clear hb4;have hS1:rF sb C X w4:=HR.o _ _ (HDA.o _ a0.o).a;go_wp2_with fail;refine hK.out _ _ hS1 (λ_=>?_);clear hK K;refine ar 9 15 (I Q (f:Int)) hS1 ?_;refine ea kr ?_ _;clear s hS1;rcases HFD.o with ⟨hf0,hfi⟩|⟨rfl,cf,h1,T,h3,rfl,rfl,rfl⟩
     ·have h0:(0:Int)<f:=om;have HFI:=hid hfi;have HF9:=hid hf9;clear hf0 hfi hf9;go_wp2_with (go_at_call 12;refine(kf f _ HF9.o).m ?_;rintro e w5 ⟨rfl,hb5⟩);go_ret;exact HFI.o _ (bQ a0.o hb5)
     have HNW':=hid (HNW.o cf T h3.b.1);have HOK:=hid (And.intro h1 h3.b.1);have L:rF sb C X w4.drew:=HR.o _ _ (HDA.o _ a0.o).a;clear h1 T h3 HNW HWF hf9;go_wp2_with fail;refine fG (S:=rF sb C X) kr L (λ_=>?_);refine ar 0 159 (Y (O ⟨sb,0,J⟩)) L ?_;refine ar 1 160 (Y (O ⟨sb,0,J⟩)) L ?_;refine ar 2 161 (Y (O ⟨sb,0,J⟩)) L ?_;refine ar 3 162 (Y (O ⟨sb,0,J⟩)) L ?_;refine ar 4 163 (.agg C.toList.toArray) L ?_ (hy:=yieldsIf_load_mid rfl 34 (.tmp 162) rfl sb 0 rfl C.toList _ (λ_ h=>h.1) underlying34 rfl hi');refine ar 5 164 (Y (O ⟨sb,0,J⟩)) L ?_;refine ar 6 165 (Y (O ⟨sb,0,J⟩)) L ?_;refine ar 7 166 (Y (O ⟨sb,22,J⟩)) L ?_;refine ar 8 167 X L ?_ (hy:=af ⟨by rfl,λwx hS=>by obtain⟨r0,r1⟩:=hS;go_simp⟩);rw[rO];refine a9 (rs:=[9]) kr sm ?_;refine aQ rfl (λK hK=>?_) aZ;go_simp;refine(HNW'.o _ a0.o.drew).m ?_;rintro e w5 ⟨rb,ow,rfl,hda,how,hb5⟩;have hb45:=bQ ((aj w4.1.size w4).drew) hb5;have hde5:=HDA.o _ (bQ a0.o hb45);have HFI:=hid ((HDA.o _ a0.o).n hb45 (λb R=>HF.o b (aP a0.o.size R)) HOK.o.1 HOK.o.2 hda how);have hS3:rF sb C X w5:=HR.o _ _ hde5.a;have c23:=(ck hde5.a).1 23 wv rfl;have f23:=(ck hde5.a).2.1 23;have hS4:rF sb C X (w5.setCell ⟨sb,23,J⟩ (Y (O ⟨rb,0,J⟩))):=HR.o _ (Y (O ⟨rb,0,J⟩)) (vU hde5.a rfl);clear hde5 hb45 hda how hb5;go_wp2_with fail;refine hK.out _ _ hS3 (λ_=>?_);clear hK K;refine ar 10 169 (Y (O ⟨sb,0,J⟩)) hS3 ?_;refine ar 11 170 (Y (O ⟨sb,23,J⟩)) hS3 ?_;refine a9 (rs:=[12]) kr sm ?_;refine aQ rfl (λK hK=>?_) aZ;go_simp;refine hK.out _ _ hS4 (λ_=>?_);clear hK K;refine ea kr ?_ _;clear L hS3 hS4 c23 f23;go_wp2;go_ret;exact⟨rfl,⟨q,om,HFI.o.1⟩,(bH a0.o F).a HFI.o.2⟩
    obtain⟨n1,n2,-,n3⟩:=uM G;have e0:((ae A).toList == [115,101,116])=false:=(by rw[lG];exact oV.2 n1);have e1:((ae A).toList == [97,116])=false:=(by rw[lG];exact oV.2 n2);have e2:((ae A).toList == [115,116,97,114,116])=false:=(by rw[lG];exact oV.2 n3);rcases vJ G hR with ⟨hwt,rfl,rfl,rfl⟩|⟨W,s',hW,ha,rfl⟩
    ·obtain⟨X,wv,z⟩:=p.o.a
     have hwv:wv=Y J:=by
      rcases z.i with ⟨_,T⟩|⟨W,rb,od,h1,_⟩
      ·exact T
      rw[hwt]at h1;cases h1
     have c23:wr.cell? ⟨sb,23,J⟩=O wv:=(ck (z.f HB.o).a).1 23 _ rfl;rw[hwv]at c23;clear hA G hR z hwv n1 n2 n3;go_wp2_with (go_at_call 12;refine(kf 5 _ dc).m ?_;rintro e w4 ⟨rfl,hb4⟩);go_ret;have R:=bQ HB.o hb4;exact⟨rfl,⟨q,om,p.o.b R⟩,bH R F⟩
    obtain⟨X,rb,od,E⟩:=(p.o.c HB.o).d hW;obtain⟨hi,hk,h60,hq⟩:=HI.o;obtain⟨hs,hwk⟩:=hi.b W hW;obtain⟨x,hx⟩:∃x,(A::y)[y.length]?=O x:=⟨(A::y)[y.length]'sm,bc sm⟩;have hxt:(∃a,eS A=O (a,1))->x=y.getD a []:=λ⟨a',ha'⟩=>(by rw[HWB.o]at ha';cases ha';rw[HQ.o,List.getElem?_cons_succ]at hx;rw[en,hx];rfl);have c23:=E.e;have k2:wr.cell? ⟨g,y.length,J⟩=O (Z (ae x)):=cz HN.o.a (HWO.o.a _ x hx);have HON:H (∀V,B wr.1.size wr V->V.1.size=wr.1.size->Φ prog 19 #[Y (O ⟨sb,0,J⟩),Z (ae A),.agg (eQ u),Z (ae x)] V λe P=>e=N (Z (ae (eX t n)))/\nQ V sb (λb=>(b<w.1.size/\F b)\/wr.1.size<=b) S q W s' P):=λV hV hz=>Se ⟨A,u,y.getD a []⟩ x (E.d hV) (λb R=>ah om) hxt (HWM.o x (iW hx)) om hwk (by have:=h60 W hW;omega) hq ha;have HLT:H (w.1.size<=g/\g<wr.1.size/\w.1.size<=D.1.size/\D.1.size<wr.1.size):=⟨HWO.o.b,rJ _ _ k1,HB1.o.size,(bP.1 hA).1⟩;have s:BG g D.1.size y.length A x u wr.drew:=⟨k1,k2,λi v hv=>(ck hA).1 i v hv⟩;have hwl:=HWL.o;have hsub:IntKind.i64.wrap (y.length:Int)=(y.length:Int):=uz _ om om;clear hA G hR E n1 n2 n3 hi hk h60 hq hs hwk hx hxt k2 ha hW;go_wp2_with fail;refine fG (S:=BG g D.1.size y.length A x u) kr s (λ_=>?_);refine ar 0 177 (Y (O ⟨sb,0,J⟩)) s ?_;refine ar 1 178 (M (O ⟨g,0,J⟩) (y.length+1) cc) s ?_;refine ar 2 179 (Y (O ⟨g,0,J⟩)) s ?_;refine ar 3 180 (Z (ae A)) s ?_ (hy:=af ⟨by rfl,λwx hS=>by obtain⟨r0,r1,r2⟩:=hS;go_simp⟩);refine ar 4 181 (.agg (eQ u).toList.toArray) s ?_ (hy:=yieldsIf_load_mid rfl 71 (.tmp 10) rfl D.1.size 0 rfl (eQ u).toList _ (λV h i v hv=>by rw[dj];exact h.2.2 i v (by rw[<-rM];exact hv)) underlying71 rfl kr);refine ar 5 182 (M (O ⟨g,0,J⟩) (y.length+1) cc) s ?_;refine ar 6 183 (M (O ⟨g,0,J⟩) (y.length+1) cc) s ?_;refine ar 7 184 (I Q ((y.length:Int)+1)) s ?_;refine ar 8 185 (I Q (y.length:Int)) s ?_;refine ar 9 186 (Y (O ⟨g,y.length,J⟩)) s ?_ (hy:=af ⟨by rfl,λwx _=>by go_simp;intro h;omega⟩);refine ar 10 187 (Z (ae x)) s ?_ (hy:=af ⟨by rfl,λwx hS=>by obtain⟨r0,r1,r2⟩:=hS;go_simp⟩);rw[rO];refine a9 (rs:=[11]) kr sm ?_;refine aQ rfl (λK hK=>?_) aZ;go_simp;refine(HON.o _ br.drew rfl).m ?_;rintro e w4 ⟨rfl,hdn⟩;have HDN:=hid hdn;have hkb:∀b i,w.1.size<=b->b<wr.1.size->w4.cell? ⟨b,i,J⟩=wr.cell? ⟨b,i,J⟩:=λb i h1 T=>by have e:=hdn.b.b b T (λe=>by rcases e with ⟨e,_⟩|e<;>omega);have e':w4.1[b]?=wr.1[b]?:=e;simp only[World.cell?,e']
    have hS1:BG g D.1.size y.length A x u w4:=⟨(hkb g 0 HLT.o.1 HLT.o.2.1).trans s.1,(hkb g _ HLT.o.1 HLT.o.2.1).trans s.2.1,λi v hv=>(hkb _ i HLT.o.2.2.1 HLT.o.2.2.2).trans (s.2.2 i v hv)⟩;clear hdn hkb;go_wp2_with fail;refine hK.out _ _ hS1 (λ_=>?_);clear hK K;refine ar 12 4 (Z (ae (eX t n))) hS1 ?_;refine ea kr ?_ _;clear s hS1;go_wp2;go_ret;obtain⟨q',h1,T⟩:=HDN.o.c;have hsz:=HB.o.size
    have hFF:∀b,(b<w.1.size/\F b)\/wr.1.size<=b->F b:=λb e=>by
     rcases e with ⟨_,e⟩|e
     ·exact e
     exact HF.o b (aP hsz e)
    have k4:=HDN.o.b;exact⟨rfl,⟨q',h1,T.e hFF⟩,(bH HB.o F).a ⟨k4.f,k4.h,k4.g,k4.c,λb R G=>k4.b b R (λe=>G (hFF b e))⟩⟩
   have hne:((y.length:Int)+1 != 1+(a:Int)+(b:Int))=true:=(by simp;omega);have HZ:=hid (HWQ.o a b hwb hq);clear hq;go_wp2_with (go_at_call 12;refine(kf 4 _ dc).m ?_;rintro e w3 ⟨rfl,hb3⟩);go_ret;exact HNO.o HZ.o _ (bQ HB1.o hb3)
end
end
section
open Go.RowKit Go.Maps
section
variable {w w' V:Ω}{sb q:Nat}{F G:Nat->Prop}{S S':bY}{rv wv:Value}{t:List UInt8}{n:Nat}
theorem Pv{c:cj}(d:c.b=gW)(h:qL S c S' t n):((¬∃u,bT (ae c.a) u)/\S'=S/\t=[]/\n=4)\/∃u,bT (ae c.a) u/\S' = { S with a:=S.a++[u] }/\t=iy/\n=0:=by
 rcases h with ⟨h,_⟩|⟨h,_⟩|⟨_,h⟩|⟨h,_⟩|⟨h,_⟩
 ·exact absurd (d.symm.trans h) dc
 ·exact absurd (d.symm.trans h) dc
 ·exact h
 ·exact absurd (d.symm.trans h) dc
 exact absurd d (uM h).2.2.1
theorem QY(l:List UInt8){k:Nat}(h:io w sb F S q)(z:l.length<=400)(v:∀b,w.1.size<=b->F b)(x:lQ S k)(D:k<=99)(o:∀W,S.c=O W->W.a.c W.b<=60)(E:q<=6000000000000)(p:oL S l S' t n):
  Φ prog 8 #[Y (O ⟨sb,0,J⟩),Z (ae l)] w (qS w sb F q S' t n):=by
 have g:S'=S->t=[]->n=4->∀e d,e=N (Z (ae (iE 4)))/\B w.1.size w d->qS w sb F q S' t n e d:=by rintro rfl rfl rfl e d ⟨A,y⟩;exact⟨A,⟨q,om,h.b y⟩,bH y F⟩
 by_cases i:300<l.length
 ·rcases p with ⟨_,h1,f,h3'⟩|⟨c,h1,_⟩
  ·exact(Po l w i z).m λe d s=>g h1 f h3' e d s
  unfold eO at h1;rw[ak i]at h1;cases h1
 cases hp:(gW++[32]).isPrefixOf l with
 |false=>exact Pu l h om hp v x D o E p
 |true=>
  have C:eO l=O ⟨gW,[],l.drop 5⟩:=(by unfold eO;rw[ag i,ak hp]);rcases Pv rfl (qx C p) with ⟨h1,f,r,j⟩|⟨u,h1,rfl,rfl,rfl⟩
  ·exact(KH l w om hp h1).m λe d s=>g f r j e d s
  exact(Pp l h v om hp h1 (by have:=x.a;omega)).m λe d ⟨f,r,j⟩=>⟨f,⟨q,om,r⟩,j⟩
end
end
section
open Go.RowKit Go.Maps
theorem EX(w:Ω): Φ prog 6 #[.nilIface,I Q 0] w λe a=>e=N (.bool true)/\a=w:=by go_enter func6,ntmps6;go_wp2;go_ret;exact⟨rfl,rfl⟩
theorem Sk(w:Ω): Φ prog 6 #[.iface 57 (I Q 2),I Q 2] w λe a=>e=N (.bool true)/\a=w:=by have b:=yG 2;go_enter func6,ntmps6;go_wp2;go_ret;exact⟨rfl,rfl⟩
section
variable {w w' V:Ω}{sb q:Nat}{F G:Nat->Prop}{S S':bY}{rv wv:Value}{t:List UInt8}{n:Nat}
theorem jA.e{b g c:Nat}{xs:List (List UInt8)}{m:Nat}(h:V.ownsRow b 9 1 (M (O ⟨g,0,J⟩) m c) xs.length (xs.map fX)):jA V (O ⟨g,0,J⟩) xs where
 a:=λf=>⟨g,0,rfl,(h.lt g rfl).2,λj l d=>by
  have:=h.cells (g:=g) rfl j (fX l) (by rw[eE,d];rfl);rw[dD]at this;rw[dj];exact this⟩
theorem jA.f(w:Ω)(xs:List (List UInt8)):jA (w.alloc (Δ (xs.map fX).toArray 9)) (O ⟨w.1.size,0,J⟩) xs where
 a:=λc=>⟨w.1.size,0,rfl,by simp,λj l b=>(ck (bn w _)).1 (0+j) _ (by rw[dj];simp[b,fX])⟩
theorem KK(w:Ω)(t:aT w)(u:cN w): Φ prog 4 #[] w λe i=>e=N (.bool true)/\B w.1.size w i:=by
 have z:H (∀V,V=w.alloc (Δ (yz.map fX).toArray 9)->Φ prog 5 #[M (O ⟨w.1.size,0,J⟩) 8 8] V λe i=>∃g,e=N (Ψ #[M (O ⟨g,0,J⟩) 8 8,.nilIface])/\jA i (O ⟨g,0,J⟩) qU/\B w.1.size w i):=λV p=>by
  have j:B w.1.size w V:=by rw[p];exact ba
  refine(Gp yz (O ⟨w.1.size,0,J⟩) 8 V (by rw[p];exact jA.f w yz) dc dc (t.a j) (p8 u j)).m ?_;rintro e i ⟨g,S,q,rfl,x,n,h⟩;have D:q=qU:=KJ x;subst D;exact⟨g,rfl,jA.e n,bQ j h⟩
 have A:H (∀V g,jA V (O ⟨g,0,J⟩) qU->Φ prog 9 #[M (O ⟨g,0,J⟩) 8 8,M (O ⟨V.1.size,0,J⟩) 8 8] (V.alloc (Δ (qU.map fX).toArray 9)) λe i=>e=N (.bool true)/\B V.1.size V i):=λV g p=>by have j:=(aj V.1.size V).l nl (Δ (qU.map fX).toArray 9);exact(yC (c:=8) (d:=8) qU (p.b j) (jA.f V qU) dc).m λe i ⟨v,h⟩=>⟨v,bQ j h⟩
 clear t u;go_enter func4,ntmps4;go_wp2_with fail;refine(z.o _ (by rfl)).m ?_;rintro e C ⟨g,rfl,n,k⟩;have s:=hid (A.o C g n);have r:=hid k;clear n k;go_wp2_with (first|(go_at_call 6;refine(EX _).m ?_;rintro e y ⟨rfl,rfl⟩)|(go_at_call 9;refine s.o.m ?_;rintro e y ⟨rfl,h⟩));go_ret;exact⟨rfl,bQ r.o h⟩
end
end
section
open Go.RowKit Go.Maps
section
variable {w w' w2 V V':Ω}{sb q:Nat}{F G:Nat->Prop}{S S' S9:bY}{v:Value}{L as_:List (List UInt8)}{j:Nat}
structure wl (w2 V:Ω) (sb:Nat) (L as_:List (List UInt8)) (S9:bY) (j:Nat) (v:Value):Prop where
 e:∃F S q,mA S (L.drop j) S9 (as_.drop j)/\lQ S j/\io V sb F S q/\q<=j*300000000/\(∀b,F b->w2.1.size<=b)/\(∀b,v.ownBlock=O b->¬F b)
 c:V.ownsRow w2.1.size 9 1 v j ((as_.take j).map fX)
 a:B w2.1.size w2 V
theorem MN{l:List (List UInt8)}{a:List UInt8}{r:List (List UInt8)}(h:l.drop j=a::r):l[j]?=O a/\r=l.drop (j+1):=by
 have b:(l.drop j)[0]?=O a:=by rw[h];rfl
 rw[pR,Nat.add_zero]at b;refine⟨b,?_⟩;rw[<-List.tail_drop,h];rfl
theorem io.h(h:io w sb F S q):io w sb (λb=>F b/\b<w.1.size) S q:=by
 obtain⟨k,f,h⟩:=h.a;refine⟨k,f,h.a,⟨h.e,h.h⟩,h.d,λb e=>⟨⟨(h.c b e).1,aU h.d e⟩,(h.c b e).2⟩,h.g,h.j,?_⟩;rcases h.i with h1|⟨W,rb,od,h1,h2,h3,h4,h5,h6,h7⟩
 ·exact af h1
 exact ah ⟨W,rb,od,h1,h2,h3,h4,h5,λb e=>⟨⟨(h6 b e).1,ya h3 e⟩,(h6 b e).2⟩,h7⟩
theorem io.g(h:io w sb F S q)(e:w.1.size<=w'.1.size)(d:∀b,b<w.1.size->F b->w'.1[b]?=w.1[b]?):io w' sb F S q:=by obtain⟨f,c,h⟩:=h.a;exact⟨f,c,h.l e d⟩
structure Ug (V:Ω) (sb:Nat) (S:bY) (wv:Value):Prop where
 a:V.cell? ⟨sb,23,J⟩=O wv
 b:(wv=Y J/\S.c=J)\/∃W rb tb ep ec,wv=Y (O ⟨rb,0,J⟩)/\S.c=O W/\V.cell? ⟨rb,39,J⟩=O (Y (O ⟨tb,0,J⟩))/\V.cell? ⟨tb,2,J⟩=O (M ep (W.a.c W.b) ec)/\W.a.c W.b<=1000
theorem io.f(h:io V sb F S q):∃b,Ug V sb S b:=by
 obtain⟨r,b,h⟩:=h.a;refine⟨b,(ck h.a).1 23 _ rfl,?_⟩;rcases h.i with ⟨h1,h2⟩|⟨W,rb,od,h1,h2,h3,h4,_⟩
 ·exact af ⟨h2,h1⟩
 obtain⟨p,j⟩:=h3.a;obtain⟨o,m,_⟩:=j.l;obtain⟨n,c,k⟩:=m.g;have d:=k.a;rw[sG]at d;exact ah ⟨W,rb,p.a,n,c,h2,h1,j.e om,d,GZ h4⟩
theorem wl.d{x:List UInt8}{a V3:Ω}{q:Value}{s:Nat}(h:wl w2 V sb L as_ S9 j v)(m:a.ownsRow w2.1.size 9 1 v j ((as_.take j).map fX))
  (z:mA S' (L.drop (j+1)) S9 (as_.drop (j+1)))(A:lQ S' (j+1))(D:as_[j]?=O x)(C:io a sb F S' s)(G:s<=(j+1)*300000000)(y:∀b,F b->w2.1.size<=b)(u:∀b,v.ownBlock=O b->¬F b)(k:B w2.1.size w2 a)
  (E:V3.ownsRow w2.1.size 9 1 q (j+1) ((as_.take j).map fX++[Z (ae x)]))(p:(a.alloc (Δ #[Z (ae x)] 9)).grownBy V3 v.ownBlock)(r:∀b,q.ownBlock=O b->v.ownBlock=O b\/a.1.size<b):wl w2 V3 sb L as_ S9 (j+1) q:=by
 have i:=(aj a.1.size a).l nl (Δ #[Z (ae x)] 9);have o:a.1.size<=V3.1.size:=aP i.size p.size;have n:∀b,v.ownBlock=O b->w2.1.size<=b:=λb e=>(bG m b e).1;have w:∀b,b<a.1.size->v.ownBlock≠O b->V3.1[b]?=a.1[b]?:=λb f e=>(p.block b (bg f i.size) (λK=>e K.symm)).trans (i.block b f);refine⟨⟨_,S',s,z,A,C.h.g o (λb f c=>w b f (λe=>u b e c.1)),G,λb f=>y b f.1,λb e c=>?_⟩,?_,?_⟩
 ·rcases r b e with h1|h1
  ·exact u b h1 c.1
  have:=c.2;omega
 ·rw[jL,D,Option.toList_some,iY];exact E
 refine k.t ⟨p.os,p.tape,p.output,o,λb f=>w b (bg f k.size) (λe=>?_)⟩;have:=n b e;omega
theorem Q0{a e s g n m c:Nat}{xs:List Value}(h:V.ownsRow a e s (M (O ⟨g,0,J⟩) n c) m xs):m<=c:=by
 rcases h.2 with ⟨h1,_⟩|⟨g',c',cur,h1,h2⟩
 ·cases h1
 cases h1;exact h2.2.2.1
theorem Ig(L:List (List UInt8))(q:Option Addr)(cap:Nat)(w:Ω)(hL:jA w q L)(hnil:q=J->L=[]/\cap=0)(hn:L.length<=9223372036854775807)(hsz:∀l,l∈L->l.length<=9223372036854775807)(hT:aT w)(hg:cN w):
  Φ prog 3 #[M q L.length cap] w λe w'=>e=N (.bool true)/\B w.1.size w w':=by
 have HH:H (Φ prog 4 #[] w λe w'=>e=N (.bool true)/\B w.1.size w w'):=KK w hT hg;have HT:=hid hT;have HG:=hid hg;have HL:=hid hL;have HSZ:=hid hsz;obtain⟨i9,hi9,hz9,hs9,hb9⟩:=eb vY;have HNIL:H (q=J->L.length=0/\cap=0):=λe=>by obtain⟨h1,h2⟩:=hnil e;exact⟨by rw[h1];rfl,h2⟩
 clear hL hsz hT hg hnil;go_enter func3,ntmps3;go_wp2_with fail;refine HH.o.m ?_;rintro e w1 ⟨rfl,hb1⟩;have T:=hid hb1;clear hb1 HH;by_cases h110:110<L.length
 ·have hI:(110:Int)<L.length:=om;go_wp2;go_ret;exact⟨rfl,T.o⟩
 have hI:¬(110:Int)<L.length:=om;go_wp2_with fail;go_loopw [4] (λi V=>∃j:Nat,j<=L.length/\i=I Q (j:Int)/\V=w1/\∀l,l∈L.take j->l.length<=400) (λi _=>L.length-(intOf i).toNat)
 case atStart=>exact⟨0,om,rfl,rfl,λl R=>by simp at R⟩
 case round=>
  obtain⟨j,hj,rfl,rfl,h400⟩:=hrel;have H4:=hid h400;clear h400;by_cases C:j<L.length
  case pos=>
   have hJ:(j:Int)<L.length:=om;obtain⟨l,R⟩:∃l,L[j]?=O l:=⟨L[j],by simp[C]⟩;obtain⟨g,o,rfl,_,hc⟩:=HL.o.a (λe=>by rw[e]at C;cases C);have c0:wr.cell? ⟨g,o+j,J⟩=O (Z (ae l)):=cz T.o (hc j l R);have hz:=aV l;have hlz:=HSZ.o l (iW R);have HX:=hid R;clear hc R;by_cases h4:400<l.length
   ·have hK:(400:Int)<l.length:=om;go_wp2;go_ret;exact⟨rfl,T.o⟩
   have hK:¬(400:Int)<l.length:=om;go_wp2;go_roundw
   case rel=>
    refine⟨j+1,om,by go_num,by first|rfl|trivial,λy hy=>?_⟩;rw[jL,HX.o,Option.toList_some]at hy;rcases dP.1 hy with h|h
    ·exact H4.o y h
    simp at h;rw[h];omega
   simp[intOf];omega
  case neg=>
   have hJ:¬(j:Int)<L.length:=om;have HL4:H (∀l,l∈L->l.length<=400):=(by intro l R;exact H4.o l (by rw[ip om];exact R));clear H4
   have HNW:H (L.length≠0->∃ad,q=O ad/\∀i u,(L.map fX)[i]?=O u->wr.cell? (ad.add i)=O u):=λh0=>by
    obtain⟨g,o,rfl,_,hc⟩:=HL.o.a (λe=>h0 (by rw[e];rfl));refine⟨_,rfl,λi u U=>?_⟩;rw[eE]at U;cases e:L[i]? with
   |none=>rw[e]at U;cases U
   |some l=>
     rw[e]at U;cases U;rw[Addr.add_mid];exact cz T.o (hc i l e)
   have HON:H (∀u∈L.map fX,u.oneCell'=true):=λu U=>(by obtain⟨l,_,rfl⟩:=iH.1 U;rfl);have HML:H (L.length<=maxLen):=(by show _<=_;unfold maxLen;omega);have HBY:H (L.length*16<=140737488355328):=(by show _<=_;omega);have HLN:H ((L.map fX).length=L.length*1):=(by show _=_;simp);go_wp2_with (at_builtin;refine BM _ rfl _ _ 22 rfl 9 i9 (Z ⟨#[]⟩) 1 16 underlying22 hi9 hz9 hs9 hb9 rfl dc rfl q L.length cap (L.map fX) rfl HNIL.o HLN.o HNW.o HON.o HML.o HBY.o ?_);intro v1 V1 hown1 hbl1;have a0:=hown1.alloc (Δ #[Z ⟨#[109,97,114,107]⟩] 9);have HV1:=hid (bQ T.o hbl1);have hs1:wr.1.size<=V1.1.size:=hbl1.size;clear hown1 hbl1;go_wp2_with (at_builtin;refine iB _ rfl _ _ 22 rfl wr.1.size 9 i9 (Z ⟨#[]⟩) 1 16 underlying22 hi9 hz9 hs9 hb9 rfl dc _ _ _ rfl a0 ⟨V1.1.size,0,J⟩ 1 1 [Z ⟨#[109,97,114,107]⟩] rfl rfl ?q1 ?q2 om ?q3 ?q4 ?q5 (V1.1.size+1) ?q6 ?_)
   try case q1=>
    intro i u hi
    match i,hi with
   |0,hi=>simp at hi;subst hi;simp[Addr.add]
   try case q2=>first|rfl|(intro u U;simp at U;subst U;rfl)
   try case q3=>unfold maxLen;omega
   try case q4=>omega
   try case q5=>simp;omega
   try case q6=>simp
   intro g2 c2 V2 G k hat2 hlt2;have hc2:L.length+1<=c2:=Q0 G
   have hL2:jA V2 (O ⟨g2,0,J⟩) L:=⟨λ_=>⟨g2,0,rfl,hlt2,λi l hi=>by
    have:=G.cells (g:=g2) rfl i (fX l) (by rw[gO (by rw[jp];exact(gD.1 hi).1),eE,hi];rfl);rw[dD]at this;rw[dj];exact this⟩⟩
   have HB2:H (B w.1.size w V2):=(by refine HV1.o.t ⟨k.os,k.tape,k.output,aP sm k.size,λb E=>?_⟩;have hb1:b<V1.1.size:=bg E HV1.o.size;have hlo:=T.o.size;rw[k.block b (by simp;omega) (λe=>by have:=(bG a0 b e.symm).1;omega),cX _ _ _ hb1]);have HL2:=hid hL2;have hc2I:(L.length:Int)<=c2:=om;clear G k hat2 hlt2 hL2 a0 HNW HON HLN HBY HML HV1 hs1;by_cases h100:100<L.length
   ·have hI2:(100:Int)<L.length:=om;have HRN:H (Φ prog 5 #[M (O ⟨g2,0,J⟩) L.length c2] V2 λe w'=>e=N (Ψ #[M J 0 0,.iface 57 (I Q 2)])/\w'=V2):=Pi _ _ _ _ h100 om;go_wp2_with fail;refine HRN.o.m ?_;rintro e D ⟨rfl,rfl⟩;go_wp2_with (go_at_call 6;refine(Sk _).m ?_;rintro e w4 ⟨rfl,rfl⟩);go_ret;exact⟨rfl,HB2.o⟩
   ·have hI2:¬(100:Int)<L.length:=om;have HRN:H (Φ prog 5 #[M (O ⟨g2,0,J⟩) L.length c2] V2 λe w'=>∃g S s,e=N (Ψ #[M (O ⟨g,0,J⟩) L.length L.length,.nilIface])/\mA oN L S s/\w'.ownsRow V2.1.size 9 1 (M (O ⟨g,0,J⟩) L.length L.length) L.length (s.map fX)/\B V2.1.size V2 w'):=Gp L _ _ _ HL2.o om HL4.o (HT.o.a HB2.o) (p8 HG.o HB2.o);go_wp2_with fail;refine HRN.o.m ?_;rintro e D ⟨go,S9,s,rfl,A,z,hb3⟩;have hal:=A.b;have hout:jA D (O ⟨go,0,J⟩) s:=jA.e (by rw[hal];exact z);have HOU:=hid hout;have HL3:=hid (HL2.o.b hb3);have HB3:=hid (bQ HB2.o hb3);have HSY:=hid A;have HAL:=hid hal;clear A z hb3 hout hal HRN;go_wp2_with fail;refine(KI _).m ?_;rintro e w4 ⟨rfl,a1,hb4⟩;have HI0:H (wl D w4 D.1.size L s S9 0 (M J 0 0)):=⟨⟨_,oN,0,HSY.o,Gn,a1,aX _,λb E=>E,λb e=>by cases e⟩,fH _ _ _ _,hb4⟩;clear a1 hb4;go_wp2_with fail;go_loopw [9,10,11] (λv i _ V=>∃j:Nat,j<=L.length/\i=I Q (j:Int)/\wl D V D.1.size L s S9 j v) (λ_ i _ _=>L.length-(intOf i).toNat)
    case atStart=>exact⟨0,om,rfl,HI0.o⟩
    case round=>
     obtain⟨j,hj,rfl,hI⟩:=hrel;have HI:=hid hI;have HBW:=hid (HB3.o.t (hI.a.m HB3.o.size));clear hI HI0;by_cases C:j<L.length
     case pos=>
      have hJ:(j:Int)<L.length:=om;obtain⟨l,R⟩:∃l,L[j]?=O l:=⟨L[j],by simp[C]⟩;obtain⟨F,S,q0,A,hse,a1,hq0,hF,hnF⟩:=HI.o.e;rw[show L.drop j=l::L.drop (j+1) by rw[List.drop_eq_getElem_cons C];rw[bc C]at R;cases R;rfl]at A;obtain⟨S1,t,n,r,hdo,x,hr⟩:=A;obtain⟨hx,rfl⟩:=MN hr;obtain⟨wv,hak⟩:=a1.f;obtain⟨g,o,rfl,_,hc⟩:=HL.o.a (λe=>by rw[e]at C;cases C);have c0:wr.cell? ⟨g,o+j,J⟩=O (Z (ae l)):=cz HBW.o (hc j l R);have c23:=hak.a;have HAK:=hid hak.b;have HSA:H ((∀W,S.c=O W->W.a.c W.b<=60)->Φ prog 8 #[Y (O ⟨D.1.size,0,J⟩),Z (ae l)] wr (qS wr D.1.size (λb=>(b<wr.1.size/\F b)\/wr.1.size<=b) q0 S1 t n)):=λh60=>QY l (a1.c br) (HL4.o l (iW R)) (λb E=>ah E) hse om h60 om hdo;have HNX:=hid (And.intro x (And.intro (hse.d hdo) (And.intro hx (And.intro hq0 (And.intro hF hnF)))));clear hc R x hse a1 hq0 hF hnF hdo hx hr hak;go_upto_region 18 with fail
      go_cut [80] from 62 to 80 (λc wx=>∃b,c=.bool b/\(b=false->∀W,S.c=O W->W.a.c W.b<=60)/\wr=wx)
      case first=>
       rcases HAK.o with ⟨rfl,hw⟩|⟨W,rb,tb,ep,ec,rfl,hw,c39,c2,hcl⟩
       ·have HW:=hid hw;clear hw;go_wp2;go_meet;exact⟨false,rfl,(λ_ W h=>by rw[HW.o]at h;cases h),rfl⟩
       have HW:=hid hw;clear hw;obtain⟨m,hm⟩:∃m,m=W.a.c W.b:=⟨_,rfl⟩;rw[<-hm]at c2 hcl;have HM:=hid hm;clear hm;by_cases h60:60<m
       ·have h6:(60:Int)<m:=om;go_wp2;go_meet;exact⟨true,rfl,(λh=>by cases h),rfl⟩
       have h6:¬(60:Int)<m:=om;go_wp2;go_meet;exact⟨false,rfl,(λ_ W' h=>by rw[HW.o]at h;cases h;rw[<-HM.o];omega),rfl⟩
      case rest=>
      obtain⟨b,rfl,E,rfl⟩:=hcut;cases b with
     |true=>
       go_wp2;go_ret;exact⟨rfl,HBW.o⟩
     |false=>
       have HS8:=hid (HSA.o (E rfl));clear E c23 HSA HAK;go_wp2_with fail;refine ac HS8.o ?_;rintro e w5 ⟨rfl,⟨q',hq',hde5⟩,hkp⟩;obtain⟨x,hse2,hx,hq0,hF,hnF⟩:=HNX.o
       have hF':∀b,(b<wr.1.size/\F b)\/wr.1.size<=b->D.1.size<=b:=λb e=>by
        rcases e with ⟨_,e⟩|e
        ·exact hF b e
        exact aP HI.o.a.size e
       have hn':∀b,u9.ownBlock=O b->¬((b<wr.1.size/\F b)\/wr.1.size<=b):=λb E e=>by
        rcases e with ⟨_,e⟩|e
        ·exact hnF b E e
        have:=aU HI.o.c E;omega
       have K:w5.ownsRow D.1.size 9 1 u9 j ((s.take j).map fX):=aS HI.o.c (λb E=>hkp.b b (aU HI.o.c E) (hn' b E));have hbl5:B D.1.size D w5:=HI.o.a.t (hkp.i HI.o.a.size (λb E e=>by have:=hF' b e;omega));obtain⟨X,hX⟩:∃X,X=eX t n:=⟨_,rfl⟩;rw[<-hX]at hx⊢;have a0:=K.alloc (Δ #[Z (ae X)] 9);have hs5:D.1.size<=w5.1.size:=hbl5.size
       have HLP:H (∀V3 g3 c3,V3.ownsRow D.1.size 9 1 (M (O ⟨g3,0,J⟩) (j+1) c3) (j+1) ((s.take j).map fX++[Z (ae X)])->(w5.alloc (Δ #[Z (ae X)] 9)).grownBy V3 u9.ownBlock->(u9.ownBlock=O g3\/g3=w5.1.size+1)->wl D V3 D.1.size L s S9 (j+1) (M (O ⟨g3,0,J⟩) (j+1) c3)):=λV3 g3 c3 ho hg hat=>HI.o.d K x hse2 hx hde5 om hF' hn' hbl5 ho hg (λb e=>by
        have e':g3=b:=(by simpa [Value.ownBlock] using e);subst e';rcases hat with h|h
        ·exact af h
        ·exact ah om)
       clear x hse2 hx hq0 hF hnF hF' hn' K hbl5 hde5 hkp hX hq' HNX HS8;go_wp2_with (at_builtin;refine iB _ rfl _ _ 22 rfl D.1.size 9 i9 (Z ⟨#[]⟩) 1 16 underlying22 hi9 hz9 hs9 hb9 rfl dc _ _ _ rfl a0 ⟨w5.1.size,0,J⟩ 1 1 [Z (ae X)] rfl rfl ?r1 ?r2 om ?r3 ?r4 ?r5 (w5.1.size+1) ?r6 ?_)
       try case r1=>
        intro i u hi
        match i,hi with
       |0,hi=>simp at hi;subst hi;simp[Addr.add]
       try case r2=>first|rfl|(intro u U;simp at U;subst U;rfl)
       try case r3=>unfold maxLen;omega
       try case r4=>omega
       try case r5=>simp;omega
       try case r6=>simp
       intro g6 c6 V6 hown6 P hat6 hlt6;have HN6:=hid (HLP.o V6 g6 c6 (by rw[List.map_take];exact hown6) P hat6);clear hown6 P hat6 hlt6 a0 HLP;go_wp2;go_roundw
       case rel=>exact⟨j+1,om,by go_num,HN6.o⟩
       simp[intOf];omega
     have hJ:¬(j:Int)<L.length:=om;have z:=HI.o.c;have hjl:j=s.length:=(by rw[HAL.o];omega);rw[hjl,eL]at z
     obtain⟨p6,c6,hv6,hon6⟩:∃p c,u9=M p L.length c/\jA wr p s:=by
      rcases z.2 with ⟨rfl,h0⟩|⟨g',c',cur,hv,_⟩
      ·exact⟨J,0,by rw[<-HAL.o,h0],⟨λh=>absurd (iG.1 h0) h⟩⟩
      subst hv;exact⟨_,c',by rw[<-HAL.o],jA.e z⟩
     subst hv6;have hla:s.length<=1000:=(by rw[HAL.o];omega);have HS1:H (∀V,B wr.1.size wr V->Φ prog 9 #[M (O ⟨go,0,J⟩) L.length L.length,M p6 L.length c6] V λe w'=>e=N (.bool true)/\B V.1.size V w'):=λV hV=>(by have:=yC (c:=L.length) (d:=c6) s ((HOU.o.b HI.o.a).b hV) (hon6.b hV) hla;rw[HAL.o]at this;exact this);have HS2:H (∀V,B wr.1.size wr V->Φ prog 9 #[M (O ⟨g2,0,J⟩) L.length c2,M q L.length cap] V λe w'=>e=N (.bool true)/\B V.1.size V w'):=λV hV=>yC L ((HL3.o.b HI.o.a).b hV) ((HL.o.b HBW.o).b hV) om;clear z hjl hon6 hla;go_wp2_with fail;refine(EX _).m ?_;rintro e w5 ⟨rfl,rfl⟩;go_wp2_with fail;refine(HS1.o _ br).m ?_;rintro e w6 ⟨rfl,hb6⟩;have HB6:=hid hb6;clear hb6;go_wp2_with fail;refine(HS2.o _ HB6.o).m ?_;rintro e w7 ⟨rfl,hb7⟩;go_wp2;go_ret;exact⟨rfl,bQ (bQ HBW.o HB6.o) hb7⟩
end
end
section
open Go.RowKit Go.ChangeShapes Go.WideShapes Go.ChangeAt Go.Deep
theorem vK{P:Program}{w:Ω}:∀{l:List (String×DataW Unit)} {ps:List MemPlace},DataW.LaidVars P w l ps->∀n d,(n,d)∈l ->
  ∃g t b a p,P.globalNamed n=O g/\(P.globals[g]?).map (·.type)=O t/\w.var? P n=O b/\DataW.trod (λ_=>()) P w 0 (λ_=>true) false a t b.toList=O (d,p)
 |[],_,_,n,d,h=>by cases h
 |(m,x)::r,ps,hl,n,d,h=>by
  obtain⟨g,t,b,a,p,q,j,k,c,i,f,o⟩:=hl;rcases jN.1 h with e|e
  ·cases e;exact⟨g,t,b,a,p,j,k,c,i⟩
  exact vK f n d e
section
variable {P:Program}{w:Ω}{base:Nat}{spare:Nat->Bool}{held:Bool}{fuel:Nat}
theorem EY{t e:TypeId}{n i:Nat}{c:List Value}{a:List (DataW Unit)}{d:DataW Unit}{p:List MemPlace}(j:P.underlying t=O (.array n e))
  (h:DataW.trod (λ_=>()) P w base spare held fuel t c=O (.agg a,p))(k:i<n)(f:a[i]?=O d):
  ∃m q,DataW.trod (λ_=>()) P w base spare held m e ((c.drop (i*P.cellsOf e)).take (P.cellsOf e))=O (d,q):=by
 obtain⟨r,m,_,b,_,o,g⟩:=DataW.trod_array j h;simp only[Prod.mk.injEq,DataW.agg.injEq]at b;obtain⟨rfl,_⟩:=b;rw[eE]at f;obtain⟨y,l,rfl⟩:=Option.map_eq_some_iff.1 f;exact⟨m,y.2,by rw[g i k,l]⟩
theorem JB{t:TypeId}{a:Array Field}{f:Field}{i:Nat}{e:List Value}{b:List (DataW Unit)}{d:DataW Unit}{p:List MemPlace}(k:P.underlying t=O (.struct a))
  (h:DataW.trod (λ_=>()) P w base spare held fuel t e=O (.agg b,p))(l:a[i]?=O f)(g:b[i]?=O d):
  ∃m q,DataW.trod (λ_=>()) P w base spare held m f.type ((e.drop f.offset).take (P.cellsOf f.type))=O (d,q):=by
 obtain⟨r,m,_,c,_,o,j⟩:=DataW.trod_struct k h;simp only[Prod.mk.injEq,DataW.agg.injEq]at c;obtain⟨rfl,_⟩:=c;rw[eE]at g;obtain⟨y,n,rfl⟩:=Option.map_eq_some_iff.1 g;exact⟨m,y.2,by rw[j i f l,n]⟩
theorem Pw{t:TypeId}{k:IntKind}{a:List Value}{z:Int}{p:List MemPlace}(c:P.underlying t=O (.int k))
  (h:DataW.trod (λ_=>()) P w base spare held fuel t a=O (.lit (.int k z),p)):a=[I k z]:=by
 obtain⟨n,rfl,b,_⟩:=DataW.trod_int c h;simp only[Prod.mk.injEq,DataW.lit.injEq,Lit.int.injEq,true_and]at b;rw[b.1]
theorem JA{t:TypeId}{a:List Value}{l:List UInt8}{p:List MemPlace}(c:P.underlying t=O .string)
  (h:DataW.trod (λ_=>()) P w base spare held fuel t a=O (.lit (.string l),p)):a=[Z ⟨l.toArray⟩]:=by
 obtain⟨s,rfl,b,_⟩:=DataW.trod_string c h;simp only[Prod.mk.injEq,DataW.lit.injEq,Lit.string.injEq]at b;rw[b.1]
end
theorem Tu{l:List Value}{a b j:Nat}{x:Value}(h:(((l.drop a).take b).drop j).take 1=[x]):l[a+j]?=O x:=by
 have:=congrArg (·[0]?) h;simp only[List.getElem?_take,pR,Nat.add_zero,List.getElem?_cons_zero]at this;revert this;simp only[Nat.lt_one_iff,iP];intro c;split at c
 ·exact c
 cases c
theorem Tt{l:List Value}{a:Nat}{x:Value}(h:(l.drop a).take 1=[x]):l[a]?=O x:=by have:=congrArg (·[0]?) h;simpa [List.getElem?_take,pR] using this
theorem Ut:prog.cellsOf 3=1:=kr
theorem Ia:prog.cellsOf 9=1:=kr
theorem Uv:prog.cellsOf 245=1:=kr
theorem Uu:prog.cellsOf 299=20:=kr
theorem Uh:prog.cellsOf 263=4:=kr
def lP(k:Nat):DataW Unit:=.agg [.lit (.int Q (bi k)),.lit (.int Q (bm k)),.lit (.int Q (bq k)),.lit (.int Q (bO k))]
theorem Q1:(Rows.laid_internal_strconv_uint64pow10:DataW Unit)=Lib.tabData .u64 Lib.pow10Tab:=kr
theorem G9{W:Ω}{ps:List MemPlace}(h:DataW.LaidVars prog W Rows.consoleSaysRow.laid ps){nm:String}{d:List (DataW Unit)}{g t n j:Nat}{l:List UInt8}(s:(nm,.agg d)∈(Rows.consoleSaysRow.laid:List (String×DataW Unit)))(i:prog.globalNamed nm=O g)(r:(prog.globals[g]?).map (·.type)=O t)(o:prog.underlying t=O (.array n 9))(k:j<n)(u:d[j]?=O (.lit (.string l))):W.cell? ⟨g,j,J⟩=O (Z ⟨l.toArray⟩):=by obtain⟨y,w,x,f,p,c,b,v,a⟩:=vK h _ _ s;obtain rfl:=np (i.symm.trans c);obtain rfl:=np (r.symm.trans b);obtain⟨m,q,e⟩:=EY o a k u;rw[Ia,Nat.mul_one]at e;have:=Tt (JA underlying9 e);rw[World.var?_cell i v];simpa using this
theorem Hj{W:Ω}{ps:List MemPlace}(h:DataW.LaidVars prog W Rows.consoleSaysRow.laid ps){nm s:String}{g:Nat}{d:DataW Unit}(j:(nm,.iface s d)∈(Rows.consoleSaysRow.laid:List (String×DataW Unit)))(f:prog.globalNamed nm=O g)(i:(prog.globals[g]?).map (·.type)=O 25):∃te pe,W.cell? ⟨g,0,J⟩=O (.iface te pe):=by obtain⟨o,m,n,e,p,c,a,l,k⟩:=vK h _ _ j;obtain rfl:=np (f.symm.trans c);obtain rfl:=np (i.symm.trans a);obtain⟨_,u,v,b,_,_⟩:=iface_of_trod underlying25 k;refine⟨u,v,?_⟩;rw[World.var?_cell f l];have:=congrArg (·[0]?) b;simpa using this
theorem yb{W : Ω}{ps:List MemPlace}(h:DataW.LaidVars prog W Rows.consoleSaysRow.laid ps){k j:Nat}(l:k<6)(f:Field)(z:Int)(i:(match prog.underlying 263 with | some (.struct fs)=>fs[j]? | _=>J)=O f)(d:f.type=3)(e:f.offset=j)(o:(match lP k with | .agg ds=>ds[j]? | _=>J)=O (.lit (.int Q z))):W.cell? ⟨1,k*4+j,J⟩=O (I Q z):=by
 obtain⟨g,t,w,n,p,r,v,u,s⟩:=vK h "cratewatch/tag.splits" (.agg [lP 0,lP 1,lP 2,lP 3,lP 4,lP 5]) (by simp[Rows.consoleSaysRow];rfl);obtain rfl:=np ((show prog.globalNamed "cratewatch/tag.splits"=O 1 by kernel_rfl).symm.trans r);obtain rfl:=np ((show (prog.globals[1]?).map (·.type)=O 264 by kernel_rfl).symm.trans v)
 have b:([lP 0,lP 1,lP 2,lP 3,lP 4,lP 5]:List (DataW Unit))[k]?=O (lP k):=by
  match k,l with
  | 0,_ | 1,_ | 2,_ | 3,_ | 4,_ | 5,_=>rfl
 obtain⟨m,q,c⟩:=EY underlying264 s l b;rw[Uh]at c;unfold lP at c o;rw[underlying263]at i;obtain⟨y,x,a⟩:=JB underlying263 c i o;rw[d,e,Ut]at a;have:=Tu (Pw underlying3 a);rw[World.var?_cell r u];simpa using this
theorem T7{W : Ω}{ps:List MemPlace}(h:DataW.LaidVars prog W Rows.consoleSaysRow.laid ps)(b:W.ShapedOpen prog):aT W/\cN W:=by
 have f : 11<=W.1.size:=by obtain⟨⟨z,t⟩,x⟩:=Option.isSome_iff_exists.1 (show (((begin prog (fun _ _=>0) default).world.1[10]?).bind Obj.row?).isSome=true by kernel_rfl);obtain⟨v,w,_⟩:=b.1 10 z t (of_decide_eq_true kr) x;exact(bP.1 w).1
 have o:Lib.TabIs prog W "internal/strconv.uint64pow10" .u64 Lib.pow10Tab:=by obtain⟨g,t,v,r,p,y,u,s,l⟩:=vK h "internal/strconv.uint64pow10" Rows.laid_internal_strconv_uint64pow10 (by simp[Rows.consoleSaysRow]);obtain rfl:=np (Ha.symm.trans y);obtain rfl:=np ((show (prog.globals[3]?).map (·.type)=O 299 by kernel_rfl).symm.trans u);rw[Q1]at l;have:=Lib.cells_of_tab underlying299 underlying245 Uv Uu l;unfold Lib.TabIs;rw[s,<- this]
 have n:∃ m,W.cell? ⟨4,0,J⟩=O (I Q m):=cell_of_shapedOpen_int (g:=4) (zero:=#[I Q 0]) (t:=3) b (of_decide_eq_true kr) kr rfl kr kr underlying3;have i:∃ te pe,W.cell? ⟨5,0,J⟩=O (.iface te pe):=Hj h (nm:="strconv.ErrSyntax") (by simp[Rows.consoleSaysRow,Rows.laid_strconv_ErrSyntax];exact⟨rfl,rfl⟩) kr kr;have q:∃ te pe,W.cell? ⟨6,0,J⟩=O (.iface te pe):=Hj h (nm:="strconv.ErrRange") (by simp[Rows.consoleSaysRow,Rows.laid_strconv_ErrRange];exact⟨rfl,rfl⟩) kr kr;refine⟨⟨f,fun j c=>?_,o,n,i,q⟩,⟨f,fun k a=>?_,fun k a=>?_,fun k a=>?_,fun k a=>?_⟩,fun j c=>?_,o,n,i,q⟩
 ·refine G9 h (nm:="cratewatch/rule.kindWords") (d:=[.lit (.string (iw 0)),.lit (.string (iw 1)),.lit (.string (iw 2)),.lit (.string (iw 3))]) (by simp[Rows.consoleSaysRow];rfl) kr kr underlying81 c ?_
  match j,c with
  | 0,_ | 1,_ | 2,_ | 3,_=>rfl
 ·exact yb h (j:=0) a _ _ (by rw[underlying263];rfl) rfl rfl rfl
 ·exact yb h (j:=1) a _ _ (by rw[underlying263];rfl) rfl rfl rfl
 ·exact yb h (j:=2) a _ _ (by rw[underlying263];rfl) rfl rfl rfl
 ·exact yb h (j:=3) a _ _ (by rw[underlying263];rfl) rfl rfl rfl
 have e:dJ j=⟨(mX j).toArray⟩:=nX (by rw[zY]);rw[e];refine G9 h (nm:="cratewatch/tag.kindWords") (d:=[.lit (.string (mX 0)),.lit (.string (mX 1)),.lit (.string (mX 2))]) (by simp[Rows.consoleSaysRow];rfl) kr kr underlying297 c ?_
 match j,c with
 | 0,_ | 1,_ | 2,_=>rfl
end
section
open Go.ChangeShapes Go.WideShapes Go.ChangeAt Go.RowKit Go.Deep
theorem Ui:ownKnob prog.godebug=J:=kr
theorem Q2:laidOutB prog=true:=kr
theorem Q3{α:Type}{Q:Nat->α->Prop}(n:Nat)(h:∀i,i<n->∃r,Q i r):∃l:List α,l.length=n/\∀(k:Nat)(r:α),l[k]?=O r->Q k r:=by
 induction n with
 |zero=>exact⟨[],rfl,λk r a=>by simp at a⟩
 |succ n ih=>
  obtain⟨l,c,e⟩:=ih (λi f=>h i om);obtain⟨r,d⟩:=h n om;refine⟨l++[r],by simp[c],λk x a=>?_⟩;rcases gQ k l.length with hlt|hge
  ·rw[gO hlt]at a;exact e k x a
  rw[jb hge]at a;have b:k=n:=(by have:=(gD.1 a).1;simp at this;omega);subst b;rw[c,Nat.sub_self]at a;simp at a;subst a;exact d
theorem EZ(a:Addr):a.add 0=a:=by unfold Addr.add;simp
theorem KM{a:Addr}{w:Ω}{v:Value}(h:w.cell? a=O v):∃b o,a=⟨b,o,J⟩/\b<w.1.size:=by
 obtain⟨b,o,d⟩:=a
 have c:b<w.1.size:=by
  rcases gQ b w.1.size with h1|h1
  ·exact h1
  simp[World.cell?,j8 h1]at h
 cases d with
 |none=>exact⟨b,o,rfl,c⟩
 |some d=>
  exfalso;unfold World.cell? at h;split at h<;>simp at h
theorem JC{v:Value}{p:Option Addr}{n c:Nat}(d:∃p' b a,v=M p' b a)(h:v.cells.toList=[M p n c]):v=M p n c:=by obtain⟨p',b,a,rfl⟩:=d;simpa [Value.cells] using h
theorem Tv(s:ByteArray):ae s.1.toList=s:=ke (by simp[ae])
theorem KL{H:Type}{enc:TypeId×Value->H}{w:Ω}{j:Nat}{c:Nat->Bool}{g:Bool}{fuel:Nat}{K:List Value}{x:DataW H×List MemPlace}(h:DataW.trod enc prog w j c g fuel 22 K=O x):∃p cap,∃L:List (List UInt8),K=[M p L.length cap]/\jA w p L/\(p=J->L=[]/\cap=0)/\L.length<=9223372036854775807/\∀l,l∈L->l.length<=9223372036854775807:=by
 have y:maxLen=9223372036854775807:=by decide
 rcases open_slice underlying22 h with ⟨rfl,_⟩|⟨a,len,cap,m,n,D,Pl,rfl,hb,hle,hcap,hm,_,hel⟩
 ·exact⟨J,0,[],rfl,⟨λS=>absurd rfl S⟩,λ_=>⟨rfl,rfl⟩,by simp,λr C=>absurd C nj⟩
 ·have V:len<=m:=by rw[hm];split<;>omega
  obtain⟨G,z,f⟩:=Q3 (Q:=λi (t:List UInt8)=>t.length<=maxLen/\w.cell? (a.add i)=O (Z (ae t))) len (λi W=>by
   obtain⟨T,q,U⟩:=hel i om;rw[Ia]at q;obtain⟨_,E,d⟩:=World.cells?_some q;obtain⟨s,rfl,_,P⟩:=DataW.trod_string underlying9 U;refine⟨s.1.toList,by rw[Array.length_toList];exact P,?_⟩;have:=d 0 om;rw[EZ,Nat.mul_one]at this;rw[Tv];exact this)
  refine⟨O a,cap,G,by rw[z],⟨λu=>?_⟩,(λe=>by cases e),om,λr C=>?_⟩
  ·have R:0<G.length:=jl.2 u;have F:=(f 0 _ (bc R)).2;rw[EZ]at F;obtain⟨b,o,rfl,v⟩:=KM F;refine⟨b,o,rfl,v,λk r A=>?_⟩;have q:=(f k r A).2;rw[Addr.add_mid]at q;exact q
  obtain⟨k,A⟩:=List.getElem?_of_mem C;rw[<-y];exact(f k r A).1
theorem Px(H:Type)(enc:TypeId×Value->H)(W:Ω)(i:Nat)(a:Array Value)(D U:List (DataW H))(b:List MemPlace)
  (g:∀(j:Nat) t v,f3.params[j]?=O t->a[j]?=O v->Value.okWide prog W .any i t v)
  (A:DataW.Whole enc prog f3.params.toList Rows.consoleSaysSpec.vars false W a.toList D U b)(y:laidMetH prog Rows.consoleSaysRow.laid W)(n:W.ShapedOpen prog):
  Φ prog 3 a W λe C=>∃v,e=N v/\Rows.consoleSaysSpec.post enc prog f3 false true false false W a v C:=by
 have c:=g;have f:=A;obtain⟨p,q,l,hV,rfl,P,T⟩:=A;have z:DataW.TrodAll enc prog W 0 (λ_=>true) true f3.params.toList a.toList D p:=l;rw[params3]at z c;obtain⟨v0,d0,u,rfl,S⟩:=trodAll_one z;obtain rfl:a=#[v0]:=by cases a;simp_all
 obtain⟨rfl,rfl⟩:=trodVars_none hV;simp only[List.append_nil]at f;have s:=f.lt;obtain⟨k,x⟩:=S;obtain⟨E,o,L,w,X,h2,F,V⟩:=KL x;obtain rfl:=JC (okWide_slice underlying22 (c 0 22 _ rfl rfl)) w;rw[MakeChecks.laidMetH_plain _ _ _ kr]at y;obtain⟨ps,r,_,_⟩:=y;obtain⟨R,G⟩:=T7 r n;refine(Ig L E o W X h2 F V R G).m λe C ⟨K,d⟩=>?_;subst K
 exact⟨_,rfl,_,_,_,[],p++[],[],f,trodAll_mk1 (shut_bool underlying4 _),
  trodAll_cons_mk (Below.trod Q2 kr (of_decide_eq_true kr) ⟨k,x⟩ d s) trodAll_mk0,rfl,d.frame _,λh=>by cases h⟩
end
end Go.Proofs.YtlaodjjfmhipnaaGreatDoor
