/-
  Part of it.
-/
import Derived.Test.YtlaodjjfmhipnaaGreatDoorSba
set_option maxRecDepth 100000
set_option maxHeartbeats 8000000
set_option linter.all false
namespace Go.Proofs.YtlaodjjfmhipnaaGreatDoor
open Go.Proofs.Tryz
open Value renaming int→I,string→Z,pointer→Y,slice→M,tuple→Ψ
open Ending renaming returned→N
open Obj renaming cells→Δ
open Go renaming World→Ω,Calls→Φ
open IntKind renaming i64→Q
open Option renaming some→O,none→J
open RowKit renaming Below→B,Hid→H
section
open Go.RowKit Go.Maps
def yr(i r a:Nat):Int:=if r*4+a<i then -1 else 0
theorem QZ{i:Nat}(a:i<16):(cM ⟨0,0,0,0,0,0,yr i⟩ (M J 0 0) (Y J)).setIfInBounds (6+i/4*4+i%4) (I Q (-1))=cM ⟨0,0,0,0,0,0,yr (i+1)⟩ (M J 0 0) (Y J):=by
 match i,a with
 |0,_|1,_|2,_|3,_|4,_|5,_|6,_|7,_|8,_|9,_|10,_|11,_|12,_|13,_|14,_|15,_=>rfl
 |i+16,h=>exact absurd h om
structure BH (w V:Ω) (i:Nat):Prop where
 a:V.1[w.1.size]?=O (Δ (cM ⟨0,0,0,0,0,0,yr i⟩ (M J 0 0) (Y J)) 38)
 b:B w.1.size w V
theorem KI(w:Ω):
  Φ prog 7 #[] w λe n=>e=N (Y (O ⟨w.1.size,0,J⟩))/\io n w.1.size (λb=>w.1.size<=b) oN 0/\B w.1.size w n:=by
 have d:H (BH w (w.alloc (Δ #[I Q 0,I Q 0,I Q 0,I Q 0,I Q 0,I Q 0,I Q 0,I Q 0,I Q 0,I Q 0,I Q 0,I Q 0,I Q 0,I Q 0,I Q 0,I Q 0,I Q 0,I Q 0,I Q 0,I Q 0,I Q 0,I Q 0,M J 0 0,Y J] 38)) 0):=⟨bn w _,ba⟩;go_enter func7,ntmps7;go_wp2_with fail;go_loopw [2] (λi V=>∃j:Nat,j<=16/\i=I Q (j:Int)/\BH w V j) (λi _=>16-(intOf i).toNat)
 case atStart=>exact⟨0,om,rfl,d.o⟩
 obtain⟨j,E,rfl,p⟩:=hrel;have f:=hid p;clear p d;by_cases l:j<16
 case pos=>
  have u:(j:Int)<16:=om;have C:(j:Int).tdiv 4=((j/4:Nat):Int):=(by rw[Int.tdiv_eq_ediv_of_nonneg om];rfl);have F:(j:Int).tmod 4=((j%4:Nat):Int):=(by rw[Int.tmod_eq_emod_of_nonneg om];rfl);have A:((j/4:Nat):Int)<4:=om;have z:((j%4:Nat):Int)<4:=om;obtain⟨t,s,-⟩:=ck f.o.a;obtain⟨q,k⟩:∃q,(cM ⟨0,0,0,0,0,0,yr j⟩ (M J 0 0) (Y J))[6+j/4*4+j%4]?=O q:=⟨_,oQ (by show 6+j/4*4+j%4<24;omega)⟩;have D:=t _ _ k;have y:=s (6+j/4*4+j%4);have m:H (BH w (wr.setCell ⟨w.1.size,6+j/4*4+j%4,J⟩ (I Q (-1))) (j+1)):=⟨vU f.o.a (QZ l),f.o.b.c nl _⟩;clear t s k;go_wp2;go_roundw
  case rel=>exact⟨j+1,om,by go_num,m.o⟩
  simp[intOf];omega
 have u:¬(j:Int)<16:=om;have g:j=16:=om;go_wp2;go_ret;refine⟨rfl,?_,f.o.b⟩;have h:=f.o.a;rw[g]at h;exact⟨M J 0 0,Y J,h,aa _,fH _ _ _ _,λb v=>(by cases v),λr x=>(by cases x),aX _,af ⟨rfl,rfl⟩⟩
end
section
open Go.RowKit Go.Maps
theorem uH{d:Nat}(h:d<10):Lib.itoa (d:Int)=[UInt8.ofNat (48+d)]:=by rw[tU,zX h]
theorem T6{d:Nat}(h:d<10):eo [UInt8.ofNat (48+d)]=O (d:Int):=xj.2 ⟨uH h,om,om⟩
theorem G8:∀ds:List Nat,(∀d,d∈ds->d<10)->fZ (ds.map λd=>[UInt8.ofNat (48+d)])=O (ds.map λd:Nat=>(d:Int))
 |[],_=>rfl
 |d::ds,h=>by rw[List.map_cons,List.map_cons];unfold fZ;rw[T6 (h d sm),G8 ds (λx a=>h x (by simp[a]))]
theorem sJ{l nm:List UInt8}{ws:List (List UInt8)}{a b:Nat}(c:List Nat)(j:∀d,d∈c->d<10)(k:l.length<=300)(f:(gW++[32]).isPrefixOf l=false)(h:et 32 l=nm::ws)(i:eS nm=O (a,b))(g:ws.length=a+b)(e:ws.take a=c.map λd=>[UInt8.ofNat (48+d)]):eO l=O ⟨nm,c.map λd:Nat=>(d:Int),ws.getD a []⟩:=by rw[show eO l=jf l by unfold eO;rw[ag om,f];rfl,xM h i g,e,G8 c j]
def wk:List UInt8:=[105,116,101,109,58,48,46,48,48,48,48,48,49,46,50,46,51]
def Hs:List UInt8:=[115,101,116,32,49,32,48,32,49,32,49,32,49,32,49]
def Ht:List UInt8:=[97,116,32,48,32,48,32,50]
def Hu:List UInt8:=[115,116,97,114,116]
def Hv:List UInt8:=[114,101,97,100,32,48,32,48,32,57,32,48,32,105,116,101,109,58,48,46,48,48,48,48,48,49,46,50,46,51]
def Hw:List UInt8:=[116,105,99,107,32,49]
def Hy:List UInt8:=[119,104,101,114,101,32,48,32,105,116,101,109,58,48,46,48,48,48,48,48,49,46,50,46,51]
def Hz:List UInt8:=[100,114,111,112,115]
def H9:List UInt8:=[102,108,121]
def yz:List (List UInt8):=[Hs,Ht,Hu,Hv,Hw,Hy,Hz,H9]
def qU:List (List UInt8):=[[111,107],[111,107],[111,107],[49],[49],[50],[48,32,48,32,48,32,48,32,48],[101,114,114,111,114,32,52]]
theorem Uk:eO Hs=O ⟨kB,[1,0,1,1,1,1],[]⟩:=sJ (nm:=kB) (ws:=[[49],[48],[49],[49],[49],[49]]) (a:=6) (b:=0) [1,0,1,1,1,1] dc dc dc dc rfl rfl rfl
theorem Ul:eO Ht=O ⟨kG,[0,0,2],[]⟩:=sJ (nm:=kG) (ws:=[[48],[48],[50]]) (a:=3) (b:=0) [0,0,2] dc dc dc dc rfl rfl rfl
theorem Um:eO Hu=O ⟨ku,[],[]⟩:=sJ (nm:=ku) (ws:=[]) (a:=0) (b:=0) [] dc dc dc dc rfl rfl rfl
theorem Un:eO Hv=O ⟨mt,[0,0,9,0],wk⟩:=sJ (nm:=mt) (ws:=[[48],[48],[57],[48],wk]) (a:=4) (b:=1) [0,0,9,0] dc dc dc dc rfl rfl rfl
theorem Uo:eO Hw=O ⟨mP,[1],[]⟩:=sJ (nm:=mP) (ws:=[[49]]) (a:=1) (b:=0) [1] dc dc dc dc rfl rfl rfl
theorem Uq:eO Hy=O ⟨ml,[0],wk⟩:=sJ (nm:=ml) (ws:=[[48],wk]) (a:=1) (b:=1) [0] dc dc dc dc rfl rfl rfl
theorem Ur:eO Hz=O ⟨mj,[],[]⟩:=sJ (nm:=mj) (ws:=[]) (a:=0) (b:=0) [] dc dc dc dc rfl rfl rfl
theorem Us:eO H9=J:=by decide
def uU:eJ:=⟨1,0,1,1,1,1,qJ fQ.a 0 0 2⟩
def ff:aE:=⟨1,0,1,1,1,1,qJ fQ.a 0 0 2⟩
theorem Si:ff.h:=⟨dc,dc,dc,dc,dc,dc,dc,dc,dc,dc,dc,λr a c b=>by
 show -1<=(if r=0/\a=0 then (2:Int) else -1)/\(if r=0/\a=0 then (2:Int) else -1)<=7;split<;>decide⟩
def lD:ByteArray:=oj 1 0 0 1 2 3
theorem Sj:aD lD=1:=by decide +kernel
theorem yu:gA (ae wk) lD:=by refine⟨1,0,0,1,2,3,dc,?_,rfl⟩;show gw 0 0 0 1 2 3=_;refine nX ?_;rw[rW];simp[mX,fN,cE,zX,bm,bO,bX];rfl
def j7:bf:=⟨1,[⟨0,9,0,lD⟩],0⟩
theorem G7:eC j7 where
 h:=by decide
 b:=λh=>absurd rfl h
 g:=λ_=>rfl
 e:=by decide
 c:=by decide
 a:=λr d=>by simp[j7]at d;subst d;exact⟨dc,dc,dc,rfl⟩
theorem FL:aW (aJ j7)=([j7],0,[]):=by have:=Ja [j7] (λf a=>by simp at a;subst a;exact G7);simpa using this
def gn:ay:=ay.k.r ff 0 (aJ j7)
theorem Tm:gn=ay.e ff 0 (ay.k.j 0 [] 0) ⟨0,9,0,lD⟩:=by unfold gn ay.r;rw[show ay.k.f 0=[] from rfl,j9,FL];rfl
theorem Bw:gn={ ay.k.j 0 [] 0 with a:=[⟨2,9,0,lD⟩] }:=by
 rw[Tm];unfold ay.e;rw[ag (by show ¬aD lD=0;rw[Sj];decide),ag dc,ag (by intro h;exact absurd h.2 dc)];rw[ag]
 ·rfl
 unfold ey;rw[ak (by unfold eY;simp[qA,ay.k,ay.j,ff,qJ,show lD.size=8 from rfl]),ag dc];decide
theorem Tr:aC ff (gn.h 1) 1=[[⟨2,9,0,lD⟩]]:=by unfold aC;show [bE (aR 1 gn.a 0)]=_;rw[Bw,show aR 1 [(⟨2,9,0,lD⟩:ai)] 0=[⟨2,9,0,lD⟩] from rfl];simp[bE]
theorem Ts:bV 1 (aG lD (aC ff (gn.h 1) 1)) 0 (aI lD (al (aC ff (gn.h 1) 1)) ff.d ff.c (0:Int).toNat)=(2,0):=by rw[Tr];decide +kernel
theorem Hp:bS 0 (aM (aJ j7)) ay.k=(1,0):=by
 have a:(aM (aJ j7)).size<=2000:=by decide +kernel
 have b:(aM (aJ j7)).1.toList=aJ j7:=by simp[aM]
 unfold bS;rw[ak dc,ak a,b,show ay.k.f (0:Int).toNat=[] from rfl,j9,FL];rfl
theorem Ue:d9 ff 0 (aM (aJ j7)) ay.k=gn:=by
 have a:(aM (aJ j7)).size<=2000:=by decide +kernel
 have b:(aM (aJ j7)).1.toList=aJ j7:=by simp[aM]
 unfold d9;rw[ak ⟨dc,a⟩,b];rfl
theorem Bl:gn.b=0:=by rw[Bw];rfl
theorem Hq:du ff 1 gn=(1,0):=by unfold du ay.c ay.h;rw[Bl];rfl
theorem Uf:ic 1 gn=gn.h 1:=by unfold ic;rw[Bl];rfl
theorem Tp:(gn.h 1).c ff=1:=by unfold ay.c ay.h;rw[Bl];rfl
theorem Ud:Lib.itoa 0=[48]:=uH (d:=0) dc
theorem Uc:mZ (gn.h 1)=[48,32,48,32,48,32,48,32,48]:=by
 have e:lu (gn.h 1)=[0,0,0,0,0]:=by unfold lu dE;rw[Bw];rfl
 unfold mZ;rw[e];simp[Ud,Lib.join]
theorem KJ{S:bY}{g:List (List UInt8)}(h:mA oN yz S g):g=qU:=by
 obtain⟨S1,t1,n1,r1,D,h,rfl⟩:=h;obtain⟨S2,t2,n2,r2,d2,h,rfl⟩:=h;obtain⟨E,t3,x,r3,d3,h,rfl⟩:=h;obtain⟨S4,z,G,r4,y,h,rfl⟩:=h;obtain⟨S5,L,A,r5,d5,h,rfl⟩:=h;obtain⟨V,t,u,r6,d6,h,rfl⟩:=h;obtain⟨S7,t7,n7,r7,d7,h,rfl⟩:=h;obtain⟨S8,t8,n8,r8,T,h,rfl⟩:=h;obtain⟨_,rfl⟩:=h;obtain⟨rfl,rfl,rfl⟩:=FJ rfl (qx Uk D);rcases Gs rfl (qx Ul d2) with ⟨hb,_⟩|⟨_,rfl,rfl,rfl⟩
 ·exact absurd ⟨⟨dc,dc⟩,dc,dc⟩ hb
 have s:∃cf:aE,cf.h/\cf=ff/\E=⟨uU,[],O ⟨ff,[],ay.k⟩⟩/\t3=iy/\x=0:=by
  rcases DW rfl (qx Um d3) with ⟨hf,hn,_⟩|⟨cf,h1,h2,h3,rfl,rfl,rfl⟩
  ·exact absurd (pI.a hf (ah ⟨Ez Si,ah ⟨dc,af ⟨λj U=>absurd U (Nat.not_lt_zero j),rfl⟩⟩⟩)) hn
  have e:cf=ff:=(by obtain⟨l,la,W,nd,sp,sc,w⟩:=cf;unfold jt at h2;injection h2 with a1 a2 a3 a4 a5 a6 a7;have b1:l=1:=Int.ofNat.inj a1;have b2:la=0:=Int.ofNat.inj a2;have v:W=1:=Int.ofNat.inj a3;have b4:nd=1:=Int.ofNat.inj a4;have b5:sp=1:=Int.ofNat.inj a5;have X:sc=1:=Int.ofNat.inj a6;subst b1 b2 v b4 b5 X;obtain rfl:w=_:=a7;rfl);subst e;exact⟨_,h1,rfl,rfl,rfl,rfl⟩
 obtain⟨_,_,_,rfl,rfl,rfl⟩:=s
 have n:S4=⟨uU,[],O ⟨ff,[],gn⟩⟩/\z=[49]/\G=0:=by
  rcases vJ (ah (af rfl)) (qx Un y) with ⟨h,_⟩|⟨W,s',hW,ha,rfl⟩
  ·cases h
  cases hW;rcases ha with ⟨e,_⟩|⟨_,ha⟩|⟨e,_⟩|⟨_,⟨e,_⟩|⟨e,_⟩|⟨e,_⟩|⟨e,_⟩|⟨e,_⟩⟩
  case inr.inl=>
   rcases ha with ⟨hno,_⟩|⟨b,hb,hr⟩
   ·obtain⟨K,F,P,C,R,S,r,q,_⟩:=yu.a;exact absurd q (hno K F P C R S r)
   have f:=AS hb yu;subst f;rcases hr with ⟨hf,_⟩|⟨_,rfl,rfl,rfl⟩
   ·exact absurd (nu.2 G7) hf
   refine⟨?_,?_,?_⟩
   ·show (⟨uU,[],O ⟨ff,[],d9 ff 0 (aM (aJ j7)) ay.k⟩⟩:bY)=_;rw[Ue]
   ·show fM (bS 0 (aM (aJ j7)) ay.k).1 (bS 0 (aM (aJ j7)) ay.k).2=_;rw[Hp];exact uH (d:=1) dc
   show (bS 0 (aM (aJ j7)) ay.k).2=_;rw[Hp]
  all_goals exact absurd e dc
 obtain⟨rfl,rfl,rfl⟩:=n
 have o:S5=⟨uU,[],O ⟨ff,[],gn.h 1⟩⟩/\L=[49]/\A=0:=by
  rcases vJ (ah (ah (af rfl))) (qx Uo d5) with ⟨h,_⟩|⟨W,s',hW,ha,rfl⟩
  ·cases h
  cases hW;rcases ha with ⟨e,_⟩|⟨e,_⟩|⟨_,ha⟩|⟨_,⟨e,_⟩|⟨e,_⟩|⟨e,_⟩|⟨e,_⟩|⟨e,_⟩⟩
  case inr.inr.inl=>
   obtain⟨rfl,rfl,rfl⟩:=ha;refine⟨?_,?_,?_⟩
   ·show (⟨uU,[],O ⟨ff,[],ic 1 gn⟩⟩:bY)=_;rw[Uf]
   ·show fM (du ff 1 gn).1 (du ff 1 gn).2=_;rw[Hq];exact uH (d:=1) dc
   show (du ff 1 gn).2=_;rw[Hq]
  all_goals exact absurd e dc
 obtain⟨rfl,rfl,rfl⟩:=o
 have p:V=⟨uU,[],O ⟨ff,[],gn.h 1⟩⟩/\t=[50]/\u=0:=by
  rcases vJ (ah (ah (ah (af rfl)))) (qx Uq d6) with ⟨h,_⟩|⟨W,s',hW,ha,rfl⟩
  ·cases h
  cases hW;rcases ha with ⟨e,_⟩|⟨e,_⟩|⟨e,_⟩|⟨rfl,⟨_,ha⟩|⟨e,_⟩|⟨e,_⟩|⟨e,_⟩|⟨e,_⟩⟩
  case inr.inr.inr.inl=>
   rcases ha with ⟨hno,_⟩|⟨b,hb,hr⟩
   ·obtain⟨K,F,P,C,R,S,r,q,_⟩:=yu.a;exact absurd q (hno K F P C R S r)
   have f:=AS hb yu;subst f;have hq:fW ⟨ff,[],gn.h 1⟩ lD 0=(2,0):=(by unfold fW;show bV ((gn.h 1).c ff) (aG lD (aC ff (gn.h 1) ((gn.h 1).c ff))) 0 (aI lD (al (aC ff (gn.h 1) ((gn.h 1).c ff))) ff.d ff.c (0:Int).toNat)=_;rw[Tp,Ts]);have i:yk (fW ⟨ff,[],gn.h 1⟩ lD 0) t u:=hr;rw[hq]at i;obtain⟨rfl,⟨h,_⟩|⟨_,h,_⟩|⟨_,_,rfl⟩⟩:=i
   ·exact absurd rfl h
   ·exact absurd h dc
   exact⟨rfl,uH (d:=2) dc,rfl⟩
  all_goals exact absurd e dc
 obtain⟨rfl,rfl,rfl⟩:=p
 have m:t7=[48,32,48,32,48,32,48,32,48]/\n7=0:=by
  rcases vJ (ah (ah (ah (ah (ah (ah (ah rfl))))))) (qx Ur d7) with ⟨h,_⟩|⟨W,s',hW,ha,rfl⟩
  ·cases h
  cases hW;rcases ha with ⟨e,_⟩|⟨e,_⟩|⟨e,_⟩|⟨rfl,⟨e,_⟩|⟨e,_⟩|⟨e,_⟩|⟨e,_⟩|⟨_,rfl,rfl⟩⟩
  case inr.inr.inr.inr.inr.inr.inr=>exact⟨Uc,rfl⟩
  all_goals exact absurd e dc
 obtain⟨rfl,rfl⟩:=m;rcases T with ⟨_,_,rfl,rfl⟩|⟨c,hc,_⟩
 ·show [iy,iy,iy,[49],[49],[50],[48,32,48,32,48,32,48,32,48],iE 4]=qU;unfold iE;rw[show Lib.itoa ((4:Nat):Int)=[52] from uH (d:=4) dc];rfl
 rw[Us]at hc;cases hc
end
end Go.Proofs.YtlaodjjfmhipnaaGreatDoor
