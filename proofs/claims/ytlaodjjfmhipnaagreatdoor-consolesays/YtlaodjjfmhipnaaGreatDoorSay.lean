/-
  Part of it.
-/
import Derived.Test.YtlaodjjfmhipnaaGreatDoorSax
import Derived.Test.YtlaodjjfmhipnaaGreatDoorSaw
set_option maxRecDepth 100000
set_option maxHeartbeats 8000000
set_option linter.all false
namespace Go.Proofs.YtlaodjjfmhipnaaGreatDoor
open Go.Proofs.Tryz
open Value renaming int→I,string→Z,pointer→Y,slice→M,tuple→Ψ
open Ending renaming returned→N
open Obj renaming cells→Δ
open Go renaming World→Ω,Calls→Φ
open IntKind renaming i64→Q
open Option renaming some→O,none→J
open RowKit renaming Below→B,Hid→H
section
open Go.RowKit Go.Maps
section
variable {w:Ω}{rb:Nat}{X:Array Value}{F:Nat->Prop}{size late now:Nat}{all:List ai}
theorem RO(e:Nat)(d:eP w rb X F size late now all)(hal:all.length<=100000)(hT:∀x∈all,bR size x<=1000):
   Φ prog 81 #[Y (O ⟨rb,35,J⟩),I Q (e:Int)] w λr w'=>∃v,r=N v/\w'.ownsRow w.1.size 156 4 v (aR size all e).length (bL (bE (aR size all e)))/\B w.1.size w w':=by
  have mixed:prog.follows .mixedOrders=true:=kr;obtain⟨i0,hi,hz0,hz1,hz2⟩:=eb A8;obtain⟨v,d⟩:=d.a;have c3:=d.k;have hrb:=d.f;obtain⟨p,cap,rfl,hrs⟩:=Ga d.c;have HRS:=hid hrs;have HT:=hid hT;obtain⟨n,hn⟩:∃n,n=all.length:=⟨_,rfl⟩;rw[<-hn]at hal c3;have HN:=hid hn;go_enter func81,ntmps81;go_wp2;go_loopw [5,6,7,8] (λl i _ _ V=>∃k:Nat,k<=n/\i=I Q (k:Int)/\V.ownsRow w.1.size 156 4 l (aR size (all.take k) e).length (bL (bE (aR size (all.take k) e)))/\B w.1.size w V) (λ_ i _ _ _=>n-(intOf i).toNat)
  case atStart=>exact⟨0,aX _,rfl,by rw[List.take_zero,show aR size [] e=[] from rfl,show bE []=[] by unfold bE;simp];exact fH _ _ _ _,aj _ _⟩
  obtain⟨k,hk,rfl,hown,hbel⟩:=hrel;have HOWN:=hid hown;have HBEL:=hid hbel;have r3:wr.cell? ⟨rb,38,J⟩=O (M p n cap):=by rw[hbel.cell hrb];exact c3
  have hsz:=hbel.size;by_cases hlt:k<n
  case neg=>have hkk:k=n:=om;subst hkk;have HF:H (all.take k=all):=(by show _=_;rw[HN.o];exact eL);have hI:¬(k:Int)<k:=om;go_wp2;go_ret;refine⟨_,rfl,?_,HBEL.o⟩;have:=HOWN.o;rw[HF.o]at this;exact this
  have hkI:(k:Int)<n:=om;have hk':k<all.length:=(by rw[<-HN.o];exact hlt);obtain⟨b,rfl,hb,hc⟩:=HRS.o (by intro e;rw[e]at hk';simp at hk');obtain⟨x,hx⟩:∃x,x=all[k]:=⟨_,rfl⟩;obtain⟨a0,a1,a2,a3,a4⟩:=(hc k x (by rw[hx];exact bc hk')).g (hbel.block b hb);have HTK:H (all.take (k+1)=all.take k++[x]):=(by show _=_;rw[hx];exact iA hk');have hex:=HT.o x (by rw[hx];exact eG hk');clear hc hbel hown hx;by_cases hee:bR size x=e
  case neg=>
   have hne:((bR size x:Int) != (e:Int))=true:=(by simp;omega);have HG:H (aR size (all.take (k+1)) e=aR size (all.take k) e):=(by show _=_;rw[HTK.o,wu _ _ (λh=>hee h.symm)]);go_wp2;go_roundw
   case rel=>exact⟨k+1,om,by go_num,by rw[HG.o];exact HOWN.o,HBEL.o⟩
   simp[intOf];omega
  have hne:((bR size x:Int) != (e:Int))=false:=(by simp;omega);have HG:H (aR size (all.take (k+1)) e=aR size (all.take k) e++[x]):=(by show _=_;rw[HTK.o,<-hee,yD]);obtain⟨R,D,K,P⟩:=x;simp only at a0 a1 a2 a3;obtain⟨E,hE⟩:∃E,E=bR size ⟨R,D,K,P⟩:=⟨_,rfl⟩;rw[<-hE]at a4 hne hex;obtain⟨G,hGG⟩:∃G,G=aR size (all.take k) e:=⟨_,rfl⟩;rw[<-hGG]at HOWN HG;have hGl:G.length<=100000:=(by rw[hGG];have:=tM size (all.take k) e;have:=List.length_take_le k all;omega);clear hGG;have W:((wr.alloc (Δ #[I Q R,I Q D,I Q K,Z P] 156)).alloc (Δ #[I Q R,I Q D,I Q K,Z P] 156)).ownsRow w.1.size 156 4 u5 G.length (bL (bE G)):=(HOWN.o.alloc _).alloc _;rw[<-lZ G]at W hGl;obtain⟨pL,capL,hu5,-⟩:=qo W;rw[hu5]at W;subst hu5;go_wp2_with (at_builtin;refine iB _ rfl _ _ 122 rfl w.1.size 156 i0 (.agg #[I Q 0,I Q 0,I Q 0,Z ⟨#[]⟩]) 4 40 underlying122 hi hz0 hz1 hz2 rfl dc _ _ _ rfl W ⟨wr.1.size+1,0,J⟩ 1 1 [I Q R,I Q D,I Q K,Z P] rfl rfl ?q1 ?q2 om ?q3 ?q4 ?q5 (wr.1.size+2) ?q6 ?_)
  case q1=>
   intro j u hj
   match j,hj with
  |0,hj=>simp at hj;subst hj;simp[Addr.add]
  |1,hj=>simp at hj;subst hj;simp[Addr.add]
  |2,hj=>simp at hj;subst hj;simp[Addr.add]
  |3,hj=>simp at hj;subst hj;simp[Addr.add]
  case q2=>intro u hu;simp at hu;rcases hu with rfl|rfl|rfl|rfl<;>rfl
  case q3=>unfold maxLen;omega
  case q4=>omega
  case q5=>simp;omega
  case q6=>simp
  intro g a5 V hownV hgrow hat hltV;have hnew:∀q,(M pL (bE G).length capL).ownBlock=O q->q<wr.1.size:=λq hq=>(HOWN.o.lt q hq).2
  have hgsb:g≠wr.1.size:=by
   rcases hat with hat|hat
   ·have:=hnew g hat;omega
   omega
  have HSB:=hid hgsb;have hbV:=(((HBEL.o.l om _).l (by simp;omega) _).grown hgrow (by simp;omega) (λq hq=>(HOWN.o.lt q hq).1));have hboxV:V.1[wr.1.size]?=O (Δ #[I Q R,I Q D,I Q K,Z P] 156):=(by rw[hgrow.block _ (by simp;omega) (λe=>by have:=hnew _ e.symm;omega),cX _ _ _ sm];exact bn wr _);have HBV:=hid hbV;have HBX:=hid hboxV;obtain⟨L,hL⟩:∃L,L=bE G:=⟨_,rfl⟩;have HL:=hid hL;rw[<-hL]at hownV hGl⊢;obtain⟨m,hm⟩:∃m,m=L.length:=⟨_,rfl⟩;have HM:=hid hm;rw[<-hm]at hownV hGl⊢;have HOV:H (V.ownsRow w.1.size 156 4 (M (O ⟨g,0,J⟩) (m+1) a5) (m+1) (bL (L++[⟨R,D,K,P⟩]))):=(by show World.ownsRow _ _ _ _ _ _ _;rw[zm];exact hownV);have HST:H (V.ownsRow w.1.size 156 4 (M (O ⟨g,0,J⟩) (m+1) a5) (m+1) (bL (L.take m++⟨R,D,K,P⟩::L.drop m))):=(by have h1:L.take m=L:=(by rw[HM.o];exact eL);have h2:L.drop m=[]:=(by rw[HM.o];exact List.drop_length);show World.ownsRow _ _ _ _ _ _ _;rw[h1,h2];exact HOV.o);have HST:H (V.ownsRow w.1.size 156 4 (M (O ⟨g,0,J⟩) (m+1) a5) (m+1) (bL (L.take m++⟨R,D,K,P⟩::L.drop m))):=(by have h1:L.take m=L:=(by rw[HM.o];exact eL);have h2:L.drop m=[]:=(by rw[HM.o];exact List.drop_length);show World.ownsRow _ _ _ _ _ _ _;rw[h1,h2];exact HOV.o);have hBs:=(bP.1 hboxV).1;clear hownV hgrow hat hltV W hnew hgsb hbV hboxV hL hm a0 a1 a2 a3 a4 r3;obtain⟨U,hsb⟩:∃U,U=wr.1.size:=⟨_,rfl⟩;rw[<-hsb]at HSB HBX hBs⊢;clear hsb;go_wp2_with fail;go_loopw [8] (λkk V'=>∃(j:Nat) (y:ai),j<=m/\kk=I Q (j:Int)/\(∀z∈L.drop j,fg ⟨R,D,K,P⟩ z=true)/\V'.ownsRow w.1.size 156 4 (M (O ⟨g,0,J⟩) (m+1) a5) (m+1) (bL (L.take j++y::L.drop j))/\V'.1[U]?=O (Δ #[I Q R,I Q D,I Q K,Z P] 156)/\B w.1.size w V') (λkk _=>(intOf kk).toNat)
  case atStart=>exact⟨m,⟨R,D,K,P⟩,aa _,rfl,by rw[HM.o];simp,HST.o,HBX.o,HBV.o⟩
  obtain⟨j,y,hj,rfl,hah,hov,hbx,hbe⟩:=hrel;have hml:(L.take j).length=j:=(by rw[fj,<-HM.o];omega);have HML:=hid hml;have HAH:=hid hah;have A:=hid hov;have HBX2:=hid hbx;have HBE:=hid hbe;have s0:wr.cell? ⟨U,0,J⟩=O (I Q R):=(by simp[World.cell?,hbx]);have s1:wr.cell? ⟨U,1,J⟩=O (I Q D):=(by simp[World.cell?,hbx]);have s2:wr.cell? ⟨U,2,J⟩=O (I Q K):=(by simp[World.cell?,hbx]);have s3:wr.cell? ⟨U,3,J⟩=O (Z P):=(by simp[World.cell?,hbx]);have hyc:mV wr g (j*4) y:=(by obtain⟨p',cap',hv,hon⟩:=qo (xs:=L.take j++y::L.drop j) (by rw[bU,hml,eF,jm,<-HM.o,show j+(m-j+1)=m+1 by omega];exact hov);obtain⟨b',o',hp,_,hc⟩:=hon.a sm;simp at hv;obtain⟨hv1,_⟩:=hv;rw[<-hv1]at hp;simp at hp;obtain⟨rfl,rfl⟩:=hp;have:=hc j y (by rw[jb om,hml];simp);rw[dj]at this;exact this);have HYC:=hid hyc;by_cases hj0:j=0
  case pos=>
   subst hj0;have hmI:(0:Int)<m+1:=om;go_wp2;go_quiet (fail);obtain⟨V2,hV2⟩:∃V2,V2=wr.drewN nq:=⟨_,rfl⟩;show Exit.then _ _ _ _ (wr.drewN nq);rw[<-hV2];have S:B wr.1.size wr V2:=(by rw[hV2];exact ew _ _);clear hV2;have s:=hid (aS A.o (λb hb=>S.block b (aU A.o hb)));have C:H (V2.1[U]?=O (Δ #[I Q R,I Q D,I Q K,Z P] 156)):=(by show _=_;rw[S.block U (bP.1 HBX2.o).1];exact HBX2.o);have HBE3:=hid (HBE.o.t (S.m HBE.o.size));have t0:V2.cell? ⟨U,0,J⟩=O (I Q R):=(by simp[World.cell?,C.o]);have t1:V2.cell? ⟨U,1,J⟩=O (I Q D):=(by simp[World.cell?,C.o]);have t2:V2.cell? ⟨U,2,J⟩=O (I Q K):=(by simp[World.cell?,C.o]);have t3:V2.cell? ⟨U,3,J⟩=O (Z P):=(by simp[World.cell?,C.o]);obtain⟨y0,y1,y2,y3⟩:=HYC.o.a (S.block g (aU A.o rfl));have z0:=s.o.frozenAt (0*4);have z1:=s.o.frozenAt (0*4+1);have z2:=s.o.frozenAt (0*4+1+1);have z3:=s.o.frozenAt (0*4+1+1+1);simp only[Nat.zero_mul,dj]at y0 y1 y2 y3 z0 z1 z2 z3;have HSO:H (L.take 0++(⟨R,D,K,P⟩:ai)::L.drop 0=bE (G++[(⟨R,D,K,P⟩:ai)])):=(by show _=_;have hh:=HAH.o;rw[HL.o]at hh⊢;exact xo G (⟨R,D,K,P⟩:ai) 0 hh (af rfl));have HPUT:=uo (⟨R,D,K,P⟩:ai) s.o HML.o;have HPT:H (((((V2.setCell ⟨g,0*4,J⟩ (I Q R)).setCell ⟨g,0*4+1,J⟩ (I Q D)).setCell ⟨g,0*4+1+1,J⟩ (I Q K)).setCell ⟨g,0*4+1+1+1,J⟩ (Z P)).ownsRow w.1.size 156 4 (M (O ⟨g,0,J⟩) (m+1) a5) (m+1) (bL (bE (G++[(⟨R,D,K,P⟩:ai)])))):=(by show World.ownsRow _ _ _ _ _ _ _;rw[<-HSO.o];exact HPUT);simp only[Nat.zero_mul,dj]at HPT;have T:=(A.o.lt g rfl).1;have hGm:(G++[(⟨R,D,K,P⟩:ai)]).length=m+1:=(by rw[bU,HM.o,HL.o,lZ];rfl);have HGM:=hid hGm;go_wp2;go_roundw
   case rel=>
    refine⟨k+1,om,by go_num,?_,?_⟩
    ·rw[HG.o,HGM.o];exact HPT.o
    exact(((HBE3.o.c T _).c T _).c T _).c T _
   simp[intOf];omega
  obtain⟨i,rfl⟩:∃i,j=i+1:=⟨j-1,om⟩;have hiL:i<L.length:=(by rw[<-HM.o];omega);obtain⟨u,hu⟩:∃u,u=L[i]:=⟨_,rfl⟩;have hLu:L[i]?=O u:=(by rw[hu];exact bc hiL);have huc:mV wr g (i*4) u:=(by obtain⟨p',cap',hv,hon⟩:=qo (xs:=L.take (i+1)++y::L.drop (i+1)) (by rw[bU,HML.o,eF,jm,<-HM.o,show i+1+(m-(i+1)+1)=m+1 by omega];exact A.o);obtain⟨b',o',hp,_,hc⟩:=hon.a sm;simp at hv;obtain⟨hv1,_⟩:=hv;rw[<-hv1]at hp;simp at hp;obtain⟨rfl,rfl⟩:=hp;have:=hc i u (by rw[gO (by rw[HML.o];omega),rK om];exact hLu);rw[dj]at this;exact this);have HLU:=hid hLu;have HUC:=hid huc;obtain⟨e0,e1,e2,e3⟩:=huc;obtain⟨up,us,ut,ug⟩:=u;simp only at e0 e1 e2 e3;have k0:=cell_regrown s0;have k1:=cell_regrown s1;have k2:=cell_regrown s2;have k3:=cell_regrown s3;have l0:=cell_regrown e0;have l1:=cell_regrown e1;have l2:=cell_regrown e2;have l3:=cell_regrown e3;have hI0:(0:Int)<(i:Int)+1:=om;have hI1:(i:Int)<(m:Int)+1:=om;have hcast:(((i+1:Nat)):Int)=(i:Int)+1:=om;rw[hcast];clear hLu hu hj0 hcast;go_wp2;refine wp_region_quiet_below kr kr ?_
  repeat (go_big_quiet_step (with_reducible exact Calls.regrown_of (DJ ⟨R,D,K,P⟩ ⟨up,us,ut,ug⟩ _)))
  refine gq ?_;intro _ hw';obtain⟨⟨dq,osq⟩,hw''⟩:=hw';subst hw'';obtain⟨V2,hV2⟩:∃V2,V2=Go.Sort.grow (redrawn wr dq) osq:=⟨_,rfl⟩;have S:B wr.1.size wr V2:=(by rw[hV2];exact below_regrown _ _ _);show Exit.then _ _ _ _ (Go.Sort.grow (redrawn wr dq) osq);rw[<-hV2];clear hV2 e0 e1 e2 e3;cases hlt2:fg ⟨R,D,K,P⟩ ⟨up,us,ut,ug⟩ with
 |false=>
   have HLT2:=hid hlt2;have s:=hid (aS A.o (λb hb=>S.block b (aU A.o hb)));have C:H (V2.1[U]?=O (Δ #[I Q R,I Q D,I Q K,Z P] 156)):=(by show _=_;rw[S.block U (bP.1 HBX2.o).1];exact HBX2.o);have HBE3:=hid (HBE.o.t (S.m HBE.o.size));have t0:V2.cell? ⟨U,0,J⟩=O (I Q R):=(by simp[World.cell?,C.o]);have t1:V2.cell? ⟨U,1,J⟩=O (I Q D):=(by simp[World.cell?,C.o]);have t2:V2.cell? ⟨U,2,J⟩=O (I Q K):=(by simp[World.cell?,C.o]);have t3:V2.cell? ⟨U,3,J⟩=O (Z P):=(by simp[World.cell?,C.o]);obtain⟨y0,y1,y2,y3⟩:=HYC.o.a (S.block g (aU A.o rfl));have z0:=s.o.frozenAt ((i+1)*4);have z1:=s.o.frozenAt ((i+1)*4+1);have z2:=s.o.frozenAt ((i+1)*4+1+1);have z3:=s.o.frozenAt ((i+1)*4+1+1+1);have HSO:H (L.take (i+1)++(⟨R,D,K,P⟩:ai)::L.drop (i+1)=bE (G++[(⟨R,D,K,P⟩:ai)])):=(by show _=_;have hh:=HAH.o;rw[HL.o]at hh⊢;exact xo G (⟨R,D,K,P⟩:ai) (i+1) hh (ah ⟨⟨up,us,ut,ug⟩,by have h:=HLU.o;rw[HL.o]at h;rw[Nat.add_sub_cancel];exact h,HLT2.o⟩));have HPUT:=uo (⟨R,D,K,P⟩:ai) s.o HML.o;have HPT:H (((((V2.setCell ⟨g,(i+1)*4,J⟩ (I Q R)).setCell ⟨g,(i+1)*4+1,J⟩ (I Q D)).setCell ⟨g,(i+1)*4+1+1,J⟩ (I Q K)).setCell ⟨g,(i+1)*4+1+1+1,J⟩ (Z P)).ownsRow w.1.size 156 4 (M (O ⟨g,0,J⟩) (m+1) a5) (m+1) (bL (bE (G++[(⟨R,D,K,P⟩:ai)])))):=(by show World.ownsRow _ _ _ _ _ _ _;rw[<-HSO.o];exact HPUT);have T:=(A.o.lt g rfl).1;have hGm:(G++[(⟨R,D,K,P⟩:ai)]).length=m+1:=(by rw[bU,HM.o,HL.o,lZ];rfl);have HGM:=hid hGm;go_wp2;go_roundw
   case rel=>
    refine⟨k+1,om,by go_num,?_,?_⟩
    ·rw[HG.o,HGM.o];exact HPT.o
    exact(((HBE3.o.c T _).c T _).c T _).c T _
   simp[intOf];omega
 |true=>
   have HLT2:=hid hlt2;have s:=hid (aS A.o (λb hb=>S.block b (aU A.o hb)));have C:H (V2.1[U]?=O (Δ #[I Q R,I Q D,I Q K,Z P] 156)):=(by show _=_;rw[S.block U (bP.1 HBX2.o).1];exact HBX2.o);have HBE3:=hid (HBE.o.t (S.m HBE.o.size));obtain⟨y0,y1,y2,y3⟩:=HYC.o.a (S.block g (aU A.o rfl));obtain⟨e0,e1,e2,e3⟩:=HUC.o.a (S.block g (aU A.o rfl));simp only at e0 e1 e2 e3;have z0:=s.o.frozenAt ((i+1)*4);have z1:=s.o.frozenAt ((i+1)*4+1);have z2:=s.o.frozenAt ((i+1)*4+1+1);have z3:=s.o.frozenAt ((i+1)*4+1+1+1);have hdr:L.drop i=⟨up,us,ut,ug⟩::L.drop (i+1):=(by obtain⟨h1,h2⟩:=gD.1 HLU.o;rw[<-h2];exact List.drop_eq_getElem_cons h1);have htk:L.take (i+1)=L.take i++[⟨up,us,ut,ug⟩]:=(by obtain⟨h1,h2⟩:=gD.1 HLU.o;rw[<-h2];exact iA h1);have HDR:=hid hdr;have HPUT:=uo ⟨up,us,ut,ug⟩ s.o HML.o;have HPT:H (((((V2.setCell ⟨g,(i+1)*4,J⟩ (I Q up)).setCell ⟨g,(i+1)*4+1,J⟩ (I Q us)).setCell ⟨g,(i+1)*4+1+1,J⟩ (I Q ut)).setCell ⟨g,(i+1)*4+1+1+1,J⟩ (Z ug)).ownsRow w.1.size 156 4 (M (O ⟨g,0,J⟩) (m+1) a5) (m+1) (bL (L.take i++⟨up,us,ut,ug⟩::L.drop i))):=(by show World.ownsRow _ _ _ _ _ _ _;rw[htk]at HPUT;rw[hdr];simpa using HPUT);have T:=(A.o.lt g rfl).1;go_wp2;go_roundw
   case rel=>
    refine⟨i,⟨up,us,ut,ug⟩,om,by go_num,?_,HPT.o,?_,?_⟩
    ·rw[HDR.o];intro z hz;rcases jN.1 hz with rfl|hz
     ·exact HLT2.o
     exact HAH.o z hz
    ·have hn:=HSB.o;rw[bN _ _ _ _ (by show U≠g;omega),bN _ _ _ _ (by show U≠g;omega),bN _ _ _ _ (by show U≠g;omega),bN _ _ _ _ (by show U≠g;omega)];exact C.o
    exact(((HBE3.o.c T _).c T _).c T _).c T _
   simp[intOf]
theorem Mr(n:Int)(d:eP w rb X F size late now all)(i:now<=1000)(j:¬(0<=n/\n<=1000-now)):
  Φ prog 49 #[Y (O ⟨rb,35,J⟩),I Q n] w λe f=>e=N (Ψ #[M J 0 0,I Q 1])/\f=w:=by
 obtain⟨v,d⟩:=d.a;have g:=d.h;by_cases c:n<0
 ·have b:decide (n<0)=true:=by simpa using c
  go_enter func49,ntmps49;go_wp2;go_ret2;exact⟨rfl,rfl⟩
 have b:decide (n<0)=false:=by simpa using c
 have k:decide (1000-(now:Int)<n)=true:=by simp;omega
 go_enter func49,ntmps49;go_wp2;go_ret2;exact⟨rfl,rfl⟩
theorem Mq(n:Nat)(d:eP w rb X F size late now all)(hF:∀b,F b->b<w.1.size)(h0:0<size)(h1:size<=50)(h2:late<=50)(h3:now+n<=1000)(hal:all.length<=100000)(hT:∀x∈all,bR size x<=1000):
  Φ prog 49 #[Y (O ⟨rb,35,J⟩),I Q (n:Int)] w λe w'=>∃v,e=N (Ψ #[v,I Q 0])/\eN w' w.1.size (λb=>w.1.size<=b) v (di size all (bD size late now) (bD size late (now+n)))/\eP w' rb X F size late (now+n) all/\ax F w w':=by
 obtain⟨i0,hi,hz0,hz1,hz2⟩:=eb A7;obtain⟨P,E⟩:∃c,c=bD size late now:=⟨_,rfl⟩;obtain⟨W,A⟩:∃c,c=bD size late (now+n):=⟨_,rfl⟩;have hcc:P<=W:=by rw[E,A];exact tB om
 have hc9:W<=1000:=by rw[A];exact aP kU h3
 have HC1:=hid A;rw[<-E,<-A];have HC0:=hid E;clear E A;have HD:=hid d;have HT:=hid hT;have HF:=hid hF;have c2:w.cell? ⟨rb,37,J⟩=O (I Q (now:Int)):=by obtain⟨v,d⟩:=d.a;exact d.h
 have z2:w.frozen? ⟨rb,37,J⟩=false:=by obtain⟨v,d⟩:=d.a;exact d.m 37
 have hrb:=d.e;have b0:decide ((n:Int)<0)=false:=by simp
 have b1:decide (1000-(now:Int)<(n:Int))=false:=by simp;omega
 have b1':¬1000-(now:Int)<(n:Int):=om;go_enter func49,ntmps49;go_wp2_with fail;refine(wR HC0.o HD.o h0 h1 h2 om).m ?_;rintro e w2 ⟨rfl,q,rfl⟩;have am:H (eP ((w.drewN q).setCell ⟨rb,37,J⟩ (I Q ((now:Int)+n))) rb X F size late (now+n) all):=by obtain⟨v,d⟩:=(HD.o.b (ew _ q)).a;exact⟨v,d.p (now+n) om⟩
 have HKp:H (ax F w ((w.drewN q).setCell ⟨rb,37,J⟩ (I Q ((now:Int)+n)))):=(bH (ew _ q) F).a (ko _ _ _ (by obtain⟨v,d⟩:=HD.o.a;exact d.g));go_wp2_with fail;go_loopw [7,8] (λl i V=>∃(k:Nat),P<=k/\k<=W/\i=I Q (k:Int)/\eN V w.1.size (λb=>w.1.size<=b) l (di size all P k)/\eP V rb X F size late (now+n) all/\ax F w V) (λ_ i _=>W-(intOf i).toNat)
 case atStart=>refine⟨P,aa _,hcc,rfl,?_,am.o,HKp.o⟩;rw[zB all nl];exact eN.f _ _ _
 case round=>
  obtain⟨k,hk0,hk1,rfl,heo,ad,a6⟩:=hrel;have HEO:=hid heo;have a7:=hid ad;have HK:=hid a6;have hsz:=a6.c;go_wp2_with fail;refine(wR HC1.o a7.o h0 h1 h2 h3).m ?_;rintro e w2 ⟨rfl,q2,rfl⟩;have y:H (eP (wr.drewN q2) rb X F size late (now+n) all):=a7.o.b (ew _ _);have s:H (eN (wr.drewN q2) w.1.size (λb=>w.1.size<=b) u7 (di size all P k)):=HEO.o.c (ew _ _);have U:H (ax F w (wr.drewN q2)):=HK.o.a (bH (ew _ _) F);have hsz2:w.1.size<=(wr.drewN q2).1.size:=hsz;generalize wr.drewN q2=V at *;by_cases hlt:k<W
  case neg=>have hkk:k=W:=om;subst hkk;have hI:¬(k:Int)<k:=om;go_wp2;go_ret2;exact⟨_,rfl,s.o,y.o,U.o⟩
  case pos=>
   have hI:(k:Int)<W:=om;go_wp2_with fail;refine(RO k y.o hal HT.o).m ?_;rintro e w3 ⟨v,rfl,r,C⟩;obtain⟨p,D,rfl,T⟩:=qo (by rw[<-lZ (aR size all k)]at r;exact r);obtain⟨L,hL⟩:∃L,L=bE (aR size all k):=⟨_,rfl⟩;rw[<-hL]at T r⊢;have HLL:=hid hL;have a8:=hid T;have HVB:H (∀b,(M p L.length D).ownBlock=O b->V.1.size<=b):=λb z=>(r.lt b z).1;have ab:=hid (y.o.b C);have HK3:=hid (U.o.a (bH C F));have hsz3:=C.size;have G:=s.o.c C;have K:H (∀b,u7.ownBlock=O b->w.1.size<=b/\b<V.1.size):=λb z=>(by obtain⟨ps,_,ho,_⟩:=s.o.a;exact ho.lt b z);obtain⟨ps,a2,hpo,a4⟩:=(G.d (Δ #[I Q (k:Int),M p L.length D] 124)).a;have HPR:=hid a4;have HPL:=hid a2;have hTl:(di size all P k).length<=1000:=(by unfold di;simp;omega);clear r hL T C G a2 a4 y s U;go_wp2_with (at_builtin;refine iB _ rfl _ _ 118 rfl w.1.size 124 i0 (.agg #[I Q 0,M J 0 0]) 2 32 underlying118 hi hz0 hz1 hz2 rfl dc _ _ _ rfl hpo ⟨w3.1.size,0,J⟩ 1 1 [I Q (k:Int),M p L.length D] rfl rfl ?q1 ?q2 om ?q3 ?q4 ?q5 (w3.1.size+1) ?q6 ?_)
   case q1=>
    intro j u S
    match j,S with
   |0,S=>simp at S;subst S;simp[Addr.add]
   |1,S=>simp at S;subst S;simp[Addr.add]
   case q2=>intro u hu;simp at hu;rcases hu with rfl|rfl<;>rfl
   case q3=>unfold maxLen;omega
   case q4=>omega
   case q5=>simp;omega
   case q6=>simp
   intro g a5 w4 R t hat hlt4;have a0:=(qe _ w3 _).a (eV t (λb z=>(K.o b z).1));have a3:H (eN w4 w.1.size (λb=>w.1.size<=b) (M (O ⟨g,0,J⟩) ((di size all P k).length+1) a5) (di size all P (k+1))):=by show eN _ _ _ _ _;rw[y7 all hk0,<-HLL.o];refine eN.g (p:=p) (c:=D) (f:=(k,L)) HPL.o HPR.o R t (by rcases hat with h|h;exact af h;exact ah (by rw[h];simp)) (a8.o.d sm (λb o _ z=>cX _ _ _ z)) ?_;intro hne;obtain⟨b,o,hp,_⟩:=a8.o.a hne;have z:=HVB.o b (by rw[hp];rfl);refine⟨b,o,hp,om,λe=>?_⟩;have h1:=K.o b e;omega
   have a1:H (eP w4 rb X F size late (now+n) all):=ab.o.d (λb z h=>a0.b b z (λh'=>by
    have h2:=HF.o b h;omega))
   have HK4:=hid (HK3.o.d a0 (λb z h=>by omega));go_wp2;go_roundw
   case rel=>exact⟨k+1,om,om,by go_num,a3.o,a1.o,HK4.o⟩
   simp[intOf];omega
end
end
section
open Go.RowKit Go.Maps
section
variable {w w' w0:Ω}{rb:Nat}{ow:Nat->Nat}{c:aE}{rs:List aq}{s s':ay}{k k' q q':Nat}{L:List ByteArray}{p:ib}
theorem ON{all':List ai}{now':Nat}(h:ek w rb ow c rs s k q L p)(D:eP w' rb (eZ c s p) (λb=>b=rb\/ow b=3) c.b c.e now' all')(t:ax (λb=>b=rb\/ow b=3) w w')
  (C:aC c { s with a:=all',b:=now' } k=aC c s k):∃v,ek w' rb ow c rs { s with a:=all',b:=now' } k q L { p with d:=v }:=by
 obtain⟨v,d⟩:=D.a;have u:=t.c
 have m:∀b n,b<w.1.size->ow b=n->n≠0->n≠1->n≠3->w'.1[b]?=w.1[b]?:=λb n x j E o z=>t.b b x (λr=>by
  rcases r with r|r
  ·rw[r,h.a]at j;exact o j.symm
  ·rw[j]at r;exact z r)
 refine⟨v,?_,h.a,λb j=>bg (h.d b j) u,?_,h.g,d.c,?_,?_,h.f,?_⟩
 ·have:=d.a;rw[AO]at this;rw[this];rfl
 ·exact aS h.h (λb j=>m b 2 (aU h.h j) (h.g b j) dc dc dc)
 ·intro b j;rcases d.e b j with o|o
  ·exact absurd o (d.i j)
  exact o
 ·exact aS h.i (λb j=>m b 4 (aU h.i j) (h.f b j) dc dc dc)
 obtain⟨F,o,y⟩:=h.l;rw[C];exact⟨F,o.d u (λb j A=>m b 5 j (y b A) dc dc dc),y⟩
theorem OO{F y:Nat->Prop}(h:ek w rb ow c rs s k q L p)(u:∀b,F b->ow b=5)(C:aO w' p.a y c.d c.c q' (aC c s k'))(v:∀b,y b->F b\/(w.1.size<=b/\b<w'.1.size))(r:ax F w w'):
  ek w' rb (dA ow w w' 5) c rs s k' q' L p/\cD w w' ow (dA ow w w' 5):=by
 have x:=r.c;have o:∀b n,ow b=n->n≠0->n≠5->w'.1[b]?=w.1[b]?:=λb n e t z=>r.b b (h.d b (by rw[e];exact t)) (λA=>z (e.symm.trans (u b A)));have l:∀b n,ow b=n->n≠0->dA ow w w' 5 b=n:=λb n e t=>by rw[rm (h.d b (by rw[e];exact t))];exact e
 refine⟨⟨?_,l _ _ h.a dc,λb e=>rj h.d x e,?_,?_,?_,?_,?_,?_,?_⟩,tO r (λb e=>by rw[u b e];decide)⟩
 ·rw[o rb 1 h.a dc dc];exact h.m
 ·exact aS h.h (λb e=>o b 2 (h.g b e) dc dc)
 ·exact λb e=>l b 2 (h.g b e) dc
 ·exact aS h.n (λb e=>o b 3 (h.j b e) dc dc)
 ·exact λb e=>l b 3 (h.j b e) dc
 ·exact aS h.i (λb e=>o b 4 (h.f b e) dc dc)
 ·exact λb e=>l b 4 (h.f b e) dc
 refine⟨y,C,λb e=>?_⟩;rcases v b e with h1|h1
 ·exact l b 5 (u b h1) dc
 unfold dA;rw[ak h1]
theorem OQ(n:Int)(h:dF w rb ow c rs s k q)(f:s.b<=1000)(l:¬(0<=n/\(s.b:Int)+n<=1000)):
  Φ prog 29 #[Y (O ⟨rb,0,J⟩),I Q n] w λe d=>e=N (Ψ #[I Q 0,I Q 1])/\d=w:=by
 obtain⟨p,g⟩:=h.a;have j:=hid (Mr n ⟨_,g.v⟩ f om);go_enter func29,ntmps29;go_wp2_with fail;refine ac j.o ?_;rintro e d ⟨rfl,rfl⟩;go_wp2;go_loopw [8] (λi V=>i=I Q 0/\V=d) (λ_ _=>0)
 case atStart=>exact⟨rfl,rfl⟩
 obtain⟨rfl,rfl⟩:=hrel;go_wp2;go_ret2;exact⟨rfl,rfl⟩
theorem Mt(n:dH c s)(j:Nat):(bE (aR c.b s.a j)).all dm=true/\nF (bE (aR c.b s.a j))=true:=by
 have l:s.a.length<=20000:=by have:=n.f;unfold ay.d ay.m at this;omega
 have g:∀x,x∈bE (aR c.b s.a j)->x∈s.a:=λx i=>by rw[yZ]at i;exact(oW.1 i).1
 refine⟨?_,pb.2 ⟨?_,λx i=>?_⟩⟩
 ·rw[kQ];intro x i;have k:=mf.1 (n.d x (g x i)).1;exact km.2 ⟨⟨k.d,k.e⟩,k.f,k.h⟩
 ·rw[lZ];exact aP (tM _ _ _) l
 have k:=mf.1 (n.d x (g x i)).1;rw[k.a];decide
theorem OR(n:Nat)(h:dF w rb ow c rs s k q)(hf:dH c s)(hk:k=s.c c)(hn:s.b+n<=1000)(hK:(s.h n).c c<=1000):
  Φ prog 29 #[Y (O ⟨rb,0,J⟩),I Q (n:Int)] w λe w'=>e=N (Ψ #[I Q (((s.h n).c c-s.c c:Nat):Int),I Q 0])/\iz w w' rb ow c rs (s.h n) ((s.h n).c c) q:=by
 obtain⟨p,hp⟩:=h.a;have hal:s.a.length<=20000:=by have:=hf.f;unfold ay.d ay.m at this;omega
 have hl0:=hf.a.d
 have hT:∀x∈s.a,bR c.b x<=1000:=λx hx=>by
  have X:=mf.1 (hf.d x hx).1;unfold bR;have h2:x.d.toNat<=1000:=by have:=X.c;have:=hf.e;omega
  exact aP (Nat.div_le_self _ _) h2
 have HTK:H (Φ prog 49 #[Y (O ⟨rb,35,J⟩),I Q (n:Int)] w λe w'=>∃v,e=N (Ψ #[v,I Q 0])/\eN w' w.1.size (λb=>w.1.size<=b) v (di c.b s.a (bD c.b c.e s.b) (bD c.b c.e (s.b+n)))/\eP w' rb (eZ c s p) (λb=>b=rb\/ow b=3) c.b c.e (s.b+n) s.a/\ax (λb=>b=rb\/ow b=3) w w'):=
  Mq n ⟨_,hp.v⟩ (λb D=>by
   rcases D with rfl|D
   ·exact hp.r
   ·exact hp.d b (by rw[D];decide)) om hf.a.e hf.a.g hn om hT
 have HP:=hid hp;have HF:=hid hf;have HK:=hid hk;have hk':k<=(s.h n).c c:=by rw[hk];exact tB (Nat.le_add_right _ _)
 have HC:H ((s.h n).c c=bD c.b c.e (s.b+n)):=rfl;have HLM:=hid hp.d;rw[<-hk];obtain⟨K1,hK1⟩:∃K1,K1=(s.h n).c c:=⟨_,rfl⟩;have HK1:=hid hK1;rw[<-hK1]at hk' hK⊢;obtain⟨t,hN⟩:∃t,t=K1-k:=⟨_,rfl⟩;have HN:=hid hN;rw[<-hN];have hN9:t<=1000:=om;clear h hp hk hK1 hN hf hT;go_enter func29,ntmps29;go_wp2_with fail;refine ac HTK.o ?_;rintro e w1 ⟨v,rfl,W,hd1,hk1⟩;obtain⟨dv',hda⟩:=ON (now':=s.b+n) (all':=s.a) HP.o hd1 hk1 rfl;have HD1:H (dF w1 rb ow c rs (s.h n) k q):=⟨_,hda⟩
 have hwp:cD w w1 ow ow:=⟨hk1.e (λb _ D=>by
  rcases D with rfl|D
  ·rw[HP.o.a];decide
  ·rw[D];decide),λ_ h=>af h⟩
 have HWP1:=hid hwp;rw[<-HC.o,<-HK1.o,show bD c.b c.e s.b=s.c c from rfl,<-HK.o]at W;obtain⟨ps,hpl,G,hrd⟩:=W.a;rw[DP,<-HN.o]at hpl G;have HPL:=hid hpl;have T:=hid G;have HRD:=hid hrd
 obtain⟨eq,cp,hv⟩:∃eq cp,v=M eq t cp:=by
  rcases G.2 with ⟨rfl,h0⟩|⟨g,cap,cur,hv,_⟩
  ·exact⟨J,0,by rw[h0]⟩
  exact⟨_,_,hv⟩
 subst hv;go_wp2;go_loopw [8] (λi V=>∃(j:Nat) (E:Nat->Nat),j<=t/\i=I Q (j:Int)/\dF V rb E c rs (s.h n) (k+j) q/\cD w1 V ow E) (λi _=>t-(intOf i).toNat)
 case atStart=>exact⟨0,ow,aX _,rfl,HD1.o,cD.f _ _⟩
 obtain⟨j,E,hj,rfl,hw,hwq⟩:=hrel;have HW:=hid hw;have z:=hid hwq;by_cases hlt:j<t
 case neg=>obtain rfl:j=t:=om;have hII:¬(j:Int)<j:=om;have HFI:H (iz w wr rb ow c rs (s.h n) K1 q):=⟨E,by have h:=HW.o;rw[show k+j=K1 by have:=HN.o;omega]at h;exact h,HWP1.o.d z.o⟩;go_wp2;go_ret2;exact⟨rfl,HFI.o⟩
 have hII:(j:Int)<t:=om;have hjp:j<ps.length:=(by rw[HPL.o];exact hlt);have hpj:=bc hjp;have hej:=EQ c.b s.a k K1 j (by rw[<-HN.o];exact hlt);obtain⟨R,C⟩:=HRD.o j _ _ hej hpj;obtain⟨g,cp',hq,hg1,hg2⟩:=T.o.form om;obtain⟨rfl,-⟩:eq=O ⟨g,0,J⟩/\True:=(by simp at hq;exact⟨hq.1,aN⟩);have hcl:∀i u,i<2->(mw (k+j,bE (aR c.b s.a (k+j))) ps[j])[i]?=O u->w1.cell? ⟨g,j*2+i,J⟩=O u:=λi u hi hu=>(by have:=T.o.cells (g:=g) rfl (j*2+i) u (by rw[xG _ ps j i _ _ hej hpj hi];exact hu);rw[dD]at this;exact this);have hog:ow g=0:=(by apply lX;intro hn;have:=HLM.o g hn;omega);have hgk:=z.o.a.b g hg2 (λe=>e hog);have k1:wr.cell? ⟨g,j*2+1,J⟩=O (M ps[j].1 (bE (aR c.b s.a (k+j))).length ps[j].2):=(by rw[bW (w:=w1) hgk];exact hcl 1 _ om rfl);have hg2':=bg hg2 z.o.a.c;have a1:=sQ hog hg2 z.o;generalize ps[j]=pc at *;obtain⟨pp,A⟩:=pc;simp only at k1 R C;obtain⟨K,hLS⟩:∃K,K=bE (aR c.b s.a (k+j)):=⟨_,rfl⟩;have y:=Mt HF.o (k+j);rw[<-hLS]at k1 R C y;have HEP:H (aC c (s.h n) (k+j+1)=aC c (s.h n) (k+j)++[K]):=by show _=_;rw[xK,hLS];rfl
 have S:cZ wr pp K:=by
  by_cases hne:K=[]
  ·rw[hne];exact cZ.c
  refine R.d z.o.a.c (λb o e D=>?_);obtain⟨b',o',X,h2,_⟩:=C hne;rw[X]at e;simp at e;refine z.o.a.b b D (λhh=>?_);have:=HLM.o b hh;omega
 obtain⟨p4,L⟩:=HW.o.a;obtain⟨F,hF1,hF2⟩:=L.l;have c39:wr.cell? ⟨rb,39,J⟩=O (Y (O ⟨p4.a,0,J⟩)):=L.e om;have HTL:H (∀dd,Φ prog 50 #[Y (O ⟨p4.a,0,J⟩),M pp K.length A] (wr.drewN dd) λe w2=>e=N (I Q 0)/\(∃o2,dF w2 rb o2 c rs (s.h n) (k+(j+1)) q/\cD w1 w2 ow o2)/\w2.cell? ⟨rb,39,J⟩=O (Y (O ⟨p4.a,0,J⟩))/\w2.cell? ⟨g,j*2+1,J⟩=O (M pp K.length A)):=λdd=>(by have P:B wr.1.size wr (wr.drewN dd):=kT (aj _ wr) dd;have hdd:=L.o P;refine(Mh K pp A (hF1.c P) y.2 (S.e P) (by rw[sG];have h2:=HN.o;omega)).m ?_;rintro e w2 ⟨rfl,hr2,a0⟩;rw[ak y.1]at hr2⊢;rw[<-HEP.o]at hr2;obtain⟨X,h2⟩:=OO hdd hF2 hr2 (λb D=>D) a0;refine⟨rfl,⟨_,⟨p4,X⟩,(z.o.d (cD.e P E)).d h2⟩,X.e om,?_⟩;rw[bW (w:=wr) (a0.b g hg2' (λhh=>by rw[hF2 g hh]at a1;omega))];exact k1);have HLSL:=hid ((pb.1 y.2).1);clear R C hcl hgk hq hpj hej S y hLS L hF1 hF2 hog a1;go_upto_region 5 with fail;go_region_held3 (λU=>U.cell? ⟨rb,39,J⟩=O (Y (O ⟨p4.a,0,J⟩))/\U.cell? ⟨g,j*2+1,J⟩=O (M pp K.length A)) (go_keep) (first|(go_at_call 50;refine(HTL.o 1).m ?_;rintro e w4 ⟨rfl,hto,t1,t2⟩;have HTO:H (∃o2,dF w4 rb o2 c rs (s.h n) (k+(j+1)) q/\cD w1 w4 ow o2):=hto;clear hto))
 all_goals
  clear t1 t2 c39 k1;go_wp2;go_roundw
  case rel=>obtain⟨o2,X,h2⟩:=HTO.o;exact⟨j+1,o2,om,by go_num,X,h2⟩
  simp[intOf];omega
end
end
section
open Go.RowKit Go.Maps
theorem OT(c:aE)(s:ay)(p:ib){j:Nat}(a:j<4):dS c s p (23+j*2+1)=I Q (s.g j:Int):=by unfold dS;rw[ag (show ¬23+j*2+1<22 by omega),ak (show 23+j*2+1<35 by omega),ag (show ¬23+j*2+1=22 by omega),ak (show 23+j*2+1<31 by omega),ag (show ¬(23+j*2+1-23)%2=0 by omega),show (23+j*2+1-23)/2=j by omega]
section
variable {w w' w0:Ω}{rb:Nat}{ow:Nat->Nat}{c:aE}{rs:List aq}{s s':ay}{k k' q q':Nat}{L:List ByteArray}{p:ib}
theorem KA(h:dF w rb ow c rs s k q)(S:dH c s):
  Φ prog 35 #[Y (O ⟨rb,0,J⟩)] w λe w'=>e=N (oK s (dE s 4))/\B w.1.size w w':=by
 obtain⟨p,h⟩:=h.a;have E:=h.r;have m:∀(o:Obj)(i:Nat),i<46->(w.alloc o).cell? ⟨rb,i,J⟩=O (dS c s p i):=λo i W=>by rw[((aj w.1.size w).l nl o).cell h.r];exact h.e W
 have d0:∀o,(w.alloc o).cell? ⟨rb,41,J⟩=O (I Q 0):=λo=>m o 41 om;have d1:∀o,(w.alloc o).cell? ⟨rb,42,J⟩=O (I Q (s.n:Int)):=λo=>m o 42 om;have d2:∀o,(w.alloc o).cell? ⟨rb,43,J⟩=O (I Q (s.p:Int)):=λo=>m o 43 om;have d3:∀o,(w.alloc o).cell? ⟨rb,44,J⟩=O (I Q (s.l:Int)):=λo=>m o 44 om;have d4:∀o,(w.alloc o).cell? ⟨rb,45,J⟩=O (I Q (s.o:Int)):=λo=>m o 45 om;have X:=hid h;have HF:=hid S;clear m h S;go_enter func35,ntmps35;go_upto_region 2 with fail
 have D:H (∀o t,B w.1.size w ((w.alloc o).alloc t)):=λo t=>((aj _ w).l nl o).l sm t;have HN:H (∀o t,((w.alloc o).alloc t).1[w.1.size+1]?=O t):=λo t=>by show _=_;have:=bn (w.alloc o) t;simpa using this
 have G:H (∀o t,((w.alloc o).alloc t).1[w.1.size]?=O o):=λo t=>by show _=_;rw[cX _ _ _ sm];exact bn w o
 go_wp2;go_loopw [4] (λi V=>∃j:Nat,j<=4/\i=I Q (j:Int)/\V.1[w.1.size+1]?=O (Δ #[I Q (dE s j:Int),I Q (s.n:Int),I Q (s.p:Int),I Q (s.l:Int),I Q (s.o:Int)] 51)/\V.1[w.1.size]?=O (Δ #[I Q 0,I Q 0,I Q 0,I Q 0,I Q 0] 51)/\B w.1.size w V) (λi _=>4-(intOf i).toNat)
 case atStart=>exact⟨0,om,rfl,HN.o _ _,G.o _ _,D.o _ _⟩
 obtain⟨j,hj,rfl,P,R,x⟩:=hrel;have z:=hid x;have A:=hid P;have b:=hid R;have e0:wr.cell? ⟨w.1.size+1,0,J⟩=O (I Q (dE s j:Int)):=by simp[World.cell?,P]
 have ez:wr.frozen? ⟨w.1.size+1,0,J⟩=false:=by simp[World.frozen?,P]
 have T:j<4->wr.cell? ⟨rb,23+j*2+1,J⟩=O (I Q (s.g j:Int)):=λh4=>by rw[x.cell E,X.o.e om,OT c s p h4]
 by_cases u:j<4
 case pos=>
  have U:(j:Int)<4:=om;have el':=T u
  have y:dE s j+s.g j<=20000:=by
   have h1:=HF.o.f
   have h2:dE s j+s.g j<=s.d:=by
    unfold ay.d dE
    match j,u with
   |0,_=>simp;omega
   |1,_=>simp[l8];omega
   |2,_=>simp[l8];omega
   |3,_=>simp[l8];omega
   omega
  have K:H (wrap64 ((dE s j:Int)+(s.g j:Int))=((dE s (j+1):Nat):Int)):=(by show wrap64 _=_;unfold wrap64;rw[xy];omega);have L:H (((wr.setCell ⟨w.1.size+1,0,J⟩ (I Q ((dE s (j+1):Nat):Int))).drew).1[w.1.size+1]?=O (Δ #[I Q (dE s (j+1):Int),I Q (s.n:Int),I Q (s.p:Int),I Q (s.l:Int),I Q (s.o:Int)] 51)):=(by show (wr.setCell _ _).1[_]?=_;simp[World.setCell,dU,A.o]);have C:H (((wr.setCell ⟨w.1.size+1,0,J⟩ (I Q ((dE s (j+1):Nat):Int))).drew).1[w.1.size]?=O (Δ #[I Q 0,I Q 0,I Q 0,I Q 0,I Q 0] 51)):=(by show (wr.setCell _ _).1[_]?=_;rw[bN _ _ _ _ (by show w.1.size≠w.1.size+1;omega)];exact b.o);have F:H (B w.1.size w ((wr.setCell ⟨w.1.size+1,0,J⟩ (I Q ((dE s (j+1):Nat):Int))).drew)):=(z.o.c sm _).drew;clear T y;go_wp2;go_region
  all_goals
   rw[K.o];go_wp2;go_roundw
   case rel=>exact⟨j+1,om,by go_num,L.o,C.o,F.o⟩
   simp[intOf];omega
 obtain rfl:j=4:=om;have U:¬((4:Nat):Int)<4:=om;have f0:wr.cell? ⟨w.1.size+1,1,J⟩=O (I Q (s.n:Int)):=(by simp[World.cell?,A.o]);have f1:wr.cell? ⟨w.1.size+1,2,J⟩=O (I Q (s.p:Int)):=(by simp[World.cell?,A.o]);have f2:wr.cell? ⟨w.1.size+1,3,J⟩=O (I Q (s.l:Int)):=(by simp[World.cell?,A.o]);have f3:wr.cell? ⟨w.1.size+1,4,J⟩=O (I Q (s.o:Int)):=(by simp[World.cell?,A.o]);have g0:wr.cell? ⟨w.1.size,0,J⟩=O (I Q 0):=(by simp[World.cell?,b.o]);have g1:wr.cell? ⟨w.1.size,1,J⟩=O (I Q 0):=(by simp[World.cell?,b.o]);have g2:wr.cell? ⟨w.1.size,2,J⟩=O (I Q 0):=(by simp[World.cell?,b.o]);have g3:wr.cell? ⟨w.1.size,3,J⟩=O (I Q 0):=(by simp[World.cell?,b.o]);have g4:wr.cell? ⟨w.1.size,4,J⟩=O (I Q 0):=(by simp[World.cell?,b.o]);have gz:∀i:Nat,wr.frozen? ⟨w.1.size,i,J⟩=false:=λi=>by simp[World.frozen?,b.o]
 have HB:H (B w.1.size w (((((wr.setCell ⟨w.1.size,0,J⟩ (I Q (dE s 4:Int))).setCell ⟨w.1.size,1,J⟩ (I Q (s.n:Int))).setCell ⟨w.1.size,2,J⟩ (I Q (s.p:Int))).setCell ⟨w.1.size,3,J⟩ (I Q (s.l:Int))).setCell ⟨w.1.size,4,J⟩ (I Q (s.o:Int)))):=
  ((((z.o.c nl _).c nl _).c nl _).c nl _).c nl _
 go_wp2;refine bK (v:=oK s (dE s 4)) (by simp[results,results35,go_sem,oK,g0,g1,g2,g3,g4]) rfl ⟨rfl,HB.o⟩
end
end
section
open Go.RowKit Go.Maps
section
variable {w w' w0:Ω}{rb:Nat}{ow:Nat->Nat}{c:aE}{rs:List aq}{s s':ay}{k k' q q':Nat}{L:List ByteArray}{p:ib}
theorem OW(d:dH c s)(k:Nat):∀L:List ByteArray,L.Pairwise (λa b=>a.toList<b.toList)->(∀g,g∈L->aG g (aC c s k)=true)->L.length<=12:=λ_ f e=>
 aP ((vk f).length_le_of_subset (λg h=>xx (k:=k) (si.2 (e g h)))) d.b
theorem Aq{F:Nat->Prop}(h:ek w rb ow c rs s k q L p)(t:∀b,F b->ow b=5)(z:aO w' p.a F c.d c.c q' (aC c s k))(r:ax F w w'):ek w' rb ow c rs s k q' L p/\cD w w' ow ow:=by
 have u:=r.c;have o:∀b n,ow b=n->n≠0->n≠5->w'.1[b]?=w.1[b]?:=λb n l v x=>r.b b (h.d b (by rw[l];exact v)) (λy=>x (l.symm.trans (t b y)));refine⟨⟨?_,h.a,λb l=>bg (h.d b l) u,?_,h.g,?_,h.j,?_,h.f,⟨F,z,t⟩⟩,⟨r.e (λb _ l=>by rw[t b l];decide),λ_ h=>af h⟩⟩
 ·rw[o rb 1 h.a dc dc];exact h.m
 ·exact aS h.h (λb l=>o b 2 (h.g b l) dc dc)
 ·exact aS h.n (λb l=>o b 3 (h.j b l) dc dc)
 exact aS h.i (λb l=>o b 4 (h.f b l) dc dc)
structure j6 (w w':Ω) (rb f:Nat) (ow:Nat->Nat) (c:aE) (rs:List aq) (s:ay) (k q:Nat) (L:List ByteArray) (p:ib):Prop where
 a:ek w' rb ow c rs s k q L p
 b:cD w w' ow ow
 f:p.a=f
theorem C8(g:ByteArray)(e:Int)(h:ek w rb ow c rs s k q L p)(r:dH c s)(y:g.size<=100000)(v:q<=10000000000000):
  Φ prog 40 #[Y (O ⟨p.a,0,J⟩),Z g,I Q e] w λx f=>x=N (Ψ #[I Q (bV k (aG g (aC c s k)) e (aI g (al (aC c s k)) c.d c.c e.toNat)).1,I Q ((bV k (aG g (aC c s k)) e (aI g (al (aC c s k)) c.d c.c e.toNat)).2:Int)])/\j6 w f rb p.a ow c rs s k (q+1) L p:=by
 obtain⟨F,t,u⟩:=h.l;refine(C1 g e t r.a.b y v).m ?_;rintro x f ⟨rfl,i,o⟩;rw[sG];obtain⟨n,j⟩:=Aq h u i o;exact⟨rfl,n,j,rfl⟩
theorem Ju(g:ByteArray)(e:Int){X:ByteArray}(h:ek w rb ow c rs s k q L p)(z:dH c s)(hk:k<=100)(hg:g.size<=100000)(P:mC c s k g e X)(hq:q<=6000000000000):
  Φ prog 41 #[Y (O ⟨rb,0,J⟩),Z g,I Q e] w λx D=>x=N (Ψ #[Z X,I Q ((bV k (aG g (aC c s k)) e (aI g (al (aC c s k)) c.d c.c e.toNat)).2:Int)])/\j6 w D rb p.a ow c rs s k (q+3000000) L p:=by
 have HW:=hid (C8 g e h z hg om);have c39:w.cell? ⟨rb,39,J⟩=O (Y (O ⟨p.a,0,J⟩)):=h.e om;have HF:=hid z;have u:H (∀D,j6 w D rb p.a ow c rs s k (q+1) L p->j6 w D rb p.a ow c rs s k (q+3000000) L p):=λD t=>by obtain⟨F,h1,h2⟩:=t.a.l;exact⟨⟨t.a.m,t.a.a,t.a.d,t.a.h,t.a.g,t.a.n,t.a.j,t.a.i,t.a.f,⟨F,h1.a om,h2⟩⟩,t.b,rfl⟩
 by_cases T:(bV k (aG g (aC c s k)) e (aI g (al (aC c s k)) c.d c.c e.toNat)).2=0
 case neg=>
  unfold mC at P;rw[ag T]at P;subst P;generalize bV k (aG g (aC c s k)) e (aI g (al (aC c s k)) c.d c.c e.toNat)=v at *;obtain⟨v1,v2⟩:=v;simp only at T HW⊢;have i1:(0:Int)<(v2:Int):=om;have i2:decide ((0:Int)<(v2:Int))=true:=by simpa using i1
  go_enter func41,ntmps41;go_wp2_with fail;refine ac HW.o ?_;rintro x w1 ⟨rfl,t⟩;have HA:=hid t;go_wp2;go_ret2;exact⟨rfl,u.o _ HA.o⟩
 have he:0<=e/\e<(k:Int):=by
  unfold bV at T;split at T
  ·assumption
  simp at T
 unfold mC at P;rw[ak T]at P;obtain⟨m,rfl⟩:∃m:Nat,e=(m:Int):=⟨e.toNat,om⟩;rw[ir]at P;have hmk:m<k:=om;rw[T]at HW⊢;generalize (bV k (aG g (aC c s k)) (m:Int) (aI g (al (aC c s k)) c.d c.c (m:Int).toNat)).1=v1 at *;obtain⟨n1,hn1⟩:∃n1,n1=m+1:=⟨_,rfl⟩;have E:H (∀V dd,j6 w V rb p.a ow c rs s k (q+1) L p->Φ prog 62 #[Y (O ⟨p.a,0,J⟩),Z g,I Q (IntKind.i64.wrap ((m:Int)+1)),I Q (c.f:Int),I Q (c.g:Int)] (V.drewN dd) λx D=>(∃gb C,x=N (M (O ⟨gb,0,J⟩) n1 C)/\D.cell? ⟨gb,m,J⟩=O (Z X))/\j6 w D rb p.a ow c rs s k (q+3000000) L p):=λV dd t=>by have hbd:B V.1.size V (V.drewN dd):=kT (aj _ V) dd;have hd:=t.a.o hbd;obtain⟨F,h1,h2⟩:=hd.l;have G:=IW g (m+1) c.f c.g h1 (by rw[sG];omega) z.a.b z.a.h z.a.l z.a.f z.a.i (by have:=z.a.j;have:=z.a.f;omega) hg (λL h3 h4=>aP (OW z k L h3 h4) dc) om;have e1:(((m+1:Nat)):Int)=(m:Int)+1:=om;have hwr:IntKind.i64.wrap ((m:Int)+1)=(m:Int)+1:=(by simp[IntKind.wrap,IntKind.bits,IntKind.signed];omega);rw[e1,<-hwr]at G;refine G.m ?_;rintro x D W;obtain⟨pp,C,fs,hfl,rfl,hall,hts⟩:=W.b;have hm1:m<fs.length:=om;obtain⟨gb,rfl,hc,_,_⟩:=hts.a m _ (bc hm1);obtain⟨f,hf1,rfl⟩:=P;have hu:=jj.a (k:=m+1) (f:=f) (f':=jE fs) (λe g he=>hf1 e g om) g (λe he=>hall e om) m om;have hxx:fs[m]=f m g:=(by rw[hu];unfold jE;simp[hm1]);rw[hxx]at hc;obtain⟨A,h6⟩:=Aq hd h2 W.c W.a;obtain⟨F',h7,h8⟩:=A.l;refine⟨⟨gb,C,by rw[hn1],hc⟩,⟨⟨A.m,A.a,A.d,A.h,A.g,A.n,A.j,A.i,A.f,⟨F',h7.a om,h8⟩⟩,(t.b.d (cD.e hbd ow)).d h6,rfl⟩⟩
 have U:H (∀V q',j6 w V rb p.a ow c rs s k q' L p->V.cell? ⟨rb,39,J⟩=O (Y (O ⟨p.a,0,J⟩))/\V.cell? ⟨rb,4,J⟩=O (I Q (c.f:Int))/\V.cell? ⟨rb,5,J⟩=O (I Q (c.g:Int))):=λV q' t=>⟨t.a.e om,t.a.e om,t.a.e om⟩;obtain⟨q1,hq1⟩:∃q1,q1=q+1:=⟨_,rfl⟩;obtain⟨q2,hq2⟩:∃q2,q2=q+3000000:=⟨_,rfl⟩;rw[<-hq1]at HW E;rw[<-hq2]at E⊢;obtain⟨tb,htb⟩:∃tb,tb=p.a:=⟨_,rfl⟩;rw[<-htb]at HW E U c39⊢;have hmI:(m:Int)<(n1:Int):=om;have hm9:(m:Int)<=100:=om;clear T h z P he hq1 hq2 u hq htb hn1 hmk hk;generalize c.f=sp at *;generalize c.g=sc at *;go_enter func41,ntmps41;go_wp2_with fail;refine ac HW.o ?_;rintro x w1 ⟨rfl,t⟩;have HA:=hid t;obtain⟨k0,k1,k2⟩:=U.o _ _ t;clear t c39;go_upto_region 4 with fail
 have r:w1.drew.cell? ⟨rb,39,J⟩=O (Y (O ⟨tb,0,J⟩))/\w1.drew.cell? ⟨rb,4,J⟩=O (I Q (sp:Int))/\w1.drew.cell? ⟨rb,5,J⟩=O (I Q (sc:Int)):=⟨k0,k1,k2⟩;refine fG (S:=λV=>V.cell? ⟨rb,39,J⟩=O (Y (O ⟨tb,0,J⟩))/\V.cell? ⟨rb,4,J⟩=O (I Q (sp:Int))/\V.cell? ⟨rb,5,J⟩=O (I Q (sc:Int))) kr r (λ_=>?_);refine ar 0 23 (Y (O ⟨rb,0,J⟩)) r ?_;refine ar 1 24 (Y (O ⟨rb,0,J⟩)) r ?_;refine ar 2 25 (Y (O ⟨rb,39,J⟩)) r ?_;refine aF 3 26 (Y (O ⟨tb,0,J⟩)) rfl rfl kr (λ_ _ _ h=>h) (af ⟨by rfl,λwx R=>by (try dsimp only at R);obtain⟨r0,r1,r2⟩:=R;go_simp⟩) r ?_;simp only[Act.put,az,aA,aB];refine ar 4 27 (Z g) r ?_;refine ar 5 28 (I Q (m:Int)) r ?_;refine ar 6 29 (I Q (IntKind.i64.wrap ((m:Int)+1))) r ?_;refine ar 7 30 (Y (O ⟨rb,0,J⟩)) r ?_;refine ar 8 31 (Y (O ⟨rb,0,J⟩)) r ?_;refine ar 9 32 (Y (O ⟨rb,0,J⟩)) r ?_;refine ar 10 33 (Y (O ⟨rb,4,J⟩)) r ?_;refine aF 11 34 (I Q (sp:Int)) rfl rfl kr (λ_ _ _ h=>h) (af ⟨by rfl,λwx R=>by (try dsimp only at R);obtain⟨r0,r1,r2⟩:=R;go_simp⟩) r ?_;simp only[Act.put,az,aA,aB];refine ar 12 35 (Y (O ⟨rb,0,J⟩)) r ?_;refine ar 13 36 (Y (O ⟨rb,0,J⟩)) r ?_;refine ar 14 37 (Y (O ⟨rb,0,J⟩)) r ?_;refine ar 15 38 (Y (O ⟨rb,5,J⟩)) r ?_;refine aF 16 39 (I Q (sc:Int)) rfl rfl kr (λ_ _ _ h=>h) (af ⟨by rfl,λwx R=>by (try dsimp only at R);obtain⟨r0,r1,r2⟩:=R;go_simp⟩) r ?_;simp only[Act.put,az,aA,aB];refine ar 18 41 (I Q (m:Int)) r ?_;refine a9 (rs:=[17]) kr sm ?_;refine aQ rfl (λK hK=>?_) aZ;go_simp;refine(E.o _ 1 HA.o).m ?_;rintro e w4 ⟨⟨gb,C,rfl,hgc⟩,ha4⟩;have y:=U.o _ _ ha4;have HA4:=hid ha4;go_wp2_with fail;refine hK.out _ _ y (λ_=>?_);refine ar 19 42 (Y (O ⟨gb,m,J⟩)) y ?_;refine a9 (rs:=[20]) kr sm ?_;refine aQ rfl (λK hK=>?_) aZ;go_simp;refine hK.out _ _ y (λ_=>?_);refine ar 21 6 (Z X) y ?_;refine ar 22 7 (I Q 0) y ?_;refine ea kr ?_ _;go_wp2;go_ret2;exact⟨rfl,HA4.o⟩
end
end
section
open Go.RowKit Go.Maps
section
variable {w V V' U:Ω}{rb tb:Nat}{ow:Nat->Nat}{c:aE}{rs:List aq}{s:ay}{k q q':Nat}{L TL:List ByteArray}{p:ib}{A:List dG}{l T:Value}
structure fa (w V:Ω) (rb:Nat) (ow:Nat->Nat) (c:aE) (rs:List aq) (s:ay) (k q:Nat) (L:List ByteArray) (p:ib) (A:List dG) (l T:Value) (TL:List ByteArray):Prop where
 a:j6 w V rb p.a ow c rs s k q L p
 f:∀b,ow b≠0->b<w.1.size
 d:V.ownsRow w.1.size 98 3 l A.length (gd A)
 e:V.ownsRow w.1.size 9 1 T TL.length (TL.map cH)
 g:∀b,l.ownBlock=O b->T.ownBlock≠O b
theorem fa.h(h:fa w V rb ow c rs s k q L p A l T TL):w.1.size<=V.1.size:=h.a.b.a.c
theorem j6.e(h:j6 w V rb tb ow c rs s k q L p)(t:q<=q'):j6 w V rb tb ow c rs s k q' L p:=by obtain⟨F,o,r⟩:=h.a.l;exact⟨⟨h.a.m,h.a.a,h.a.d,h.a.h,h.a.g,h.a.n,h.a.j,h.a.i,h.a.f,⟨F,o.a t,r⟩⟩,h.b,h.f⟩
theorem fa.n(h:fa w V rb ow c rs s k q L p A l T TL)(b:q<=q'):fa w V rb ow c rs s k q' L p A l T TL:=⟨h.a.e b,h.f,h.d,h.e,h.g⟩
theorem fa.j(h:fa w V rb ow c rs s k q L p A l T TL){b:Nat}(d:w.1.size<=b):ow b=0:=by apply lX;intro a;have:=h.f b a;omega
theorem fa.m(h:fa w V rb ow c rs s k q L p A l T TL)(n:j6 V V' rb p.a ow c rs s k q' L p):fa w V' rb ow c rs s k q' L p A l T TL where
 a:=⟨n.a,h.a.b.d n.b,rfl⟩
 f:=h.f
 d:=aS h.d (λb i=>n.b.a.b b (aU h.d i) (λe=>e (h.j (h.d.lt b i).1)))
 e:=aS h.e (λb i=>n.b.a.b b (aU h.e i) (λe=>e (h.j (h.e.lt b i).1)))
 g:=h.g
theorem fa.i(h:fa w V rb ow c rs s k q L p A l T TL)(b:B V.1.size V V'):fa w V' rb ow c rs s k q L p A l T TL:=
 h.m ⟨h.a.a.o b,cD.e b ow,rfl⟩
theorem fa.r(h:fa w V rb ow c rs s k q L p A l T TL)(j:B V.1.size V V'){m:Value}{g:List ByteArray}(o:V'.ownsRow V.1.size 9 1 m g.length (g.map cH)):fa w V' rb ow c rs s k q L p A l m g:=by have n:=h.i j;refine⟨n.a,h.f,n.d,sk o h.h,λb j e=>?_⟩;have u:=aU h.d j;have t:=(o.lt b e).1;omega
theorem fa.o{a:dG}{g cap:Nat}(h:fa w V rb ow c rs s k q L p A l T TL)(x:V'.ownsRow w.1.size 98 3 (M (O ⟨g,0,J⟩) (A.length+1) cap) (A.length+1) (gd A++[I Q (a.a:Int),I Q (a.b:Int),Z a.c]))(m:V.grownBy V' l.ownBlock)(v:l.ownBlock=O g\/V.1.size<=g):
  fa w V' rb ow c rs s k q L p (A++[a]) (M (O ⟨g,0,J⟩) (A.length+1) cap) T TL:=by
 have n:=m.size;have t:∀b,b<V.1.size->ow b≠0->V'.1[b]?=V.1[b]?:=λb i r=>m.block b i (λe=>r (h.j (h.d.lt b e.symm).1));refine⟨⟨h.a.a.u n t,⟨⟨m.os.trans h.a.b.a.f,m.tape.trans h.a.b.a.h,m.output.trans h.a.b.a.g,aP h.h n,λb i r=>?_⟩,λ_ h=>af h⟩,rfl⟩,h.f,?_,?_,?_⟩
 ·rw[m.block b (bg i h.h) (λe=>by have:=(h.d.lt b e.symm).1;omega)];exact h.a.b.a.b b i r
 ·rw[Ex,bU];exact x
 ·exact aS h.e (λb i=>m.block b (aU h.e i) (λe=>h.g b e.symm i))
 intro b i;simp[Value.ownBlock]at i;subst i;rcases v with h1|h1
 ·exact h.g _ h1
 intro e;have:=aU h.e e;omega
theorem KC(r:aq)(g:ByteArray)(e:Nat){b:Bool}(h:ek V rb ow c rs s k q L p)(j:dH c s)(E:g.size<=100000)(D:q<=8000000000000)(t:e<k)(G:k<=100)(i:r.h)(f:r.a.size<=9223372036854775807)(z:aG g (aC c s (e+1))=true)(u:b=oJ g (al (aC c s (e+1))) c.d c.c r e):
  Φ prog 54 #[Y (O ⟨p.a,0,J⟩),aL r,Z g,I Q (e:Int)] V λx n=>x=N (.bool b)/\j6 V n rb p.a ow c rs s k (q+30000) L p:=by
 obtain⟨F,A,C⟩:=h.l;refine(Kw r g (e:Int) (b:=b) A j.a.b E D om om f ?_).m ?_
 ·rw[sG,<-Cw j.a.h t,u,xR i];exact⟨λh=>⟨z,h⟩,λh=>h.2⟩
 rintro x n ⟨rfl,o,v⟩;obtain⟨y,w⟩:=Aq h C o v;exact⟨rfl,y,w,rfl⟩
theorem Mw(e:Nat)(h:ek V rb ow c rs s k q L p)(u:e<k):
  Φ prog 53 #[Y (O ⟨p.a,0,J⟩),I Q (e:Int)] V λx b=>∃v,x=N v/\b.ownsRow V.1.size 9 1 v (gJ (aC c s (e+1))).length ((gJ (aC c s (e+1))).map cH)/\B V.1.size V b:=by
 obtain⟨F,r,w⟩:=h.l;obtain⟨z,t,n⟩:=r.g;refine(EG e n).m ?_;rintro x b ⟨v,rfl,y,i,_,j,o⟩;rw[P2 c s om]at j;have f:=Ew i.d j;rw[<-f];exact⟨v,rfl,i.c,o⟩
def gm(q e j m:Nat):Nat:=q+2160000*e+360000*j+30000*m
theorem QH(q e j m:Nat):gm q e j m+30000=gm q e j (m+1):=by unfold gm;omega
theorem QG(q e j m:Nat)(h:m<=12):gm q e j m<=gm q e (j+1) 0:=by unfold gm;omega
theorem ST(q e j:Nat)(h:j<=6):gm q e j 0<=gm q (e+1) 0 0:=by unfold gm;omega
theorem RV(q e:Nat)(h:e<=100):gm q e 0 0<=q+300000000:=by unfold gm;omega
theorem RW(q e j m:Nat)(b:q<=6000000000000)(a:e<=100)(c:j<=6)(d:m<=12):gm q e j m<=8000000000000:=by unfold gm;omega
structure Hg (w V:Ω) (rb:Nat) (ow:Nat->Nat) (c:aE) (rs:List aq) (s:ay) (k q:Nat) (L:List ByteArray) (p:ib) (A:List dG) (l:Value):Prop where
 a:∃T TL,fa w V rb ow c rs s k q L p A l T TL
theorem Jv(h:ek w rb ow c rs s k q L p)(hf:dH c s)(hk:k<=100)(hR:rs.length<=6)(W:∀r,r∈rs->r.h)(hq:q<=6000000000000):
  Φ prog 32 #[Y (O ⟨rb,0,J⟩)] w λx w'=>∃v,x=N v/\w'.ownsRow w.1.size 98 3 v (bM c rs s k).length (gd (bM c rs s k))/\j6 w w' rb p.a ow c rs s k (q+300000000) L p:=by
 obtain⟨i0,hi,hz0,hz1,hz2⟩:=eb xS;have HF:=hid hf;have HROK:=hid W;have HS:H (fa w w rb ow c rs s k (gm q 0 0 0) L p [] (M J 0 0) (M J 0 0) []):=by rw[show gm q 0 0 0=q from rfl];exact⟨⟨h,cD.f _ _,rfl⟩,h.d,fH _ _ _ _,fH _ _ _ _,λb hb=>by cases hb⟩
 obtain⟨R,hRR⟩:∃R,R=rs.length:=⟨_,rfl⟩;have HRR:=hid hRR;have HEL:H (∀V A l T y P,fa w V rb ow c rs s k P L p A l T y->V.cell? ⟨rb,39,J⟩=O (Y (O ⟨p.a,0,J⟩))/\∃G ec,V.cell? ⟨p.a,2,J⟩=O (M G k ec)):=λV A l T y P h=>by refine⟨h.a.a.e om,?_⟩;obtain⟨F,D,h2⟩:=h.a.a.l;obtain⟨pp,cap,hv⟩:=D.g;have:=hv.a;rw[sG]at this;exact⟨pp,cap,this⟩
 obtain⟨rq,rc,hrv⟩:∃rq rc,p.e=M rq R rc:=by
  rw[hRR];rcases h.h.2 with ⟨D,h0⟩|⟨g,cap,cur,hv,_⟩
  ·exact⟨J,0,by rw[D,h0]⟩
  exact⟨_,_,hv⟩
 have HRU:H (∀V A l T y P,fa w V rb ow c rs s k P L p A l T y->V.cell? ⟨rb,22,J⟩=O (M rq R rc)/\∀j r,rs[j]?=O r->∃g,rq=O ⟨g,0,J⟩/\V.cell? ⟨g,j*6,J⟩=O (Z r.a)/\V.cell? ⟨g,j*6+1,J⟩=O (I Q r.e)/\V.cell? ⟨g,j*6+1+1,J⟩=O (I Q r.c)/\V.cell? ⟨g,j*6+1+1+1,J⟩=O (I Q r.g)/\V.cell? ⟨g,j*6+1+1+1+1,J⟩=O (I Q r.b)/\V.cell? ⟨g,j*6+1+1+1+1+1,J⟩=O (I Q r.d)):=λV A l T y P h=>by
  refine⟨by rw[<-hrv];exact h.a.a.e om,λj r hrj=>?_⟩;have z:=h.a.a.h
  have C:j<rs.length:=by
   rcases gQ j rs.length with h|h
   ·exact h
   rw[iV h]at hrj;cases hrj
  obtain⟨g,rc',S,hg1,hg2⟩:=z.form om;rw[S,]at z;have he:rq=O ⟨g,0,J⟩:=by rw[hrv]at S;simp at S;exact S.1
  have hcl:∀i u,i<6->(dV r)[i]?=O u->V.cell? ⟨g,j*6+i,J⟩=O u:=λi u hi hu=>by have:=z.cells (g:=g) rfl (j*6+i) u (by unfold cS;rw[qq dV 6 (λ_=>rfl) rs j i _ hrj hi];exact hu);rw[dD]at this;exact this
  exact⟨g,he,hcl 0 _ om rfl,hcl 1 _ om rfl,hcl 2 _ om rfl,hcl 3 _ om rfl,hcl 4 _ om rfl,hcl 5 _ om rfl⟩
 have hR6:R<=6:=om;clear h hf W hrv hR hRR;go_enter func32,ntmps32;go_wp2;go_loopw [3,4,5,6,7,8] (λl i _ _ _ _ V=>∃e:Nat,e<=k/\i=I Q (e:Int)/\Hg w V rb ow c rs s k (gm q e 0 0) L p (bM c rs s e) l) (λ_ i _ _ _ _ _=>k-(intOf i).toNat)
 case atStart=>exact⟨0,aX _,rfl,⟨_,_,HS.o⟩⟩
 case round=>
  obtain⟨e,he,rfl,E⟩:=hrel;obtain⟨T0,TL0,E⟩:=E.a;have HA:=hid E;obtain⟨c39,ep',ec',c2⟩:=HEL.o _ _ _ _ _ _ E;clear E HS;by_cases hlt:e<k
  case neg=>obtain rfl:e=k:=om;have hII:¬(e:Int)<e:=om;have HFI:H (wr.ownsRow w.1.size 98 3 u3 (bM c rs s e).length (gd (bM c rs s e))/\j6 w wr rb p.a ow c rs s e (q+300000000) L p):=⟨HA.o.d,HA.o.a.e (RV q e hk)⟩;go_wp2;go_ret;exact⟨_,rfl,HFI.o⟩
  case pos=>
   have hII:(e:Int)<k:=om;have HTG:=hid (Mw e HA.o.a.a hlt);obtain⟨y,hTL⟩:∃y,y=gJ (aC c s (e+1)):=⟨_,rfl⟩;rw[<-hTL]at HTG;have HTL:=hid hTL;obtain⟨t,hN⟩:∃t,t=y.length:=⟨_,rfl⟩;have HN:=hid hN;have hN12:t<=12:=(by rw[hN,hTL];exact aP (Ah c s (e+1)) HF.o.b);obtain⟨G,hep⟩:∃G,G=al (aC c s (e+1)):=⟨_,rfl⟩;have HEP:=hid hep;clear hTL hep hN;go_wp2_with fail;refine ac HTG.o ?_;rintro x w2 ⟨v,rfl,z,hb2⟩;have ha2:=HA.o.r hb2 z
   obtain⟨tq,tc,hv⟩:∃tq tc,v=M tq t tc:=by
    rw[HN.o];rcases z.2 with ⟨D,h0⟩|⟨g,cap,cur,hv,_⟩
    ·exact⟨J,0,by rw[D,h0]⟩
    exact⟨_,_,hv⟩
   subst hv;have HA2:=hid ha2
   have HTC:H (∀V A l P,fa w V rb ow c rs s k P L p A l (M tq t tc) y->∀m g,y[m]?=O g->∃X,tq=O ⟨X,0,J⟩/\V.cell? ⟨X,m,J⟩=O (Z g)):=λV A l P h m g hm=>by
    have hm':m<y.length:=by
     rcases gQ m y.length with h|h
     ·exact h
     rw[iV h]at hm;cases hm
    have z:=h.e;obtain⟨X,tc',S,_,_⟩:=z.form om;rw[S]at z;have he:tq=O ⟨X,0,J⟩:=(by simp at S;exact S.1);refine⟨X,he,?_⟩;have:=z.cells (g:=X) rfl m (cH g) (by rw[eE,hm];rfl);rw[dD]at this;exact this
   go_wp2;go_loopw [3,6,7,8] (λl i _ _ V=>∃j:Nat,j<=R/\i=I Q (j:Int)/\fa w V rb ow c rs s k (gm q e j 0) L p (bM c rs s e++gN c.d c.c G y e (rs.take j)) l (M tq t tc) y) (λ_ i _ _ _=>R-(intOf i).toNat)
   case atStart=>exact⟨0,aX _,rfl,by simpa [gN,jS] using HA2.o⟩
   case round=>
    obtain⟨j,hj,rfl,E⟩:=hrel;have HA3:=hid E;obtain⟨c22,hru⟩:=HRU.o _ _ _ _ _ _ E;by_cases hjl:j<R
    case neg=>
     have hJI:¬(j:Int)<R:=om;have HNX:H (Hg w wr rb ow c rs s k (gm q (e+1) 0 0) L p (bM c rs s (e+1)) u3):=(by have D:=HA3.o;rw[show j=R by omega]at D;have e2:bM c rs s e++gN c.d c.c G y e (rs.take R)=bM c rs s (e+1):=(by rw[HRR.o,eL,HEP.o,HTL.o];exact(tI c rs s e).symm);rw[e2]at D;exact⟨_,_,D.n (ST q e R hR6)⟩);go_wp2;go_roundw
     case rel=>exact⟨e+1,om,by go_num,HNX.o⟩
     simp[intOf];omega
    case pos=>
     have hJI:(j:Int)<R:=om;have C:j<rs.length:=(by rw[<-HRR.o];exact hjl);have hrj:=bc C;have W:=HROK.o _ (eG C);have HTK:=hid (iA C);generalize rs[j]=r at *;have HRJ:=hid hrj;obtain⟨K,rfl,_⟩:=hru j r hrj;have HRC:H (∀V A l T y P,fa w V rb ow c rs s k P L p A l T y->V.cell? ⟨rb,22,J⟩=O (M (O ⟨K,0,J⟩) R rc)/\V.cell? ⟨K,j*6,J⟩=O (Z r.a)/\V.cell? ⟨K,j*6+1,J⟩=O (I Q r.e)/\V.cell? ⟨K,j*6+1+1,J⟩=O (I Q r.c)/\V.cell? ⟨K,j*6+1+1+1,J⟩=O (I Q r.g)/\V.cell? ⟨K,j*6+1+1+1+1,J⟩=O (I Q r.b)/\V.cell? ⟨K,j*6+1+1+1+1+1,J⟩=O (I Q r.d)):=λV A l T y P h=>(by obtain⟨D,h2⟩:=HRU.o _ _ _ _ _ _ h;obtain⟨g',hg',h3⟩:=h2 j r HRJ.o;simp at hg';rw[<-hg']at h3;exact⟨D,h3⟩);have HTA:H (gN c.d c.c G y e (rs.take (j+1))=gN c.d c.c G y e (rs.take j)++ei c.d c.c G y e r j):=(by show _=_;rw[HTK.o,Ev,fj,Nat.min_eq_left om]);obtain⟨AJ,hAJ⟩:∃AJ,AJ=bM c rs s e++gN c.d c.c G y e (rs.take j):=⟨_,rfl⟩;have HAJ:=hid hAJ;rw[<-hAJ]at HA3;have hAJl:AJ.length<=8000:=(by rw[hAJ,bU];have D:=ze c rs s e 12 HF.o.b;have h2:=wH c.d c.c G y e (rs.take j) 0;rw[fj]at h2;have h3:(min j rs.length)*y.length<=6*12:=pT om (by rw[<-HN.o];exact hN12);have h4:e*(rs.length*12)<=100*(6*12):=pT om (pT (by rw[<-HRR.o];exact hR6) nl);unfold gN;omega);have hnm:r.a.size<=9223372036854775807:=(by have D:=W.1;unfold aq.l kt at D;have:r.a.1.toList.length=r.a.size:=(by simp);omega);have HOK:=hid W;have HNM:=hid hnm;go_wp2;go_loopw [3,7,8] (λl i _ V=>∃m:Nat,m<=t/\i=I Q (m:Int)/\fa w V rb ow c rs s k (gm q e j m) L p (AJ++ei c.d c.c G (y.take m) e r j) l (M tq t tc) y) (λ_ i _ _=>t-(intOf i).toNat)
     case atStart=>exact⟨0,aX _,rfl,by simpa [ei] using HA3.o⟩
     case round=>
      obtain⟨m,hm,rfl,E⟩:=hrel;have HA4:=hid E;clear E HA3 c22;by_cases hml:m<t
      case neg=>
       have hMI:¬(m:Int)<t:=om;have HNX:H (fa w wr rb ow c rs s k (gm q e (j+1) 0) L p (bM c rs s e++gN c.d c.c G y e (rs.take (j+1))) u3 (M tq t tc) y):=(by have D:=HA4.o;rw[show m=y.length by rw[<-HN.o];omega,eL,HAJ.o,lY,<-HTA.o]at D;exact D.n (QG q e j _ (by rw[<-HN.o];exact hN12)));go_wp2;go_roundw
       case rel=>exact⟨j+1,om,by go_num,HNX.o⟩
       simp[intOf];omega
      case pos=>
       have hMI:(m:Int)<t:=om;have hm':m<y.length:=(by rw[<-HN.o];exact hml);have hmj:=bc hm';have HTKm:=hid (iA hm');have hmem:y[m]∈gJ (aC c s (e+1)):=(by rw[<-HTL.o];exact eG hm');generalize y[m]=gg at *;obtain⟨X,rfl,_⟩:=HTC.o _ _ _ _ HA4.o m gg hmj;have HTT:H (∀V A l P,fa w V rb ow c rs s k P L p A l (M (O ⟨X,0,J⟩) t tc) y->V.cell? ⟨X,m,J⟩=O (Z gg)):=λV A l P h=>(by obtain⟨tg',D,h2⟩:=HTC.o V A l P h m gg hmj;simp at D;rw[<-D]at h2;exact h2);have hg8:gg.size<=100000:=(by have D:=xx hmem;rw[xQ]at D;obtain⟨x,hx,hxg⟩:=D;have h2:=mf.1 (HF.o.d x hx).1;rw[<-hxg,h2.a];decide);obtain⟨b,hbb⟩:∃b,b=oJ gg G c.d c.c r e:=⟨_,rfl⟩;have HAR:H (ei c.d c.c G (y.take (m+1)) e r j=ei c.d c.c G (y.take m) e r j++(if b=true then [⟨j,e,gg⟩] else [])):=(by show _=_;rw[HTKm.o,Eu,hbb]);have HHO:H (∀dd,Φ prog 54 #[Y (O ⟨p.a,0,J⟩),.agg #[Z r.a,I Q r.e,I Q r.c,I Q r.g,I Q r.b,I Q r.d],Z gg,I Q (e:Int)] (wr.drewN dd) λx w'=>x=N (.bool b)/\fa w w' rb ow c rs s k (gm q e j (m+1)) L p (AJ++ei c.d c.c G (y.take m) e r j) u3 (M (O ⟨X,0,J⟩) t tc) y):=λdd=>(by have hbd:B wr.1.size wr (wr.drewN dd):=kT (aj _ wr) dd;have D:=HA4.o.i hbd;have h2:=KC r gg e (b:=b) D.a.a HF.o hg8 (RW q e j m hq om om om) hlt hk HOK.o HNM.o (si.1 hmem) (by rw[hbb,HEP.o]);refine h2.m ?_;rintro x w' ⟨rfl,ha⟩;rw[QH]at ha;exact⟨rfl,D.m ha⟩);have HCS:H (∀V A l P,fa w V rb ow c rs s k P L p A l (M (O ⟨X,0,J⟩) t tc) y->V.cell? ⟨rb,39,J⟩=O (Y (O ⟨p.a,0,J⟩))/\V.cell? ⟨rb,22,J⟩=O (M (O ⟨K,0,J⟩) R rc)/\V.cell? ⟨K,j*6,J⟩=O (Z r.a)/\V.cell? ⟨K,j*6+1,J⟩=O (I Q r.e)/\V.cell? ⟨K,j*6+1+1,J⟩=O (I Q r.c)/\V.cell? ⟨K,j*6+1+1+1,J⟩=O (I Q r.g)/\V.cell? ⟨K,j*6+1+1+1+1,J⟩=O (I Q r.b)/\V.cell? ⟨K,j*6+1+1+1+1+1,J⟩=O (I Q r.d)/\V.cell? ⟨X,m,J⟩=O (Z gg)):=λV A l P h=>(by obtain⟨D,h2,h3,h4,h5,h6,h7⟩:=HRC.o _ _ _ _ _ _ h;exact⟨(HEL.o _ _ _ _ _ _ h).1,D,h2,h3,h4,h5,h6,h7,HTT.o _ _ _ _ h⟩);obtain⟨s0,s1,s2,s3,s4,s5,s6,s7,s8⟩:=HCS.o _ _ _ _ HA4.o;clear hbb hmj hm' hmem;go_upto_region 12 with fail;go_region_held3 (λU=>U.cell? ⟨rb,39,J⟩=O (Y (O ⟨p.a,0,J⟩))/\U.cell? ⟨rb,22,J⟩=O (M (O ⟨K,0,J⟩) R rc)/\U.cell? ⟨K,j*6,J⟩=O (Z r.a)/\U.cell? ⟨K,j*6+1,J⟩=O (I Q r.e)/\U.cell? ⟨K,j*6+1+1,J⟩=O (I Q r.c)/\U.cell? ⟨K,j*6+1+1+1,J⟩=O (I Q r.g)/\U.cell? ⟨K,j*6+1+1+1+1,J⟩=O (I Q r.b)/\U.cell? ⟨K,j*6+1+1+1+1+1,J⟩=O (I Q r.d)/\U.cell? ⟨X,m,J⟩=O (Z gg)) (first|exact HCS.o _ _ _ _ ‹_›|go_keep) (first|(go_at_call 54;refine(HHO.o 1).m ?_;rintro x w5 ⟨rfl,ha5⟩;have HA5:H (fa w w5 rb ow c rs s k (gm q e j (m+1)) L p (AJ++ei c.d c.c G (y.take m) e r j) u3 (M (O ⟨X,0,J⟩) t tc) y):=ha5;obtain⟨t0,t1,t2,t3,t4,t5,t6,t7,t8⟩:=HCS.o _ _ _ _ ha5;clear ha5))
       all_goals
        cases b with
       |false=>
         have HNX:H (fa w w5 rb ow c rs s k (gm q e j (m+1)) L p (AJ++ei c.d c.c G (y.take (m+1)) e r j) u3 (M (O ⟨X,0,J⟩) t tc) y):=(by show fa _ _ _ _ _ _ _ _ _ _ _ _ _ _ _;rw[HAR.o];simpa using HA5.o);go_wp2;go_roundw
         case rel=>exact⟨m+1,om,by go_num,HNX.o⟩
         simp[intOf];omega
       |true=>
         obtain⟨AM,hAM⟩:∃AM,AM=AJ++ei c.d c.c G (y.take m) e r j:=⟨_,rfl⟩;have HAM:H (AJ++ei c.d c.c G (y.take (m+1)) e r j=AM++[⟨j,e,gg⟩]):=(by show _=_;rw[HAR.o,hAM,ak rfl,lY]);have hAMl:AM.length<=100000:=(by have D:=AH c.d c.c G (y.take m) e r j;rw[fj]at D;rw[hAM,bU];omega);rw[<-hAM]at HA5;have hbU:B w5.1.size w5 (w5.alloc (Δ #[I Q (j:Int),I Q (e:Int),Z gg] 98)):=ba;have HU:=hid (HA5.o.i hbU);have HUS:H ((w5.alloc (Δ #[I Q (j:Int),I Q (e:Int),Z gg] 98)).1.size=w5.1.size+1):=by show _=_;simp
         have HNEW:H (∀j' u,([I Q (j:Int),I Q (e:Int),Z gg]:List Value)[j']?=O u->(w5.alloc (Δ #[I Q (j:Int),I Q (e:Int),Z gg] 98)).cell? ((⟨w5.1.size,0,J⟩:Addr).add j')=O u):=by
          intro j' u C;rw[dD]
          match j',C with
         |0,C=>simp at C;subst C;simp
         |1,C=>simp at C;subst C;simp
         |2,C=>simp at C;subst C;simp
         have HONE:H (∀u∈([I Q (j:Int),I Q (e:Int),Z gg]:List Value),u.oneCell'=true):=λu hu=>by simp at hu;rcases hu with rfl|rfl|rfl<;>rfl
         have HML:H (AM.length+1<=maxLen):=(by show _<=_;unfold maxLen;omega);have HBY:H ((AM.length+1)*32<=140737488355328):=(by show _<=_;omega);have HBS:=hid HU.o.h;have HROW:=hid HU.o.d;clear hAM hbU;go_wp2_with (at_builtin;refine iB _ rfl _ _ 91 rfl w.1.size 98 i0 (.agg #[I Q 0,I Q 0,Z ⟨#[]⟩]) 3 32 underlying91 hi hz0 hz1 hz2 rfl dc _ _ _ rfl HROW.o ⟨w5.1.size,0,J⟩ 1 1 [I Q (j:Int),I Q (e:Int),Z gg] rfl rfl HNEW.o HONE.o om HML.o HBY.o HBS.o (w5.1.size+1) HUS.o ?_);intro g6 cap6 w6 hown6 a0 hat6 hlt6
         have hfin:=HU.o.o (a:=⟨j,e,gg⟩) hown6 a0 (by
          rcases hat6 with h|h
          ·exact af h
          ·exact ah (by rw[h,HUS.o];exact aa _))
         rw[<-HAM.o]at hfin;have HFIN:=hid hfin;clear hfin hown6 a0 hat6 hlt6 t8;go_wp2;go_roundw
         case rel=>exact⟨m+1,om,by go_num,HFIN.o⟩
         simp[intOf];omega
end
end
section
open Go.RowKit Go.Maps
def kI(c:aE):Array Value:=#[I Q (c.b:Int),I Q (c.e:Int),I Q (c.d:Int),I Q (c.c:Int),I Q (c.f:Int),I Q (c.g:Int),I Q (c.a 0 0),I Q (c.a 0 1),I Q (c.a 0 2),I Q (c.a 0 3),I Q (c.a 1 0),I Q (c.a 1 1),I Q (c.a 1 2),I Q (c.a 1 3),I Q (c.a 2 0),I Q (c.a 2 1),I Q (c.a 2 2),I Q (c.a 2 3),I Q (c.a 3 0),I Q (c.a 3 1),I Q (c.a 3 2),I Q (c.a 3 3),
 M J 0 0,Z ⟨#[]⟩,I Q 0,Z ⟨#[]⟩,I Q 0,Z ⟨#[]⟩,I Q 0,Z ⟨#[]⟩,I Q 0,I Q (-1),I Q (-1),I Q (-1),I Q (-1),I Q 0,I Q 0,I Q 0,M J 0 0,Y J,M J 0 0,I Q 0,I Q 0,I Q 0,I Q 0,I Q 0]
section
variable {w V V':Ω}{rb:Nat}{c:aE}{rs:List aq}
theorem OZ{q:Option Addr}{cap:Nat}(A:sT w q cap rs)(f:rs.length≠0):∃ad,q=O ad/\∀j u,(cS rs)[j]?=O u->w.cell? (ad.add j)=O u:=by
 obtain⟨b,o,rfl,r,y⟩:=A.a.a (λe=>f (by rw[e];rfl));refine⟨_,rfl,λj u g=>?_⟩
 have i:j<(cS rs).length:=by
  rcases gQ j (cS rs).length with h|h
  ·exact h
  rw[iV h]at g;cases g
 rw[vH]at i;have z:j/6<rs.length:=om;have d:=bc z;obtain⟨l,C,p,n,s,D⟩:=y (j/6) _ d;have k:j=(j/6)*6+j%6:=om;have c:(cS rs)[(j/6)*6+j%6]?=(dV rs[j/6])[j%6]?:=qq dV 6 (λ_=>rfl) rs (j/6) (j%6) _ d om;rw[<-k,g]at c
 have t:(⟨b,o,J⟩:Addr).add j=⟨b,o+(j/6)*6+j%6,J⟩:=by
  have x:o+j/6*6+j%6=o+j:=om;rw[x];unfold Addr.add;split
  ·rename_i h0;rw[h0];rfl
  rfl
 rw[t];have v:j%6<6:=Nat.mod_lt _ dc;generalize j%6=m at *
 match m,v with
 |0,_=>simp[dV]at c;rw[c];exact l
 |1,_=>simp[dV]at c;rw[c];exact C
 |2,_=>simp[dV]at c;rw[c];exact p
 |3,_=>simp[dV]at c;rw[c];exact n
 |4,_=>simp[dV]at c;rw[c];exact s
 |5,_=>simp[dV]at c;rw[c];exact D
theorem IX(c:aE)(rs:List aq)(q:Option Addr)(cap:Nat)(w:Ω)(hr:sT w q cap rs)(h6:rs.length<=6):
  Φ prog 18 #[.agg (bj (jt c)),M q rs.length cap] w λe w'=>∃rb ow,e=N (Y (O ⟨rb,0,J⟩))/\dF w' rb ow c rs ay.k 0 0/\(∀b,ow b≠0->w.1.size<=b)/\B w.1.size w w':=by
 obtain⟨i0,hi,hz0,hz1,hz2⟩:=eb xT;obtain⟨m,hm⟩:∃m,m=rs.length:=⟨_,rfl⟩;have HM:=hid hm;have HR:=hid hr;have HNIL:H (q=J->m=0/\cap=0):=λe=>by obtain⟨h1,h2⟩:=hr.d e;rw[hm,h1];exact⟨rfl,h2⟩
 have HLEN:H ((cS rs).length=m*6):=by show _=_;rw[vH,hm]
 have HONE:H (∀u∈cS rs,u.oneCell'=true):=Fq rs;have hm6:m<=6:=om;have HML:H (m<=maxLen):=by show _<=_;unfold maxLen;omega
 have HBY:H (m*56<=140737488355328):=by show _<=_;omega
 have HB0:H (∀o o',B w.1.size w ((w.alloc o).alloc o')):=λo o'=>((aj _ w).l nl o).l sm o';have R:H (∀o o',m≠0->∃ad,q=O ad/\∀j u,(cS rs)[j]?=O u->((w.alloc o).alloc o').cell? (ad.add j)=O u):=λo o' S=>OZ (hr.e (HB0.o o o')) (by rw[<-hm];exact S);have HNT:H (∀V:Ω,Φ prog 27 #[I Q (c.d:Int),I Q (c.c:Int)] V λe w'=>e=N (Y (O ⟨V.1.size+1,0,J⟩))/\w'.1.size=V.1.size+2/\aO w' (V.1.size+1) (λb=>V.1.size<=b/\b<V.1.size+2) c.d c.c 0 []/\B V.1.size V w'):=λV=>IM c.d c.c V;obtain⟨C,hC⟩:∃C,C=bj (jt c):=⟨_,rfl⟩;have HC:H (C=#[I Q (c.b:Int),I Q (c.e:Int),I Q (c.d:Int),I Q (c.c:Int),I Q (c.f:Int),I Q (c.g:Int),I Q (c.a 0 0),I Q (c.a 0 1),I Q (c.a 0 2),I Q (c.a 0 3),I Q (c.a 1 0),I Q (c.a 1 1),I Q (c.a 1 2),I Q (c.a 1 3),I Q (c.a 2 0),I Q (c.a 2 1),I Q (c.a 2 2),I Q (c.a 2 3),I Q (c.a 3 0),I Q (c.a 3 1),I Q (c.a 3 2),I Q (c.a 3 3)]):=hC;have HCC:H (C=bj (jt c)):=hC;have hi':(prog.info? 34).map (·.size)=O C.toList.length:=by rw[hC];kernel_rfl
 have hra:(w.alloc (Δ C 34)).rangeAt w.1.size 0 C.toList:=L8 (bn w _);rw[<-hm,<-hC];obtain⟨T,A⟩:∃T,T=(w.alloc (Δ #[I Q (c.b:Int),I Q (c.e:Int),I Q (c.d:Int),I Q (c.c:Int),I Q (c.f:Int),I Q (c.g:Int),I Q (c.a 0 0),I Q (c.a 0 1),I Q (c.a 0 2),I Q (c.a 0 3),I Q (c.a 1 0),I Q (c.a 1 1),I Q (c.a 1 2),I Q (c.a 1 3),I Q (c.a 2 0),I Q (c.a 2 1),I Q (c.a 2 2),I Q (c.a 2 3),I Q (c.a 3 0),I Q (c.a 3 1),I Q (c.a 3 2),I Q (c.a 3 3)] 34)).alloc (Δ #[I Q (c.b:Int),I Q (c.e:Int),I Q (c.d:Int),I Q (c.c:Int),I Q (c.f:Int),I Q (c.g:Int),I Q (c.a 0 0),I Q (c.a 0 1),I Q (c.a 0 2),I Q (c.a 0 3),I Q (c.a 1 0),I Q (c.a 1 1),I Q (c.a 1 2),I Q (c.a 1 3),I Q (c.a 2 0),I Q (c.a 2 1),I Q (c.a 2 2),I Q (c.a 2 3),I Q (c.a 3 0),I Q (c.a 3 1),I Q (c.a 3 2),I Q (c.a 3 3),  M J 0 0,Z ⟨#[]⟩,I Q 0,Z ⟨#[]⟩,I Q 0,Z ⟨#[]⟩,I Q 0,Z ⟨#[]⟩,I Q 0,I Q (-1),I Q (-1),I Q (-1),I Q (-1),I Q 0,I Q 0,I Q 0,M J 0 0,Y J,M J 0 0,I Q 0,I Q 0,I Q 0,I Q 0,I Q 0] 53):=⟨_,rfl⟩;have hn1:T.1[w.1.size+1]?=O (Δ (kI c) 53):=by rw[A];have:=bn (w.alloc (Δ #[I Q (c.b:Int),I Q (c.e:Int),I Q (c.d:Int),I Q (c.c:Int),I Q (c.f:Int),I Q (c.g:Int),I Q (c.a 0 0),I Q (c.a 0 1),I Q (c.a 0 2),I Q (c.a 0 3),I Q (c.a 1 0),I Q (c.a 1 1),I Q (c.a 1 2),I Q (c.a 1 3),I Q (c.a 2 0),I Q (c.a 2 1),I Q (c.a 2 2),I Q (c.a 2 3),I Q (c.a 3 0),I Q (c.a 3 1),I Q (c.a 3 2),I Q (c.a 3 3)] 34)) (Δ (kI c) 53);rw[fi]at this;exact this
 have hn0:T.1[w.1.size]?=O (Δ #[I Q (c.b:Int),I Q (c.e:Int),I Q (c.d:Int),I Q (c.c:Int),I Q (c.f:Int),I Q (c.g:Int),I Q (c.a 0 0),I Q (c.a 0 1),I Q (c.a 0 2),I Q (c.a 0 3),I Q (c.a 1 0),I Q (c.a 1 1),I Q (c.a 1 2),I Q (c.a 1 3),I Q (c.a 2 0),I Q (c.a 2 1),I Q (c.a 2 2),I Q (c.a 2 3),I Q (c.a 3 0),I Q (c.a 3 1),I Q (c.a 3 2),I Q (c.a 3 3)] 34):=by rw[A,cX _ _ _ sm];exact bn w _
 have a1:B w.1.size w T:=by rw[A];exact HB0.o _ _
 have X:T.1.size=w.1.size+2:=by rw[A];simp
 have HNW:H (m≠0->∃ad,q=O ad/\∀j u,(cS rs)[j]?=O u->T.cell? (ad.add j)=O u):=λh=>by rw[A];exact R.o _ _ h
 have HN1:=hid hn1;have HN0:=hid hn0;have W:=hid a1;have HS1:=hid X;clear hr h6 hm hC hn1 hn0 a1 X R HB0;go_enter func18,ntmps18;go_upto_region 2 with (refine wpList_load_mid rfl 34 (.tmp 2) rfl w.1.size 0 rfl C.toList _ hra underlying34 rfl hi' ?_;rw[HC.o])
 rw[<-A];clear A hra hi';have d22:T.cell? ⟨w.1.size+1,22,J⟩=O (M J 0 0):=by simp[World.cell?,HN1.o,kI]
 go_wp2_with (at_builtin;refine BM _ rfl _ _ 35 rfl 65 i0 (.agg #[Z ⟨#[]⟩,I Q 0,I Q 0,I Q 0,I Q 0,I Q 0]) 6 56 underlying35 hi hz0 hz1 hz2 rfl dc rfl q m cap (cS rs) rfl HNIL.o HLEN.o HNW.o HONE.o HML.o HBY.o ?_);intro rv G x U
 obtain⟨E,r,hrvf⟩:∃E r,rv=M E m r:=by
  rcases x.2 with ⟨h1,h0⟩|⟨g,cap,cur,hv,_⟩
  ·exact⟨J,0,by rw[h1,h0]⟩
  exact⟨_,_,hv⟩
 subst hrvf;have X:=HS1.o;have a0:G.1[w.1.size+1]?=O (Δ (kI c) 53):=(U.block _ om).trans HN1.o;have h20:G.1[w.1.size]?=T.1[w.1.size]?:=U.block _ om;have HR2:=hid a0;have H20:=hid h20;have a2:=hid x;have F:=hid U;have f22:G.frozen? ⟨w.1.size+1,22,J⟩=false:=by simp[World.frozen?,a0]
 have e22:G.cell? ⟨w.1.size+1,22,J⟩=O (M J 0 0):=by simp[World.cell?,a0,kI]
 obtain⟨s,v⟩:∃s,s=G.setCell ⟨w.1.size+1,22,J⟩ (M E m r):=⟨_,rfl⟩;have HW3:=hid v;clear a0 h20 x U X d22 v;go_upto_region 3 with fail;rw[<-HW3.o];have v:=HW3.o;have y:s.1[w.1.size+1]?=O (Δ ((kI c).setIfInBounds 22 (M E m r)) 53):=by rw[v];exact ph HR2.o 22 _
 have h30:∀b,b≠w.1.size+1->s.1[b]?=G.1[b]?:=λb n=>by rw[v];exact bN _ _ _ _ n
 have hs3:s.1.size=G.1.size:=by rw[v];simp[World.setCell]
 have hk3:s.os=G.os/\s.tape=G.tape/\s.output=G.output:=by rw[v];exact⟨rfl,rfl,rfl⟩
 have D:s.1[w.1.size]?=O (Δ #[I Q (c.b:Int),I Q (c.e:Int),I Q (c.d:Int),I Q (c.c:Int),I Q (c.f:Int),I Q (c.g:Int),I Q (c.a 0 0),I Q (c.a 0 1),I Q (c.a 0 2),I Q (c.a 0 3),I Q (c.a 1 0),I Q (c.a 1 1),I Q (c.a 1 2),I Q (c.a 1 3),I Q (c.a 2 0),I Q (c.a 2 1),I Q (c.a 2 2),I Q (c.a 2 3),I Q (c.a 3 0),I Q (c.a 3 1),I Q (c.a 3 2),I Q (c.a 3 3)] 34):=by rw[h30 _ om,H20.o];exact HN0.o
 have c0:s.cell? ⟨w.1.size,0,J⟩=O (I Q (c.b:Int)):=by simp[World.cell?,D]
 have c1:s.cell? ⟨w.1.size,1,J⟩=O (I Q (c.e:Int)):=by simp[World.cell?,D]
 have fz3:∀i,s.frozen? ⟨w.1.size+1,i,J⟩=false:=λi=>by simp[World.frozen?,y]
 have r35:s.cell? ⟨w.1.size+1,35,J⟩=O (I Q 0):=by simp[World.cell?,y,kI]
 have r36:s.cell? ⟨w.1.size+1,36,J⟩=O (I Q 0):=by simp[World.cell?,y,kI]
 have r37:s.cell? ⟨w.1.size+1,37,J⟩=O (I Q 0):=by simp[World.cell?,y,kI]
 have r38:s.cell? ⟨w.1.size+1,38,J⟩=O (M J 0 0):=by simp[World.cell?,y,kI]
 have HR3:H (s.1[w.1.size+1]?=O (Δ ((kI c).setIfInBounds 22 (M E m r)) 53)):=y;have H30:=hid h30;have HS3:=hid hs3;have HK3:=hid hk3;have HBX3:=hid D;obtain⟨p,t⟩:∃p,p=(((s.setCell ⟨w.1.size+1,35,J⟩ (I Q (c.b:Int))).setCell ⟨w.1.size+1,36,J⟩ (I Q (c.e:Int))).setCell ⟨w.1.size+1,37,J⟩ (I Q 0)).setCell ⟨w.1.size+1,38,J⟩ (M J 0 0):=⟨_,rfl⟩;have HW4:=hid t;clear v t y h30 hs3 hk3 D f22 e22;go_upto_region 4 with fail
 rw[<-HW4.o];have t:=HW4.o;have hr4:p.1[w.1.size+1]?=O (Δ (((((kI c).setIfInBounds 22 (M E m r)).setIfInBounds 35 (I Q (c.b:Int))).setIfInBounds 36 (I Q (c.e:Int))).setIfInBounds 37 (I Q 0) |>.setIfInBounds 38 (M J 0 0)) 53):=by rw[t];exact ph (ph (ph (ph HR3.o _ _) _ _) _ _) _ _
 have h40:∀b,b≠w.1.size+1->p.1[b]?=s.1[b]?:=λb n=>by rw[t,bN _ _ _ _ n,bN _ _ _ _ n,bN _ _ _ _ n,bN _ _ _ _ n]
 have hs4:p.1.size=s.1.size:=by rw[t];simp[World.setCell]
 have hk4:p.os=s.os/\p.tape=s.tape/\p.output=s.output:=by rw[t];exact⟨rfl,rfl,rfl⟩
 have P:p.1[w.1.size]?=O (Δ #[I Q (c.b:Int),I Q (c.e:Int),I Q (c.d:Int),I Q (c.c:Int),I Q (c.f:Int),I Q (c.g:Int),I Q (c.a 0 0),I Q (c.a 0 1),I Q (c.a 0 2),I Q (c.a 0 3),I Q (c.a 1 0),I Q (c.a 1 1),I Q (c.a 1 2),I Q (c.a 1 3),I Q (c.a 2 0),I Q (c.a 2 1),I Q (c.a 2 2),I Q (c.a 2 3),I Q (c.a 3 0),I Q (c.a 3 1),I Q (c.a 3 2),I Q (c.a 3 3)] 34):=by rw[h40 _ om];exact HBX3.o
 have c2:p.cell? ⟨w.1.size,2,J⟩=O (I Q (c.d:Int)):=by simp[World.cell?,P]
 have c3:p.cell? ⟨w.1.size,3,J⟩=O (I Q (c.c:Int)):=by simp[World.cell?,P]
 have HR4:H (p.1[w.1.size+1]?=O (Δ (((((kI c).setIfInBounds 22 (M E m r)).setIfInBounds 35 (I Q (c.b:Int))).setIfInBounds 36 (I Q (c.e:Int))).setIfInBounds 37 (I Q 0) |>.setIfInBounds 38 (M J 0 0)) 53)):=hr4;have H40:=hid h40;have HS4:=hid hs4;have HK4:H (p.os=s.os/\p.tape=s.tape/\p.output=s.output):=hk4;clear t hr4 h40 hs4 hk4 P c0 c1 fz3 r35 r36 r37 r38;go_wp2_with fail;refine(HNT.o _).m ?_;rintro e w5 ⟨rfl,hs5,hrf,L⟩;have hsz4:w.1.size+2<=p.1.size:=by have h1:=HS4.o;have h2:=HS3.o;have h3:=F.o.size;have h4:=HS1.o;omega
 have hr5:=(L.block _ om).trans HR4.o;have f39:w5.frozen? ⟨w.1.size+1,39,J⟩=false:=by simp[World.frozen?,hr5]
 have e39:∃z,w5.cell? ⟨w.1.size+1,39,J⟩=O z:=⟨Y J,by simp[World.cell?,hr5,kI]⟩;obtain⟨z39,e39⟩:=e39
 have HFI:H (dF (w5.setCell ⟨w.1.size+1,39,J⟩ (Y (O ⟨p.1.size+1,0,J⟩))) (w.1.size+1) (λb=>if b=w.1.size+1 then 1 else if (M E m r).ownBlock=O b then 2 else if p.1.size<=b/\b<p.1.size+2 then 5 else 0) c rs ay.k 0 0/\(∀b,(if b=w.1.size+1 then 1 else if (M E m r).ownBlock=O b then 2 else if p.1.size<=b/\b<p.1.size+2 then 5 else 0)≠0->w.1.size<=b)/\B w.1.size w (w5.setCell ⟨w.1.size+1,39,J⟩ (Y (O ⟨p.1.size+1,0,J⟩)))):=by
  have q1:=HS4.o;have q2:=HS3.o;have q3:=F.o.size;have q4:=HS1.o;have K:∀b,(M E m r).ownBlock=O b->T.1.size<=b/\b<G.1.size:=λb n=>a2.o.lt b n;have hmv:∀b,b<G.1.size->b≠w.1.size+1->(w5.setCell ⟨w.1.size+1,39,J⟩ (Y (O ⟨p.1.size+1,0,J⟩))).1[b]?=G.1[b]?:=λb n S=>by rw[bN _ _ _ _ S,L.block b om,H40.o b S,H30.o b S]
  have hsz:(w5.setCell ⟨w.1.size+1,39,J⟩ (Y (O ⟨p.1.size+1,0,J⟩))).1.size=p.1.size+2:=by simp[World.setCell,hs5]
  refine⟨⟨⟨(M E m r),M J 0 0,M J 0 0,p.1.size+1⟩,?_,by simp,λb n=>?_,?_,λb n=>?_,fH _ _ _ _,λb n=>by simp[Value.ownBlock]at n,fH _ _ _ _,λb n=>by simp[Value.ownBlock]at n,⟨λb=>p.1.size<=b/\b<p.1.size+2,?_,λb n=>?_⟩⟩,λb n=>?_,?_⟩
  ·rw[ph hr5];rfl
  ·rw[hsz];by_cases h1:b=w.1.size+1
   ·omega
   rw[ag h1]at n;by_cases h2:(M E m r).ownBlock=O b
   ·have:=K b h2;omega
   rw[ag h2]at n;by_cases h3:p.1.size<=b/\b<p.1.size+2
   ·omega
   rw[ag h3]at n;exact absurd rfl n
  ·rw[<-HM.o];exact sk (aS a2.o (λb n=>by have:=K b n;exact hmv b this.2 om)) (aX _)
  ·have:=K b n;rw[ag om,ak n]
  ·rw[show aC c ay.k 0=[] from rfl]
   exact hrf.d (by simp[World.setCell]) (λb n hF=>bN _ _ _ _ (by
    have h7:=hF;show b≠w.1.size+1;omega))
  ·rw[ag om,ag (λh=>by have:=K b h;omega),ak n]
  ·by_cases h1:b=w.1.size+1
   ·omega
   rw[ag h1]at n;by_cases h2:(M E m r).ownBlock=O b
   ·have:=K b h2;omega
   rw[ag h2]at n;by_cases h3:p.1.size<=b/\b<p.1.size+2
   ·omega
   rw[ag h3]at n;exact absurd rfl n
  refine⟨?_,?_,?_,by rw[hsz];omega,λb n=>?_⟩
  ·exact L.os.trans (HK4.o.1.trans (HK3.o.1.trans (F.o.os.trans W.o.os)))
  ·exact L.tape.trans (HK4.o.2.1.trans (HK3.o.2.1.trans (F.o.tape.trans W.o.tape)))
  ·exact L.output.trans (HK4.o.2.2.trans (HK3.o.2.2.trans (F.o.output.trans W.o.output)))
  rw[hmv b om om,F.o.block b om];exact W.o.block b n
 go_wp2;go_ret;exact⟨_,_,rfl,HFI.o⟩
end
end
section
open Go.RowKit Go.Maps
def d9(c:aE)(r:Int)(b:ByteArray)(s:ay):ay:=if (0<=r/\r<=3)/\b.size<=2000 then s.r c r.toNat b.1.toList else s
def ic(n:Int)(s:ay):ay:=if 0<=n/\(s.b:Int)+n<=1000 then s.h n.toNat else s
theorem RX(c:aE)(r:Int)(b:ByteArray)(s:ay):(d9 c r b s).b=s.b:=by
 unfold d9;split
 ·exact NH c _ s _
 rfl
theorem GQ(c:aE)(r:Int)(b:ByteArray)(s:ay):(d9 c r b s).c c=s.c c:=by unfold ay.c;rw[RX]
theorem Ar(b:ByteArray):b.1.toList.length=b.size:=by rw[Array.length_toList];rfl
theorem Bf(c:aE)(r:Int)(b:ByteArray)(s:ay):(d9 c r b s).d<=s.d+b.size:=by
 unfold d9;split
 ·rename_i h;refine aP (Ag c r.toNat s b.1.toList om) ?_;rw[Ar];exact aa _
 omega
theorem yR{c:aE}{r:Int}{b:ByteArray}{s:ay}(h:2000<b.size):d9 c r b s=s:=by unfold d9;rw[ag om]
theorem O0(s:ay)(n:Nat):(s.h n).d=s.d:=rfl
theorem RY(n:Int)(s:ay):(ic n s).d=s.d:=by
 unfold ic;split
 ·exact O0 s _
 rfl
section
variable {V V':Ω}{wb rb:Nat}{oa od oa' od':Nat->Nat}{c:aE}{rs:List aq}{s t:ay}{q:Nat}
def du(c:aE)(n:Int)(s:ay):Int×Nat:=if 0<=n/\(s.b:Int)+n<=1000 then (((s.h n.toNat).c c-s.c c:Nat),0) else (0,1)
def bS(r:Int)(b:ByteArray)(s:ay):Int×Nat:=if 0<=r/\r<=3 then (if b.size<=2000 then (((aW (s.f r.toNat++b.1.toList)).1.length:Nat),0) else (0,2)) else (0,1)
theorem SV(n:Int)(h:jy V wb oa c rs s)(t:dy V)(p:oa 1=0):
  Φ prog 73 #[Y (O ⟨wb,0,J⟩),I Q n] V λe g=>e=N (Ψ #[I Q (du c n s).1,bB (du c n s).2])/\∃oa',jy g wb oa' c rs (ic n s)/\cD V g oa oa':=by
 by_cases d:0<=n/\(s.b:Int)+n<=1000
 ·have k:ic n s=s.h n.toNat:=by unfold ic;rw[ak d]
  have l:du c n s=((((s.h n.toNat).c c-s.c c:Nat):Int),0):=by unfold du;rw[ak d]
  have i:n=(n.toNat:Int):=om;have o:=Qy n.toNat h.a t p rfl om;rw[<-i]at o;refine o.m ?_;rintro e g ⟨rfl,⟨j,q,r⟩⟩;rw[k,l];exact⟨rfl,j,⟨q⟩,r⟩
 have k:ic n s=s:=by unfold ic;rw[ag d]
 have l:du c n s=(0,1):=by unfold du;rw[ag d]
 rw[k,l];refine(OM n h.a d).m ?_;rintro e g ⟨rfl,rfl⟩;exact⟨rfl,oa,h,cD.f _ _⟩
theorem SU(n:Int)(h:dF V rb od c rs s (s.c c) q)(o:dH c s)(d:(ic n s).c c<=1000):
  Φ prog 29 #[Y (O ⟨rb,0,J⟩),I Q n] V λe g=>e=N (Ψ #[I Q (du c n s).1,I Q ((du c n s).2:Int)])/\∃od',dF g rb od' c rs (ic n s) ((ic n s).c c) q/\cD V g od od':=by
 by_cases a:0<=n/\(s.b:Int)+n<=1000
 ·have i:ic n s=s.h n.toNat:=by unfold ic;rw[ak a]
  have l:du c n s=((((s.h n.toNat).c c-s.c c:Nat):Int),0):=by unfold du;rw[ak a]
  have j:n=(n.toNat:Int):=om;rw[i]at d;have p:=OR n.toNat h o rfl om d;rw[<-j]at p;refine p.m ?_;rintro e g ⟨rfl,⟨k,d,r⟩⟩;rw[i,l];exact⟨rfl,k,d,r⟩
 have i:ic n s=s:=by unfold ic;rw[ag a]
 have l:du c n s=(0,1):=by unfold du;rw[ag a]
 rw[i,l];refine(OQ n h o.e a).m ?_;rintro e g ⟨rfl,rfl⟩;exact⟨rfl,od,h,cD.f _ _⟩
theorem GP(r:Int)(b:ByteArray)(h:jy V wb oa c rs s)(x:dy V)(q:oa 1=0)(t:b.size<=9223372036854775807)(w:b.size<=2000->s.d+b.size<=20000):
  Φ prog 103 #[Y (O ⟨wb,0,J⟩),I Q r,Z b] V λe i=>e=N (Ψ #[I Q (bS r b s).1,bB (bS r b s).2])/\∃oa',jy i wb oa' c rs (d9 c r b s)/\cD V i oa oa':=by
 by_cases j:0<=r/\r<=3
 ·by_cases g:b.size<=2000
  ·have n:d9 c r b s=s.r c r.toNat b.1.toList:=(by unfold d9;rw[ak ⟨j,g⟩]);have k:bS r b s=((((aW (s.f r.toNat++b.1.toList)).1.length:Nat):Int),0):=(by unfold bS;rw[ak j,ak g]);have o:r=(r.toNat:Int):=om;have p:=Qv r.toNat b h.a x q rfl om g (w g);rw[<-o]at p;refine p.m ?_;rintro e i ⟨rfl,⟨l,u,v⟩⟩;rw[k];refine⟨rfl,l,⟨?_⟩,v⟩;rw[GQ,n];exact u
  have k:bS r b s=(0,2):=(by unfold bS;rw[ak j,ag g]);rw[yR om,k];refine(Mo r b (by simp[iS];omega) om t).m ?_;rintro e i ⟨rfl,rfl⟩;exact⟨rfl,oa,h,cD.f _ _⟩
 have n:d9 c r b s=s:=by unfold d9;rw[ag (by intro h;exact j h.1)]
 have k:bS r b s=(0,1):=by unfold bS;rw[ag j]
 rw[n,k];refine(Iz r b (by simp[iS];omega)).m ?_;rintro e i ⟨rfl,rfl⟩;exact⟨rfl,oa,h,cD.f _ _⟩
theorem GO(r:Int)(b:ByteArray)(h:dF V rb od c rs s (s.c c) q)(v:dH c s)(x:b.size<=9223372036854775807)(u:b.size<=2000->s.d+b.size<=20000):
  Φ prog 31 #[Y (O ⟨rb,0,J⟩),I Q r,Z b] V λe j=>e=N (Ψ #[I Q (bS r b s).1,I Q ((bS r b s).2:Int)])/\∃od',dF j rb od' c rs (d9 c r b s) ((d9 c r b s).c c) q/\cD V j od od':=by
 by_cases g:0<=r/\r<=3
 ·by_cases i:b.size<=2000
  ·have o:d9 c r b s=s.r c r.toNat b.1.toList:=(by unfold d9;rw[ak ⟨g,i⟩]);have k:bS r b s=((((aW (s.f r.toNat++b.1.toList)).1.length:Nat):Int),0):=(by unfold bS;rw[ak g,ak i]);have a:r=(r.toNat:Int):=om;have l:=OF r.toNat b h v rfl om i (u i);rw[<-a]at l;refine l.m ?_;rintro e j ⟨rfl,⟨n,p,t⟩⟩;rw[k,GQ,o];exact⟨rfl,n,p,t⟩
  have k:bS r b s=(0,2):=(by unfold bS;rw[ak g,ag i]);have a:r=(r.toNat:Int):=om;rw[yR om,k];have l:=Ky (rb:=rb) (w:=V) r.toNat b om om x;rw[<-a]at l;refine l.m ?_;rintro e j ⟨rfl,rfl⟩;exact⟨rfl,od,h,cD.f _ _⟩
 have o:d9 c r b s=s:=by unfold d9;rw[ag (by intro h;exact g h.1)]
 have k:bS r b s=(0,1):=by unfold bS;rw[ag g]
 rw[o,k];refine(Im r b g).m ?_;rintro e j ⟨rfl,rfl⟩;exact⟨rfl,od,h,cD.f _ _⟩
end
end
section
open Go.RowKit Go.Maps
structure cQ (w:Ω) (F:Nat->Prop):Prop where
 a:aT w
 d:cN w
 f:∀b,w.1.size<=b->F b
 e:∀b,F b->11<=b
section
variable {w w' V:Ω}{sb wb:Nat}{F:Nat->Prop}{S:bY}{W:fP}{rv:Value}{oa oa':Nat->Nat}
theorem cQ.c(h:cQ w F)(g:B w.1.size w w'):cQ w' F:=⟨h.a.a g,p8 h.d g,λb i=>h.f b (aP g.size i),h.e⟩
structure eu (w:Ω) (sb:Nat) (F:Nat->Prop) (S:bY) (W:fP) (rv:Value) (wb:Nat) (oa:Nat->Nat):Prop where
 c:mD w sb F S rv (Y (O ⟨wb,0,J⟩))
 l:S.c=O W
 d:jy w wb oa W.b W.d W.a
 g:∀b,oa b≠0->F b/\b≠sb/\rv.ownBlock≠O b
 h:∃t,S.a=W.d++t
theorem fU.c(h:fU w sb F S)(d:S.c=O W):∃a wb oa,eu w sb F S W a wb oa:=by
 obtain⟨a,e,h⟩:=h.b;rcases h.j with ⟨h1,_⟩|⟨W',wb,oa,h1,h2,h3,h4,h5⟩
 ·rw[d]at h1;cases h1
 rw[d]at h1;cases h1;rw[h2]at h;exact⟨a,wb,oa,h,d,h3,h4,h5⟩
theorem eu.a(h:eu w sb F S W rv wb oa)(f:B w.1.size w w'):eu w' sb F S W rv wb oa:=⟨h.c.e f,h.l,h.d.b f,h.g,h.h⟩
theorem eu.m(h:eu w sb F S W rv wb oa):fU w sb F S:=⟨rv,_,h.c⟩
theorem eu.e(h:eu w sb F S W rv wb oa):w.cell? ⟨sb,23,J⟩=O (Y (O ⟨wb,0,J⟩)):=(ck h.c.a).1 23 _ rfl
theorem eu.k(h:eu w sb F S W rv wb oa)(a:cQ w F):oa 1=0:=by
 by_cases e:oa 1=0
 ·exact e
 have:=a.e 1 (h.g 1 e).1;omega
theorem eu.n(h:eu w sb F S W rv wb oa)(u:∀b,w.1.size<=b->F b){s:ay}(p:jy V wb oa' W.b W.d s)(l:cD w V oa oa'):
  eu V sb F { S with c:=O ⟨W.b,W.d,s⟩ } ⟨W.b,W.d,s⟩ rv wb oa'/\ax F w V:=by
 have m:∀b,b<w.1.size->oa b=0->V.1[b]?=w.1[b]?:=λb j r=>l.a.b b j (λe=>e r)
 have q:∀b,(b=sb\/rv.ownBlock=O b)->oa b=0:=λb j=>by
  by_cases e:oa b=0
  ·exact e
  obtain⟨_,o,t⟩:=h.g b e;rcases j with j|j
  ·exact absurd j o
  exact absurd j t
 have k:∀b,oa' b≠0->F b/\b≠sb/\rv.ownBlock≠O b:=λb j=>by
  rcases l.g b j with h1|h1
  ·exact h.g b h1
  have o:=h.c.h;exact⟨u b h1,om,λe=>by have:=aU h.c.c e;omega⟩
 refine⟨⟨⟨?_,h.c.f,aS h.c.c (λb j=>m b (aU h.c.c j) (q b (ah j))),h.c.d,h.c.g,h.c.i,ah ⟨_,wb,oa',rfl,rfl,p,k,h.h⟩⟩,rfl,p,k,h.h⟩,?_⟩
 ·exact(m sb h.c.h (q sb (af rfl))).trans h.c.a
 exact l.a.e (λb _ j=>(h.g b j).1)
end
end
end Go.Proofs.YtlaodjjfmhipnaaGreatDoor
