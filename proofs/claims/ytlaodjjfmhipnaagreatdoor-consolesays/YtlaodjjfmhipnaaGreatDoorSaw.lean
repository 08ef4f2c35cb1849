/-
  Part of it.
-/
import Derived.Test.YtlaodjjfmhipnaaGreatDoorSav
set_option maxRecDepth 100000
set_option maxHeartbeats 8000000
set_option linter.all false
namespace Go.Proofs.YtlaodjjfmhipnaaGreatDoor
open Go.Proofs.Tryz
open Value renaming int→I,string→Z,pointer→Y,slice→M,tuple→Ψ
open Ending renaming returned→N
open Obj renaming cells→Δ
open Go renaming World→Ω,Calls→Φ
open IntKind renaming i64→Q
open Option renaming some→O,none→J
open RowKit renaming Below→B,Hid→H
section
open Go.RowKit Go.Maps Go.Shelf
structure we (w1 U:Ω) (NB:Nat) (names:List ByteArray) (v:Value):Prop where
 a:U.1[NB]?=O (Δ #[v] 22)
 c:U.ownsRow w1.1.size 9 1 v names.length (names.map cH)
 d:ax (λb=>b=NB) w1 U
structure BB (w1 U:Ω) (NB:Nat) (names:List ByteArray):Prop where
 a:∃v,we w1 U NB names v
theorem we.e{i U U':Ω}{j:Nat}{g:List ByteArray}{v:Value}(h:we i U j g v)(o:ax (λb=>b=j) i U')(m:∀(k:Nat)(c:Array Value)(t:TypeId)(f:Nat×Nat),U.1[k]?=O (Δ c t f)->U'.1[k]?=U.1[k]?):we i U' j g v where
 a:=(m _ _ _ _ h.a).trans h.a
 c:=aS h.c (λb l=>by obtain⟨c,n⟩:=lK h.c l;exact m _ _ _ _ n)
 d:=o
theorem BB.b{n:Ω}{u:Nat}{A:ByteArray->Prop}:OwnFrom n.1.size (λ(m:List { x:ByteArray // A x }) U=>BB n U u (m.map (·.1))):=λs U C l r g p=>by
 obtain⟨v,h⟩:=r.a;refine⟨v,h.e (h.d.d (G:=λb=>l=O b) ⟨g.os,g.tape,g.output,g.size,λk j w=>g.block k j (λe=>w e.symm)⟩ (λi z e=>?_)) (λk c t f j=>g.block k (bP.1 j).1 (λe=>?_))⟩
 ·have:=(p i e).1;omega
 obtain⟨_,o,q,y⟩:=p k e.symm;rw[j]at q;cases q;cases y
structure BK (e:Ending) (w w':Ω) (L:List ByteArray):Prop where
 b:∃v,e=N v/\w'.ownsRow w.1.size 9 1 v L.length (L.map cH)
 a:B w.1.size w w'
section
variable {w:Ω}{wb:Nat}
attribute [local go_sem] Oper.semAt_some
theorem Qx{E:List (List ai)}{tb W need n r:Nat}{who:Nat->Nat×ByteArray×Nat}(hlt:wb<w.1.size)(c30:w.cell? ⟨wb,30,J⟩=O (Y (O ⟨tb,0,J⟩)))(ht:cd w tb who W need n r (al E))(hr9:r<=80000):
  Φ prog 150 #[Y (O ⟨wb,0,J⟩)] w λe w'=>BK e w w' (gJ E):=by
 obtain⟨i9,hi9,hz9,hs9,hb9⟩:=eb Bt;obtain⟨V0,hV0⟩:∃V0,V0=w.alloc (Δ #[M J 0 0] 22):=⟨_,rfl⟩;have hb0:B w.1.size w V0:=by rw[hV0];exact(aj _ w).l nl _
 have hs0:V0.1.size=w.1.size+1:=by rw[hV0];simp
 have q5:V0.1[w.1.size]?=O (Δ #[M J 0 0] 22):=by rw[hV0];exact bn w _
 have kx:∀o:Obj,(w.alloc o).cell? ⟨wb,30,J⟩=O (Y (O ⟨tb,0,J⟩)):=λo=>by rw[((aj w.1.size w).l nl o).cell hlt];exact c30
 have HTG:=hid (EL (ht.a hb0) hr9);have HQ:=hid q5;have HB0:H (B w.1.size w V0/\V0.1.size=w.1.size+1):=⟨hb0,hs0⟩;have hV0':=hV0;refine(callsIn_wide (n:=3)).1 ?_;refine callsIn_of_wp_marks func150 rfl aN ?_ rfl;refine wpIn_wide.2 ?_;simp only[ntmps150,List.size_toArray,eF,mH,Nat.reduceAdd,Nat.reduceSub,Array.replicate_succ,Array.replicate_zero,List.push_toArray,List.append_toArray,j9,ni];go_wp2_with fail;rw[<-hV0'];refine ac HTG.o ?_;rintro e' w1 ⟨rfl,v,ss,hcv,s,hl9,hnd,hmem,hb1,hsz1⟩;obtain⟨xs,hxs⟩:=By (A:=λx=>∃e,bz x (al E e)=true) ss (λl hl=>(hmem ⟨l.toArray⟩).1 (by simpa using hl));have hxl:xs.length=ss.length:=by rw[<-hxs];simp
 obtain⟨pv,cv,hve,X⟩:=EM s;subst hve;obtain⟨TB,hTB⟩:∃TB,TB=V0.1.size:=⟨_,rfl⟩;rw[<-hTB]at hcv s hb1 hsz1⊢;have HTG1:H (sU w1 TB pv xs cv):=by refine⟨by rw[hxl];exact hcv,λj x hx=>?_⟩;obtain⟨g,hp,hc⟩:=X j x.1.1.toList (by rw[<-hxs,eE,hx];rfl);exact⟨g,hp,hc⟩
 have HOB:H (∀b,(b=TB\/(∃o,pv=O ⟨b,o,J⟩))->TB<=b/\b<w1.1.size):=λb f=>by
  rcases f with rfl|⟨o,hp⟩
  ·exact⟨aa _,hsz1⟩
  have T:=s;rw[hp]at T;have h1:=T.lt b (EN T);omega
 have HMEM:H (∀g:ByteArray,g∈xs.map (·.1)↔∃e,bz g (al E e)=true):=λg=>by
  rw[<-hmem g,<-hxs];constructor
  ·intro h;obtain⟨y,hy,rfl⟩:=iH.1 h;exact iH.2 ⟨y,hy,rfl⟩
  intro h;obtain⟨y,hy,hye⟩:=iH.1 h;exact iH.2 ⟨y,hy,pW hye⟩
 have HND:H ((xs.map (·.1)).Nodup):=by
  show List.Nodup _;have hn2:((xs.map (·.1)).map (λb:ByteArray=>b.1.toList)).Nodup:=by rw[List.map_map];rw[<-hxs]at hnd;exact hnd
  exact List.Pairwise.imp (λhab e=>hab (by rw[e])) (List.pairwise_map.1 hn2)
 have HB1:H (B V0.1.size V0 w1):=by rw[<-hTB];exact hb1
 obtain⟨p,hNB⟩:∃p,p=w.1.size:=⟨_,rfl⟩;have HNB:H (p=w.1.size/\TB=p+1):=⟨hNB,by rw[hTB,HB0.o.2,hNB]⟩;have hNTB:p<TB:=by have:=HNB.o.2;omega
 have HBX:H (w1.1[p]?=O (Δ #[M J 0 0] 22)):=by rw[hNB];exact(HB1.o.block _ (bP.1 HQ.o).1).trans HQ.o
 have HBW:=hid (HB0.o.1.t (HB1.o.m HB0.o.1.size));have hx9:xs.length<=80000:=om;clear s X hnd hmem hb1 hxs hcv hV0' HTG HQ hTB kx hl9 hxl;rw[<-hNB];clear hNB;go_wp2;refine(wpIn_wide (n:=3)).1 ?_
 refine wpIn_rangeFunc_ownF rfl om (gf:=239) (lb:=#[Y (O ⟨TB,0,J⟩)]) rfl aN (enters_of func239 kr rfl)
  (C6 (A:=λx=>∃e,bz x (al E e)=true) 2 om w1 TB pv cv xs (λb=>b=TB\/(∃o,pv=O ⟨b,o,J⟩)) (af rfl) (λb o h=>ah ⟨o,h⟩) hx9 (λb f=>(HOB.o b f).2) HTG1.o) Bu (GK (λb f=>(HOB.o b f).2)) br (λ_=>rfl)
  (λV U=>BB w1 U p (V.map (·.1))) (λ_ _ _=>False) ?hI (λ_ _ _ _ _ hs _ _=>hs) ?h0 ?a1 ?assign ?body ?done ?stop
 case hI=>exact BB.b
 case h0=>exact⟨M J 0 0,HBX.o,fH _ _ _ _,ax.j _ _⟩
 case assign=>intro l x U K hK;gi_wp2;exact hK
 case body=>
  rintro l V ⟨x,hx⟩ U hJ hlen;obtain⟨v,hI⟩:=hJ.a;have HI:=hid hI;have c1:U.cell? ⟨p,0,J⟩=O v:=by simp[World.cell?,hI.a]
  obtain⟨P,R⟩:∃P,P=V.map (·.1):=⟨_,rfl⟩;have HNM:=hid R;have s:∀o,(U.alloc o).ownsRow w1.1.size 9 1 v P.length (P.map cH):=λo=>by rw[R];exact aS hI.c (λb f=>cX _ _ _ (aU hI.c f))
  have hpl:P.length<=80000:=by rw[R,jp];omega
  have hUs:=hI.d.c;clear hJ hI R;gi_wp2_with (gi_at_builtin;refine wpListIn_append_own _ rfl _ _ 22 rfl w1.1.size 9 i9 (Z ⟨#[]⟩) 1 16 underlying22 hi9 hz9 hs9 hb9 rfl dc _ _ _ rfl (s _) ⟨U.1.size,0,J⟩ 1 1 [Z x] rfl rfl ?q1 ?q2 ?q3 ?q4 ?q5 ?_)
  case q1=>
   intro j u hj;rw[dD]
   match j,hj with
  |0,hj=>simp at hj;subst hj;simp
  case q2=>intro u hu;simp at hu;subst hu;rfl
  case q3=>unfold maxLen;omega
  case q4=>omega
  case q5=>simp;omega
  intro v' V5 hown5 F hnil5;obtain⟨g',C,rfl⟩:=ownsRow_succ hown5;have HO5:=hid hown5;have hNU:=(bP.1 HI.o.a).1;have hN1:=(bP.1 HBX.o).1;have z:∀b,v.ownBlock=O b->w1.1.size<=b/\b<U.1.size:=λb f=>HI.o.c.lt b f;have s5:=F.size;rw[fi]at s5;have k0:∀b,b<U.1.size->v.ownBlock≠O b->V5.1[b]?=U.1[b]?:=λb f hn=>(F.block b (by simp;omega) (λe=>hn e.symm)).trans (cX U _ _ f);have hNo:v.ownBlock≠O p:=λe=>by have:=(z p e).1;omega
  have h5:=(k0 p hNU hNo).trans HI.o.a;have c5:V5.cell? ⟨p,0,J⟩=O v:=by simp[World.cell?,h5]
  have f5:V5.frozen? ⟨p,0,J⟩=false:=by simp[World.frozen?,h5]
  have HPO:H (KeepsOthers U (V5.setCell ⟨p,0,J⟩ (M (O ⟨g',0,J⟩) (P.length+1) C))/\lr (λb=>b=TB\/(∃o,pv=O ⟨b,o,J⟩)) U (V5.setCell ⟨p,0,J⟩ (M (O ⟨g',0,J⟩) (P.length+1) C))/\BB w1 (V5.setCell ⟨p,0,J⟩ (M (O ⟨g',0,J⟩) (P.length+1) C)) p ((V++[(⟨x,hx⟩ : { x:ByteArray // ∃e,bz x (al E e)=true })]).map (·.1))):=by
   have k6:∀b,b≠p->(V5.setCell ⟨p,0,J⟩ (M (O ⟨g',0,J⟩) (P.length+1) C)).1[b]?=V5.1[b]?:=λb f=>bN _ _ _ _ f;have s6:(V5.setCell ⟨p,0,J⟩ (M (O ⟨g',0,J⟩) (P.length+1) C)).1.size=V5.1.size:=(by simp[World.setCell]);refine⟨⟨om,λb o f ho=>?_⟩,λb f=>?_,⟨M (O ⟨g',0,J⟩) (P.length+1) C,?_,?_,?_⟩⟩
   ·have hlt:=(bP.1 f).1
    rw[k6 b (λe=>by rw[e,HI.o.a]at f;cases f;cases ho),k0 b hlt (λe=>by
     obtain⟨c',S⟩:=lK HI.o.c e;rw[f]at S;cases S;cases ho)]
    exact f
   ·have hob:=HOB.o b f;rw[k6 b om,k0 b om (λe=>by have:=(z b e).1;omega)]
   ·simp[World.setCell,dU,h5]
   ·have hl2:((V++[(⟨x,hx⟩ : { x:ByteArray // ∃e,bz x (al E e)=true })]).map (·.1)).length=P.length+1:=(by rw[HNM.o];simp);have hm2:((V++[(⟨x,hx⟩ : { x:ByteArray // ∃e,bz x (al E e)=true })]).map (·.1)).map cH=P.map cH++[Z x]:=(by rw[HNM.o];simp[cH]);rw[hl2,hm2];exact aS HO5.o (λb f=>k6 b (λe=>by have:=(HO5.o.lt b f).1;omega))
   have a2:ax (λb=>b=p) w1 (U.alloc (Δ #[Z x] 9)):=HI.o.d.a (qe _ _ _);have a3:ax (λb=>b=p) w1 V5:=a2.d (G:=λb=>v.ownBlock=O b) (eV F (λk e=>e)) (λi hi e=>by have:=(z i e).1;omega);exact a3.a (ko _ _ _ rfl)
  gi_wp2;exact HPO.o
 case done=>
  rintro D ys U hD rfl hJ hK;obtain⟨v,hI⟩:=hJ.a;have c5:U.cell? ⟨p,0,J⟩=O v:=by simp[World.cell?,hI.a]
  obtain⟨P,R⟩:∃P:List ByteArray,P=ys.map (·.1):=⟨_,rfl⟩;rw[<-R]at hI;have HNM:=hid R;obtain⟨q,hss⟩:∃q:List (List UInt8),q=P.map (λb=>b.1.toList):=⟨_,rfl⟩;have HSS:=hid hss;have hle:P.length=q.length:=by rw[hss];simp
  have hme:P.map cH=q.map encStr:=by rw[hss,List.map_map];rfl
  have hl9:q.length<=100000:=by rw[hss,R];simp;omega
  have HSO:=hid (GJ v q U w1.1.size (by rw[<-hle,<-hme];exact hI.c) hl9);have HI:=hid hI;have HKD:=hid hK;go_wp2_with fail;refine ac HSO.o ?_;rintro e w2 ⟨rfl,ho2,hg2⟩;have z:∀b,v.ownBlock=O b->w1.1.size<=b/\b<U.1.size:=λb f=>HI.o.c.lt b f;have hN1:=(bP.1 HBX.o).1;have hbx2:=(hg2.block p (bP.1 HI.o.a).1 (λe=>by have:=(z p e.symm).1;omega)).trans HI.o.a;have d5:w2.cell? ⟨p,0,J⟩=O v:=by simp[World.cell?,hbx2]
  have hK2:w2.1[D]?=O (.deferred (O [])):=(hg2.block D (bP.1 HKD.o).1 (λe=>by
   obtain⟨c',S⟩:=lK HI.o.c e.symm;rw[HKD.o]at S;cases S)).trans HKD.o
  have HK2:=hid hK2
  have HFF:H (BK (N v) w (w2.putObj D (.deferred J)) (gJ E)):=by
   obtain⟨L,hL⟩:∃L:List ByteArray,L=(q.mergeSort leB).map (λl=>⟨l.toArray⟩):=⟨_,rfl⟩;have hls:q.Nodup:=(by rw[HSS.o,HNM.o];have h1:=HND.o;exact List.pairwise_map.2 (List.Pairwise.imp (λhab e=>hab (pW e)) h1));have hsn:=(tu q leB).nodup_iff.2 hls;have hsp:(q.mergeSort leB).Pairwise (λa b=>leB a b=true):=List.pairwise_mergeSort (λa b c h1 h2=>by simp[leB]at *;exact List.le_trans h1 h2) (λa b=>by simp[leB];exact List.le_total a b) q;have hLs:L.Pairwise (λa b=>a.toList<b.toList):=by rw[hL];refine List.pairwise_map.2 (List.Pairwise.imp₂ (λa b h1 h2=>?_) hsp hsn);rw[cY,cY];simp[leB]at h1;exact A4 (λh3=>h2 (List.le_antisymm h1 (List.le_of_lt h3))) (λe=>h2 e.symm)
   have hLm:∀g,g∈L↔aG g E=true:=λg=>by
    rw[zL,<-HMEM.o g,<-HNM.o,hL];constructor
    ·intro hg;obtain⟨l,h1,rfl⟩:=iH.1 hg;rw[List.mem_mergeSort,HSS.o]at h1;obtain⟨y,h2,rfl⟩:=iH.1 h1;exact h2
    intro hg;exact iH.2 ⟨g.1.toList,by rw[List.mem_mergeSort,HSS.o];exact iH.2 ⟨g,hg,rfl⟩,rfl⟩
   have hLe:=Ew hLs hLm;rw[<-hLe];have g1:w2.grownBy (w2.putObj D (.deferred J)) (O D):=grownBy_putObj' w2 D _;have hll:L.length=q.length:=(by rw[hL,jp,List.length_mergeSort]);have hlv:L.map cH=(q.mergeSort leB).map encStr:=(by rw[hL,List.map_map];rfl);have hkp:=(HI.o.d.d (G:=λb=>v.ownBlock=O b) (eV hg2 (λk e=>e)) (λi hi e=>by have:=(z i e).1;omega)).d (G:=λb=>b=D) (eV g1 (λk e=>by simpa using e.symm)) (λi hi e=>by have e:i=D:=e;omega);have hNw:=HNB.o.1;refine⟨⟨v,rfl,?_⟩,HBW.o.t (hkp.i HBW.o.size (λk hk e=>by have e:k=p:=e;omega))⟩;rw[hll,hlv]
   refine sk (aS ho2 (λb f=>g1.block b (aU ho2 f) (λe=>by
    obtain⟨c',S⟩:=lK ho2 f;have e:b=D:=(by simpa using e);rw[e,HK2.o]at S;cases S))) (by have:=HBW.o.size;omega)
  go_wp2;refine⟨by simp,.inl ⟨_,_,rfl,run_takeDeferred HK2.o,?_⟩⟩;refine⟨v,?_,HFF.o⟩;simp[results,f150,go_sem]
 rintro D c V U _ _ h _;exact h.elim
end
end
section
open Go.RowKit Go.Maps
structure BL (w w':Ω) (wb:Nat) (ow:Nat->Nat) (c:aE) (rs:List aq) (s:ay) (k:Nat):Prop where
 a:∃ow',dx w' wb ow' c rs s k/\fV w w' ow ow'
section
variable {w:Ω}{wb:Nat}{ow:Nat->Nat}{c:aE}{rs:List aq}{s:ay}{k:Nat}
theorem Be{p:fO}(h:dY w wb ow c rs s k p)(j:Nat){x:ai}(l:x∈bE (aR c.b s.a j)):dm x=true/\x.a.size=8/\0<aD x.a:=by rw[yZ]at l;have i:=(oW.1 l).1;obtain⟨m,n⟩:=h.z x i;have g:=mf.1 m;exact⟨km.2 ⟨⟨g.d,g.e⟩,g.f,g.h⟩,g.a,n⟩
theorem EP{p:fO}(h:dY w wb ow c rs s k p)(j:Nat){g:ByteArray}(d:∃e,bz g (al (aC c s j) e)=true):g.size=8/\0<aD g:=by
 obtain⟨e,b⟩:=d;obtain⟨x,a,rfl⟩:=re.1 b;rw[sy]at a;split at a
 ·exact(Be h e a).2
 simp at a
theorem OK(q:Option Addr)(cap:Nat)(h:dx w wb ow c rs s k)(hT:dy w)(h0:ow 1=0)(hkc:k<bD c.b c.e s.b)(hs:cZ w q (bE (aR c.b s.a k)))(hap:bE (aR c.b s.a k)≠[]->∀b o,q=O ⟨b,o,J⟩->ow b≠4):
  Φ prog 107 #[Y (O ⟨wb,0,J⟩),.agg #[I Q (k:Int),M q (bE (aR c.b s.a k)).length cap]] w λe K=>e=N (Ψ #[])/\BL w K wb ow c rs s (k+1):=by
 obtain⟨p,hp⟩:=h.a;have hall:=hp.i;unfold ay.d ay.m at hall;have hk9:=bg hkc (aP kU hp.h);obtain⟨who,htr,how⟩:=hp.δ;have hgl:(bE (aR c.b s.a k)).length<=20000:=by rw[lZ];have:=tM c.b s.a k;omega
 have hfl:(aC c s k).flatten.length<=20000:=by have:=Fo c s k;omega
 have hfl1:(aC c s (k+1)).flatten.length<=20000:=by have:=Fo c s (k+1);omega
 obtain⟨X,hX⟩:∃X,X=w.alloc (Δ #[I Q (k:Int),M q (bE (aR c.b s.a k)).length cap] 124):=⟨_,rfl⟩;have hbX:B w.1.size w X:=by rw[hX];exact ba
 have hbx:X.1[w.1.size]?=O (Δ #[I Q (k:Int),M q (bE (aR c.b s.a k)).length cap] 124):=by rw[hX];exact bn w _
 have hXs:w.1.size<X.1.size:=by rw[hX];simp
 have HBOX:=hid hbx;have HXW:=hid ((fh.π hp).θ hbX);have HWPX:=hid (fV.e hbX ow);have hoB:ow w.1.size=0:=by apply lX;intro hn;have:=hp.a _ hn;omega
 have HTELL:H (∀V:Ω,V.1=X.1->Φ prog 148 #[Y (O ⟨p.d,0,J⟩),M q (bE (aR c.b s.a k)).length cap] V λe K=>e=N .nilIface/\fh K wb (dA ow V K 4) c rs s (k+1) k (bM c rs s k) p/\fV V K ow (dA ow V K 4)):=λV U=>by
  have hbV:∀b:Nat,V.1[b]?=X.1[b]?:=λb=>by rw[U]
  have hsV:V.1.size=X.1.size:=by rw[U]
  have hWV:=HXW.o.μ om (λb _ _=>hbV b);have htV:cd V p.d who c.d c.c k (aC c s k).flatten.length (al (aC c s k)):=(htr.a hbX).b om (λb _ _=>hbV b);refine(Ae _ q cap htV hgl ((hs.e hbX).d om (λb _ _ _=>hbV b)) (λhne b o e hh=>hap hne b o e (how b hh)) (λx hx=>(Be hp k hx).1) (λx hx=>by have:=(Be hp k hx).2.1;omega) om om (by rw[sy];rw[ag om])).m ?_;rintro e K ⟨rfl,who',G,h2,h3⟩;obtain⟨h4,h5⟩:=fh.ρ hWV how G h2 h3 om;exact⟨rfl,h4,h5⟩
 have x1:X.cell? ⟨w.1.size,1,J⟩=O (M q (bE (aR c.b s.a k)).length cap):=by simp[World.cell?,hbx]
 have HS0:H (∀V:Ω,V.1=X.1->V.cell? ⟨wb,30,J⟩=O (Y (O ⟨p.d,0,J⟩))/\V.cell? ⟨w.1.size,1,J⟩=O (M q (bE (aR c.b s.a k)).length cap)):=λV U=>by
  have hbV:∀b:Nat,V.1[b]?=X.1[b]?:=λb=>by rw[U]
  exact⟨by rw[bW (hbV wb)];exact HXW.o.q 30 om,by rw[bW (hbV w.1.size)];simp[World.cell?,HBOX.o]⟩
 have HBK:H (∀(V K:Ω)(o1 o2:Nat->Nat),X.1.size<=V.1.size->V.1[w.1.size]?=X.1[w.1.size]?->o1 w.1.size=0->fV V K o1 o2->K.1[w.1.size]?=X.1[w.1.size]?/\o2 w.1.size=0):=λV K o1 o2 hsz hb ho hwp=>⟨(hwp.a.a.b _ om (λe=>e ho)).trans hb,sQ ho om hwp.a⟩;have HS1:H (∀V K:Ω,V.1=X.1->fh K wb (dA ow V K 4) c rs s (k+1) k (bM c rs s k) p->fV V K ow (dA ow V K 4)->K.cell? ⟨wb,30,J⟩=O (Y (O ⟨p.d,0,J⟩))/\K.cell? ⟨w.1.size,1,J⟩=O (M q (bE (aR c.b s.a k)).length cap)):=λV K U G h2=>by have hb:=(HBK.o V K _ _ (by rw[U];exact aa _) (by rw[U]) hoB h2).1;exact⟨G.q 30 om,by rw[bW hb];simp[World.cell?,HBOX.o]⟩
 have HT:H (dy w):=hT;have HP:H (dY w wb ow c rs s k p):=hp;obtain⟨n,hN⟩:∃n,n=(bE (aR c.b s.a k)).length:=⟨_,rfl⟩;have HN:H (n=(bE (aR c.b s.a k)).length):=hN;rw[<-hN]at HS0 HS1 HTELL HBOX hX⊢;clear h hp hT hs hap hbx hbX htr how hall hgl hN x1;go_enter func107,ntmps107;go_wp2_with fail;rw[<-hX];clear hX
 go_region_held3 (λV=>V.cell? ⟨wb,30,J⟩=O (Y (O ⟨p.d,0,J⟩))/\V.cell? ⟨w.1.size,1,J⟩=O (M q n cap))
  (first|exact HS0.o _ rfl|exact HS1.o X.drew _ rfl h2t h2p)
  (first|(go_at_call 148;go_split_ands;refine(HTELL.o X.drew rfl).m ?_;rintro e w2 ⟨rfl,h2t,h2p⟩))
 obtain⟨o2,ho2⟩:∃o2,o2=dA ow X.drew w2 4:=⟨_,rfl⟩;rw[<-ho2]at h2t h2p;have HW2:H (fh w2 wb o2 c rs s (k+1) k (bM c rs s k) p):=h2t;have h2w:fV w w2 ow o2:=(HWPX.o.d (fV.e (ma br) ow)).d h2p;have HWP2:H (fV w w2 ow o2):=h2w;have hB2:=HBK.o X.drew w2 ow o2 nl rfl hoB h2p;have HB2:H (w2.1[w.1.size]?=X.1[w.1.size]?/\o2 w.1.size=0):=hB2;have hs2:X.1.size<=w2.1.size:=h2p.a.a.c;have ht2:dy w2:=qt HT.o h0 h2w.a;have h02:o2 1=0:=sQ h0 (by have:=HT.o.a;omega) h2w.a;have m31:w2.cell? ⟨wb,31,J⟩=O (Y (O ⟨p.g,0,J⟩)):=h2t.q 31 om;obtain⟨who2,htr2,how2⟩:=h2t.t;obtain⟨F2,f2,hin2,hP2,hoF2⟩:=h2t.z;have hP2':jj aD (al (aC c s (k+1))) c.d c.c c.f c.g f2 k:=hP2.b (λe he=>by rw[sy,sy,ak he,ak om]);have hco:=HP.o.g;have HNX:H (Φ prog 149 #[Y (O ⟨p.g,0,J⟩)] w2 λe K=>e=N (.bool true)/\td w2 K p.g p.d F2 (al (aC c s (k+1))) c.d c.c c.f c.g k):=OI htr2 hin2 ht2 hP2' om hco.b hco.h om om (λg hg=>by have:=(EP HP.o (k+1) hg).1;omega) hco.f hco.i (by have:=hco.j;have:=hco.f;omega);have HOF2:=hid hoF2;go_wp2_with fail;refine ac HNX.o ?_;rintro e w3 ⟨rfl,hnp⟩;obtain⟨F3,f3,hin3,hP3,hk3,hn3⟩:=hnp.a;obtain⟨h3t,h3p⟩:=fh.ο HW2.o HOF2.o hin3 hP3 hk3 hn3;obtain⟨o3,ho3⟩:∃o3,o3=dA o2 w2 w3 5:=⟨_,rfl⟩;rw[<-ho3]at h3t h3p;have HW3:=hid h3t;have HWP3:=hid (HWP2.o.d h3p);have HB3:=hid (HBK.o w2 w3 o2 o3 hs2 HB2.o.1 HB2.o.2 h3p);have hs3:=aP hs2 h3p.a.a.c;obtain⟨who3,htr3,_⟩:=h3t.t;have HTG:=hid (Qx h3t.κ (h3t.q 30 om) htr3 om);go_wp2_with fail;refine ac HTG.o ?_;rintro e w4 htp;obtain⟨tv,rfl,hrow⟩:=htp.b;have hb4:=htp.a;obtain⟨L,hL⟩:∃L,L=gJ (aC c s (k+1)):=⟨_,rfl⟩;have HL:=hid hL;rw[<-hL]at hrow;have HW4:=hid (HW3.o.θ hb4);have HWP4:=hid (HWP3.o.d (fV.e hb4 o3));have HB4:H (w4.1[w.1.size]?=O (Δ #[I Q (k:Int),M q n cap] 124)/\o3 w.1.size=0):=⟨((hb4.block _ om).trans HB3.o.1).trans HBOX.o,HB3.o.2⟩;have hs4:=aP hs3 hb4.size;have HROW:=hid hrow;have hLl:L.length<=12:=by rw[hL];exact aP (Ah c s (k+1)) HP.o.v
 have HLM3:=hid HW3.o.d
 obtain⟨tq,tcap,htv⟩:∃tq tcap,tv=M tq L.length tcap:=by
  rcases hrow.2 with ⟨rfl,h0⟩|⟨g,cap,cur,hv,_⟩
  ·exact⟨J,0,by rw[h0]⟩
  exact⟨_,_,hv⟩
 subst htv;have hrl:=HP.o.y.1;obtain⟨R,hR⟩:∃R,R=rs.length:=⟨_,rfl⟩;have HR:=hid hR
 obtain⟨rq,rcap,hrv⟩:∃rq rcap,p.f=M rq R rcap:=by
  rw[hR];rcases HW4.o.g.2 with ⟨G,h0⟩|⟨g,cap,cur,hv,_⟩
  ·exact⟨J,0,by rw[G,h0]⟩
  exact⟨_,_,hv⟩
 have HRV:H (p.f=M rq R rcap):=hrv;have n32:w4.cell? ⟨wb,32,J⟩=O (M rq R rcap):=by rw[HW4.o.q 32 om,<-hrv];rfl
 have hR6:R<=6:=om;obtain⟨A0,hA0⟩:∃A0,A0=bM c rs s k:=⟨_,rfl⟩;have HA0:H (A0=bM c rs s k):=hA0;rw[<-hA0]at HW4;have hA9:A0.length<=72000:=by rw[hA0];exact AK HP.o
 have HT4:H (dy w4):=qt HT.o h0 HWP4.o.a;have h04:o3 1=0:=sQ h0 (by have:=HT.o.a;omega) HWP4.o.a;clear htp hrow hb4 hL hrv hR hA0 HTG HB3 HWP3 HW3 HW2 HWP2 HB2 hrl;obtain⟨P,hep⟩:∃P,P=al (aC c s (k+1)):=⟨_,rfl⟩;have HEP:H (P=al (aC c s (k+1))):=hep;go_wp2;go_loopw [5,6,8,28] (λ_ _ _ i V=>∃(j:Nat) (o:Nat->Nat) (p':fO),j<=R/\i=I Q (j:Int)/\fh V wb o c rs s (k+1) (k+1) (A0++gN c.d c.c P L k (rs.take j)) p'/\p'.f=p.f/\fV w4 V o3 o) (λ_ _ _ i _=>R-(intOf i).toNat)
 case atStart=>exact⟨0,o3,p,aX _,rfl,by simpa [gN,jS] using HW4.o,rfl,fV.g _ _⟩
 case round=>
  obtain⟨j,o1,p1,hj,rfl,hw,hrv,hwp⟩:=hrel;have HW:=hid hw;have HRV1:=hid hrv;have HWP:=hid hwp;by_cases hlt:j<R
  case neg=>obtain rfl:j=R:=om;have hII:¬(j:Int)<j:=om;have HF:H (BL w wr wb ow c rs s (k+1)):=(by have G:=HW.o;rw[HR.o,eL,HA0.o,HEP.o,HL.o]at G;have e:bM c rs s k++gN c.d c.c (al (aC c s (k+1))) (gJ (aC c s (k+1))) k rs=bM c rs s (k+1):=(tI c rs s k).symm;rw[e]at G;exact⟨o1,⟨p1,G.ς⟩,HWP4.o.d HWP.o⟩);go_wp2;go_end0;exact⟨rfl,HF.o⟩
  case pos=>
   have hII:(j:Int)<R:=om;have E:j<rs.length:=(by rw[<-HR.o];exact hlt);have hrj:rs[j]?=O rs[j]:=bc E;have hrow1:wr.ownsRow 0 65 6 (M rq R rcap) rs.length (cS rs):=(by have:=HW.o.g;rw[HRV1.o,HRV.o]at this;exact this);obtain⟨g,rc',hq,hg1,hg2⟩:=hrow1.form om;obtain⟨rfl,-⟩:rq=O ⟨g,0,J⟩/\True:=(by simp at hq;exact⟨hq.1,aN⟩);have hcl:∀i u,i<6->(dV rs[j])[i]?=O u->wr.cell? ⟨g,j*6+i,J⟩=O u:=λi u hi hu=>(by have:=hrow1.cells (g:=g) rfl (j*6+i) u (by unfold cS;rw[qq dV 6 (λ_=>rfl) rs j i _ hrj hi];exact hu);rw[dD]at this;exact this);have k0:=hcl 0 _ om rfl;have k1:=hcl 1 _ om rfl;have k2:=hcl 2 _ om rfl;have k3:=hcl 3 _ om rfl;have k4:=hcl 4 _ om rfl;have k5:=hcl 5 _ om rfl;rw[Nat.add_zero]at k0;have hrok:=HP.o.y.2 _ (eG E);have HTK:H (rs.take (j+1)=rs.take j++[rs[j]]):=iA E;generalize rs[j]=r at *;have HTA:H (gN c.d c.c P L k (rs.take (j+1))=gN c.d c.c P L k (rs.take j)++ei c.d c.c P L k r j):=(by show _=_;rw[HTK.o,Ev,fj,Nat.min_eq_left om]);have hAl:(gN c.d c.c P L k (rs.take j)).length<=72:=(by have G:=wH c.d c.c P L k (rs.take j) 0;rw[fj]at G;have h2:(min j rs.length)*L.length<=6*12:=pT om hLl;exact aP G h2);obtain⟨AJ,hAJ⟩:∃AJ,AJ=A0++gN c.d c.c P L k (rs.take j):=⟨_,rfl⟩;have HAJ:H (AJ=A0++gN c.d c.c P L k (rs.take j)):=hAJ;rw[<-hAJ]at HW;have hAJl:AJ.length<=72072:=(by rw[hAJ,bU];omega);obtain⟨T,rk,rf,rt,C,ri⟩:=r;simp only at k0 k1 k2 k3 k4 k5;obtain⟨A,hY⟩:∃A,A=wr.alloc (Δ #[Z T,I Q rk,I Q rf,I Q rt,I Q C,I Q ri] 65):=⟨_,rfl⟩;have hbY:B wr.1.size wr A:=(by rw[hY];exact ba);have hrb:A.1[wr.1.size]?=O (Δ #[Z T,I Q rk,I Q rf,I Q rt,I Q C,I Q ri] 65):=(by rw[hY];exact bn wr _);have hYs:wr.1.size<A.1.size:=(by rw[hY];simp);have HWY:=hid (HW.o.θ hbY);have HWPY:=hid (HWP.o.d (fV.e hbY o1));have HRB:=hid hrb;have hoR:o1 wr.1.size=0:=(by apply lX;intro hn;have:=HW.o.d _ hn;omega);obtain⟨W,hRB⟩:∃W,W=wr.1.size:=⟨_,rfl⟩;rw[<-hRB]at HRB hoR hYs hrb;have hnm:T.size<=9223372036854775807:=(by have G:=hrok.1;unfold aq.l kt at G;have:T.1.toList.length=T.size:=(by simp);simp only at G;omega);have HROK:=hid hrok;go_wp2;rw[<-hY,<-hRB];clear hY k0 k1 k2 k3 k4 k5 hRB;have HOK4:H (∀V (o:Nat->Nat),fV A V o1 o->V.1[w.1.size]?=O (Δ #[I Q (k:Int),M q n cap] 124)/\V.1[W]?=O (Δ #[Z T,I Q rk,I Q rf,I Q rt,I Q C,I Q ri] 65)/\dy V/\V.ownsRow w3.1.size 9 1 (M tq L.length tcap) L.length (L.map cH)):=λV o U=>(by have hY4:fV w4 V o3 o:=HWPY.o.d U;refine⟨(hY4.a.a.b _ om (λe=>e HB4.o.2)).trans HB4.o.1,(U.a.a.b W hYs (λe=>e hoR)).trans HRB.o,qt HT4.o h04 hY4.a,aS HROW.o (λb hb=>hY4.a.a.b b (aU HROW.o hb) (λe=>?_))⟩;have G:=HLM3.o b e;have h2:=(HROW.o.lt b hb).1;omega);go_loopw [8,35] (λ_ i V=>∃(m:Nat) (o:Nat->Nat) (p':fO),m<=L.length/\i=I Q (m:Int)/\fh V wb o c rs s (k+1) (k+1) (AJ++ei c.d c.c P (L.take m) k ⟨T,rk,rf,rt,C,ri⟩ j) p'/\p'.f=p.f/\fV A V o1 o) (λ_ i _=>L.length-(intOf i).toNat)
   case atStart=>exact⟨0,o1,p1,aX _,rfl,by simpa [ei] using HWY.o,HRV1.o,fV.g _ _⟩
   case round=>
    obtain⟨m,D,p2,hm,rfl,hw2',hrv2,hwp2⟩:=hrel;have HV:H (fh wr wb D c rs s (k+1) (k+1) (AJ++ei c.d c.c P (L.take m) k ⟨T,rk,rf,rt,C,ri⟩ j) p2):=hw2';have HRV2:H (p2.f=p.f):=hrv2;have HWP2:H (fV A wr o1 D):=hwp2;clear hw2' hrv2 hwp2;by_cases hlt2:m<L.length
    case neg=>
     have hmL:m=L.length:=om;have hI2:¬(m:Int)<L.length:=om;have HF:H (fh wr wb D c rs s (k+1) (k+1) (A0++gN c.d c.c P L k (rs.take (j+1))) p2):=(by have G:=HV.o;rw[hmL,eL,HAJ.o,lY,<-HTA.o]at G;exact G);clear hmL;go_wp2;go_roundw
     case rel=>exact⟨j+1,D,p2,om,by go_num,HF.o,HRV2.o,HWPY.o.d HWP2.o⟩
     simp[intOf];omega
    case pos=>
     have hI2:(m:Int)<L.length:=om;obtain⟨hbx4,S,htb4,hrow4⟩:=HOK4.o wr D HWP2.o;obtain⟨tg,tc',hq2,_,_⟩:=hrow4.form om;obtain⟨rfl,-⟩:tq=O ⟨tg,0,J⟩/\True:=(by simp at hq2;exact⟨hq2.1,aN⟩);have t0:wr.cell? ⟨tg,m,J⟩=O (Z L[m]):=(by have:=hrow4.cells (g:=tg) rfl m (cH L[m]) (by simp[hlt2]);rw[dD]at this;exact this);have hmem:L[m]∈gJ (aC c s (k+1)):=(by rw[<-HL.o];exact eG hlt2);have htold:=zL.1 (si.1 hmem);have HTKm:H (L.take (m+1)=L.take m++[L[m]]):=iA hlt2;generalize L[m]=gg at *;have hg8:=(EP HP.o (k+1) htold).1;obtain⟨b,hbb⟩:∃b,b=oJ gg P c.d c.c ⟨T,rk,rf,rt,C,ri⟩ k:=⟨_,rfl⟩;have HBB:H (b=oJ gg P c.d c.c ⟨T,rk,rf,rt,C,ri⟩ k):=hbb;have HAR:H (ei c.d c.c P (L.take (m+1)) k ⟨T,rk,rf,rt,C,ri⟩ j=ei c.d c.c P (L.take m) k ⟨T,rk,rf,rt,C,ri⟩ j++(if b=true then [⟨j,k,gg⟩] else [])):=(by show _=_;rw[HTKm.o,Eu,HBB.o]);obtain⟨who4,htr4,_⟩:=HV.o.t;have HHO:H (∀V,B wr.1.size wr V->Φ prog 151 #[Y (O ⟨p2.d,0,J⟩),.agg #[Z T,I Q rk,I Q rf,I Q rt,I Q C,I Q ri],Z gg,I Q (k:Int)] V λx K=>x=N (.bool b)/\B V.1.size V K):=λV U=>(by have G:=LE (t:=true) (b:=b) ⟨T,rk,rf,rt,C,ri⟩ gg (k:Int) (htr4.a U) (htb4.b U htb4.a) hco.b om om ⟨λ_=>htold,λ_=>rfl⟩ om om hnm (by rw[hbb,<-HEP.o];exact xR HROK.o);exact G);have z0:wr.cell? ⟨w.1.size,0,J⟩=O (I Q (k:Int)):=(by simp[World.cell?,hbx4]);have y0:wr.cell? ⟨W,0,J⟩=O (Z T):=(by simp[World.cell?,S]);have y1:wr.cell? ⟨W,1,J⟩=O (I Q rk):=(by simp[World.cell?,S]);have y2:wr.cell? ⟨W,2,J⟩=O (I Q rf):=(by simp[World.cell?,S]);have y3:wr.cell? ⟨W,3,J⟩=O (I Q rt):=(by simp[World.cell?,S]);have y4:wr.cell? ⟨W,4,J⟩=O (I Q C):=(by simp[World.cell?,S]);have y5:wr.cell? ⟨W,5,J⟩=O (I Q ri):=(by simp[World.cell?,S]);have x0:wr.cell? ⟨wb,30,J⟩=O (Y (O ⟨p2.d,0,J⟩)):=HV.o.q 30 om;have HSS:H (∀V,B wr.1.size wr V->(V.cell? ⟨wb,30,J⟩=O (Y (O ⟨p2.d,0,J⟩))/\V.cell? ⟨W,0,J⟩=O (Z T)/\V.cell? ⟨W,1,J⟩=O (I Q rk)/\V.cell? ⟨W,2,J⟩=O (I Q rf)/\V.cell? ⟨W,3,J⟩=O (I Q rt)/\V.cell? ⟨W,4,J⟩=O (I Q C)/\V.cell? ⟨W,5,J⟩=O (I Q ri)/\V.cell? ⟨w.1.size,0,J⟩=O (I Q (k:Int)))/\B wr.1.size wr V):=λV U=>⟨⟨aH U x0,aH U y0,aH U y1,aH U y2,aH U y3,aH U y4,aH U y5,aH U z0⟩,U⟩;have hWW:B wr.1.size wr wr:=aj _ _;clear hrow4 hq2 hbx4 S htr4 htold hmem hbb;go_wp2;clear x0 y0 y1 y2 y3 y4 y5 z0 t0
     go_region_held3 (λV=>(V.cell? ⟨wb,30,J⟩=O (Y (O ⟨p2.d,0,J⟩))/\V.cell? ⟨W,0,J⟩=O (Z T)/\V.cell? ⟨W,1,J⟩=O (I Q rk)/\V.cell? ⟨W,2,J⟩=O (I Q rf)/\V.cell? ⟨W,3,J⟩=O (I Q rt)/\V.cell? ⟨W,4,J⟩=O (I Q C)/\V.cell? ⟨W,5,J⟩=O (I Q ri)/\V.cell? ⟨w.1.size,0,J⟩=O (I Q (k:Int)))/\B wr.1.size wr V)
      (first|exact HSS.o _ (ma ‹_›)|(go_split_ands;exact HSS.o _ (bQ ‹_› hb5)))
      (first|(go_at_call 151;go_split_ands;refine(HHO.o _ ‹_›).m ?_;rintro e F ⟨rfl,hb5⟩))
     rename_i hH;obtain⟨⟨_,_,_,_,_,_,_,z5⟩,hbw5⟩:=hH;have HB5:H (B wr.1.size wr F):=hbw5;have HZ5:H (F.cell? ⟨w.1.size,0,J⟩=O (I Q (k:Int))):=z5;have HV5:H (fh F wb D c rs s (k+1) (k+1) (AJ++ei c.d c.c P (L.take m) k ⟨T,rk,rf,rt,C,ri⟩ j) p2):=HV.o.θ hbw5;have HWP5:H (fV A F o1 D):=HWP2.o.d (fV.e hbw5 D);clear hbw5 hWW hb5;cases b with
    |false=>
      have HF:H (fh F wb D c rs s (k+1) (k+1) (AJ++ei c.d c.c P (L.take (m+1)) k ⟨T,rk,rf,rt,C,ri⟩ j) p2):=(by rw[HAR.o];show fh _ _ _ _ _ _ _ _ _ _;simpa using HV5.o);clear z5;go_wp2;go_roundw
      case rel=>exact⟨m+1,D,p2,om,by go_num,HF.o,HRV2.o,HWP5.o⟩
      simp[intOf];omega
    |true=>
      obtain⟨i0,hi,hz0,hz1,hz2⟩:=eb xS;obtain⟨AM,hAM⟩:∃AM,AM=AJ++ei c.d c.c P (L.take m) k ⟨T,rk,rf,rt,C,ri⟩ j:=⟨_,rfl⟩;have HAM:H (AJ++ei c.d c.c P (L.take (m+1)) k ⟨T,rk,rf,rt,C,ri⟩ j=AM++[⟨j,k,gg⟩]):=(by show _=_;rw[HAR.o,hAM,ak rfl,lY]);have hAMl:AM.length<=100000:=(by have G:=AH c.d c.c P (L.take m) k ⟨T,rk,rf,rt,C,ri⟩ j;rw[fj]at G;rw[hAM,bU];omega);rw[<-hAM]at HV5;have hbU:B F.1.size F (F.alloc (Δ #[I Q (j:Int),I Q (k:Int),Z gg] 98)).drew:=ba.drew;have HU:H (fh (F.alloc (Δ #[I Q (j:Int),I Q (k:Int),Z gg] 98)).drew wb D c rs s (k+1) (k+1) AM p2):=HV5.o.θ hbU;have HWPU:H (fV A (F.alloc (Δ #[I Q (j:Int),I Q (k:Int),Z gg] 98)).drew o1 D):=HWP5.o.d (fV.e hbU D);have HUS:H ((F.alloc (Δ #[I Q (j:Int),I Q (k:Int),Z gg] 98)).drew.1.size=F.1.size+1):=by show (F.alloc _).1.size=_;simp
      have HNEW:H (∀j' u,([I Q (j:Int),I Q (k:Int),Z gg]:List Value)[j']?=O u->(F.alloc (Δ #[I Q (j:Int),I Q (k:Int),Z gg] 98)).drew.cell? ((⟨F.1.size,0,J⟩:Addr).add j')=O u):=by
       intro j' u E;rw[dD];show (F.alloc _).cell? _=_
       match j',E with
      |0,E=>simp at E;subst E;simp
      |1,E=>simp at E;subst E;simp
      |2,E=>simp at E;subst E;simp
      have HML:H (AM.length+1<=maxLen):=(by show _<=_;unfold maxLen;omega);have HBY:H ((AM.length+1)*32<=140737488355328):=(by show _<=_;omega);have q33:F.cell? ⟨wb,33,J⟩=O p2.b:=HV5.o.q 33 om;have q33':∀o,(F.alloc o).cell? ⟨wb,33,J⟩=O p2.b:=λo=>(by rw[((aj F.1.size F).l nl o).cell HV5.o.κ];exact q33);have z5':∀o,(F.alloc o).cell? ⟨w.1.size,0,J⟩=O (I Q (k:Int)):=λo=>aH ((aj F.1.size F).l nl o) z5;have HV6:H (∀V6,(F.alloc (Δ #[I Q (j:Int),I Q (k:Int),Z gg] 98)).drew.grownBy V6 p2.b.ownBlock->V6.cell? ⟨wb,33,J⟩=O p2.b/\V6.frozen? ⟨wb,33,J⟩=false):=λV6 hg=>(by have hb6:V6.1[wb]?=_:=hg.block wb HU.o.κ (λe=>by have G:=HU.o.e wb e.symm;rw[HU.o.a]at G;omega);refine⟨by rw[bW hb6];exact HU.o.q 33 om,?_⟩;have:=HU.o.ξ 33;unfold World.frozen? at this⊢;simp only[hb6];exact this);clear hAM;go_wp2_with fail;go_region_law (refine iX _ (by rfl) (.tmp 52) (.tmp 58) 91 (by rfl) 0 98 i0 (.agg #[I Q 0,I Q 0,Z ⟨#[]⟩]) 3 32 underlying91 hi hz0 hz1 hz2 rfl om p2.b AM.length (gd AM) (by rfl) HU.o.l ⟨F.1.size,0,J⟩ 1 1 [I Q (j:Int),I Q (k:Int),Z gg] (by rfl) rfl HNEW.o (λu hu=>by simp at hu;rcases hu with rfl|rfl|rfl<;>rfl) om HML.o HBY.o (aX _) _ rfl ?_;intro g6 cap6 V6 hown6 hgrow6 hat6 hlt6;obtain⟨c6,f6⟩:=HV6.o V6 hgrow6)
      all_goals
       obtain⟨hfin,hfwp⟩:=fh.ν (a:=⟨j,k,gg⟩) HU.o hown6 hgrow6 (by
        rcases hat6 with h|h
        ·exact af h
        ·exact ah (Nat.le_of_eq h.symm))
       rw[<-HAM.o]at hfin;have HFIN:H (fh (V6.setCell ⟨wb,33,J⟩ (M (O ⟨g6,0,J⟩) (AM.length+1) cap6)) wb (dA D (F.alloc (Δ #[I Q (j:Int),I Q (k:Int),Z gg] 98)).drew V6 7) c rs s (k+1) (k+1) (AJ++ei c.d c.c P (L.take (m+1)) k ⟨T,rk,rf,rt,C,ri⟩ j) { p2 with b:=M (O ⟨g6,0,J⟩) (AM.length+1) cap6 }):=hfin;have HFWP:H (fV A (V6.setCell ⟨wb,33,J⟩ (M (O ⟨g6,0,J⟩) (AM.length+1) cap6)) o1 (dA D (F.alloc (Δ #[I Q (j:Int),I Q (k:Int),Z gg] 98)).drew V6 7)):=HWPU.o.d hfwp;clear hfin hfwp hown6 hgrow6 hat6 hlt6 c6 f6;go_wp2;go_roundw
       case rel=>exact⟨m+1,_,_,om,by go_num,HFIN.o,HRV2.o,HFWP.o⟩
       simp[intOf];omega
end
end
section
open Go.RowKit Go.Maps
section
variable {w w':Ω}{wb:Nat}{ow:Nat->Nat}{c:aE}{rs:List aq}{s:ay}{k:Nat}{p:fO}
theorem DO{x:ai}{a b:Nat}(i:a<=b)(h:eY a x=true):eY b x=true:=by have g:=mf.1 h;exact mf.2 ⟨g.d,g.e,g.f,g.h,g.b,by have:=g.c;omega,g.a⟩
theorem OL(h:dY w wb ow c rs s k p)(n:Nat)(C:ax (λb=>ow b=3) w w')(U:cG w' p.e (λb=>ow b=3) c.b c.e (s.b+n) s.a (bD c.b c.e (s.b+n)))(V:s.b+n<=1000):dY w' wb ow c rs (s.h n) k p:=by
 have r:∀b l,b<w.1.size->ow b=l->l≠0->l≠3->w'.1[b]?=w.1[b]?:=λb l A j R D=>C.b b A (λS=>by rw[j]at S;exact D S);have A:∀b l,ow b=l->l≠0->b<w.1.size:=λb l j R=>h.a b (by rw[j];exact R);have K:=C.c;refine⟨?_,h.d,λb j=>bg (h.a b j) K,h.e.a (r _ 2 h.e.b h.l dc dc),h.l,U,?_,?_,?_,h.o,?_,h.n,h.ε,h.g,h.y,V,aP h.u (tB (Nat.le_add_right _ _)),h.v,λx T=>⟨DO (Nat.le_add_right _ _) (h.z x T).1,(h.z x T).2⟩,h.i⟩
 ·rw[r wb 1 (A wb 1 h.d dc) h.d dc dc];exact h.t
 ·obtain⟨G,P,E⟩:=h.δ;exact⟨G,P.b K (λb j L=>r b 4 j (E b L) dc dc),E⟩
 ·obtain⟨F,f,P,E,D⟩:=h.γ;exact⟨F,f,P.a K (λb j L=>r b 5 j (D b L) dc dc),E,D⟩
 ·exact aS h.q (λb j=>r b 6 (aU h.q j) (h.o b j) dc dc)
 exact aS h.m (λb j=>r b 7 (aU h.m j) (h.n b j) dc dc)
theorem OM(n:Int)(h:dx w wb ow c rs s k)(j:¬(0<=n/\(s.b:Int)+n<=1000)):
  Φ prog 73 #[Y (O ⟨wb,0,J⟩),I Q n] w λe d=>e=N (Ψ #[I Q 0,.iface 57 (I Q 1)])/\d=w:=by
 obtain⟨p,f⟩:=h.a;have g:=f.ι;have i:H (Φ prog 106 #[Y (O ⟨p.e,0,J⟩),I Q n] w λe d=>e=N (Ψ #[M J 0 0,.iface 57 (I Q 1)])/\d=w):=by exact Og n f.ζ f.h om
 go_enter func73,ntmps73;go_wp2_with fail;refine ac i.o ?_;rintro e d ⟨rfl,rfl⟩;go_wp2;go_ret2;exact⟨rfl,rfl⟩
theorem EQ(c:Nat)(d:List ai)(a b i:Nat)(e:i<b-a):(di c d a b)[i]?=O (a+i,bE (aR c d (a+i))):=by unfold di;rw[eE,List.getElem?_range' e];simp
theorem DP(c:Nat)(d:List ai)(a b:Nat):(di c d a b).length=b-a:=by simp[di]
theorem Qy(n:Nat)(h:dx w wb ow c rs s k)(hT:dy w)(h0:ow 1=0)(hk:k=s.c c)(hn:s.b+n<=1000):
  Φ prog 73 #[Y (O ⟨wb,0,J⟩),I Q (n:Int)] w λe w'=>e=N (Ψ #[I Q (((s.h n).c c-s.c c:Nat):Int),.nilIface])/\gl w w' wb ow c rs (s.h n) ((s.h n).c c):=by
 obtain⟨p,D⟩:=h.a;have c29:=D.ι;have hal:s.a.length<=20000:=by have:=D.i;unfold ay.d ay.m at this;omega
 have HTK:H (Φ prog 106 #[Y (O ⟨p.e,0,J⟩),I Q (n:Int)] w λe w'=>∃v,e=N (Ψ #[v,.nilIface])/\eN w' w.1.size (λb=>ow b=3) v (di c.b s.a (bD c.b c.e s.b) (bD c.b c.e (s.b+n)))/\cG w' p.e (λb=>ow b=3) c.b c.e (s.b+n) s.a (bD c.b c.e (s.b+n))/\ax (λb=>ow b=3) w w'):=
  Oe n D.ζ (λb W=>D.a b (by rw[W];decide)) (by have:=D.g.d;omega) D.g.e D.g.g hn om
 have HP:=hid D;have HT:=hid hT;have HK:=hid hk;have hk':k<=(s.h n).c c:=by rw[hk];exact tB (Nat.le_add_right _ _)
 have hk9:(s.h n).c c<=1000:=aP kU hn;have HC:H ((s.h n).c c=bD c.b c.e (s.b+n)):=rfl;have HLM:H (∀b,ow b≠0->b<w.1.size):=D.a;rw[<-hk];obtain⟨P,S⟩:∃P,P=(s.h n).c c:=⟨_,rfl⟩;have HK1:H (P=(s.h n).c c):=S;rw[<-S]at hk' hk9⊢;obtain⟨r,hN⟩:∃r,r=P-k:=⟨_,rfl⟩;have HN:H (r=P-k):=hN;rw[<-hN];have hN9:r<=1000:=om;clear h D hT hk S hN;go_enter func73,ntmps73;go_wp2_with fail;refine ac HTK.o ?_;rintro e C ⟨v,rfl,L,hd1,hk1⟩;have E:dY C wb ow c rs (s.h n) k p:=OL HP.o n hk1 hd1 hn;have hwp:cD w C ow ow:=⟨hk1.e (λb _ W=>by rw[W];decide),λ_ h=>af h⟩;have H1:H (dx C wb ow c rs (s.h n) k):=⟨p,E⟩;have a0:H (cD w C ow ow):=hwp;have a1:H (dy C):=qt HT.o h0 hwp;rw[<-HC.o,<-HK1.o,show bD c.b c.e s.b=s.c c from rfl,<-HK.o]at L;obtain⟨U,a2,A,hrd⟩:=L.a;rw[DP,<-HN.o]at a2 A;have HPL:=hid a2;have F:=hid A;have HRD:=hid hrd
 obtain⟨q,cp,hv⟩:∃q cp,v=M q r cp:=by
  rcases A.2 with ⟨rfl,h0⟩|⟨g,cap,cur,hv,_⟩
  ·exact⟨J,0,by rw[h0]⟩
  exact⟨_,_,hv⟩
 subst hv;go_wp2;go_loopw [9,24] (λ_ i V=>∃(j:Nat) (x:Nat->Nat),j<=r/\i=I Q (j:Int)/\dx V wb x c rs (s.h n) (k+j)/\fV C V ow x) (λ_ i _=>r-(intOf i).toNat)
 case atStart=>exact⟨0,ow,aX _,rfl,H1.o,fV.g _ _⟩
 obtain⟨j,x,hj,rfl,hw,hwq⟩:=hrel;have HW:=hid hw;have t:=hid hwq;by_cases hlt:j<r
 case neg=>obtain rfl:j=r:=om;have hII:¬(j:Int)<j:=om;have HF:H (gl w wr wb ow c rs (s.h n) P):=⟨x,by have h:=HW.o;rw[show k+j=P by have:=HN.o;omega]at h;exact h,a0.o.d t.o.a⟩;go_wp2;go_ret2;exact⟨rfl,HF.o⟩
 have hII:(j:Int)<r:=om;have hjp:j<U.length:=(by rw[HPL.o];exact hlt);have hpj:=bc hjp;have hej:=EQ c.b s.a k P j (by rw[<-HN.o];exact hlt);obtain⟨R,y⟩:=HRD.o j _ _ hej hpj;obtain⟨g,cp',hq,hg1,hg2⟩:=F.o.form om;obtain⟨rfl,-⟩:q=O ⟨g,0,J⟩/\True:=(by simp at hq;exact⟨hq.1,aN⟩);have hcl:∀i u,i<2->(mw (k+j,bE (aR c.b s.a (k+j))) U[j])[i]?=O u->C.cell? ⟨g,j*2+i,J⟩=O u:=λi u hi hu=>(by have:=F.o.cells (g:=g) rfl (j*2+i) u (by rw[xG _ U j i _ _ hej hpj hi];exact hu);rw[dD]at this;exact this);have hog:ow g=0:=(by apply lX;intro hn;have:=HLM.o g hn;omega);have X:=t.o.a.a.b g hg2 (λe=>e hog);have k0:wr.cell? ⟨g,j*2,J⟩=O (I Q ((k+j:Nat):Int)):=(by rw[bW (w:=C) X];exact hcl 0 _ om rfl);have k1:wr.cell? ⟨g,j*2+1,J⟩=O (M U[j].1 (bE (aR c.b s.a (k+j))).length U[j].2):=(by rw[bW (w:=C) X];exact hcl 1 _ om rfl);generalize U[j]=pc at *;obtain⟨pp,K⟩:=pc;simp only at k1 R y;have T:∀o,B wr.1.size wr (wr.alloc o):=λo=>br.l nl o
 have HTL:H (∀o,Φ prog 107 #[Y (O ⟨wb,0,J⟩),.agg #[I Q ((k+j:Nat):Int),M pp (bE (aR c.b s.a (k+j))).length K]] (wr.alloc o) λe w2=>e=N (Ψ #[])/\BL (wr.alloc o) w2 wb x c rs (s.h n) (k+j+1)):=λo=>by
  have ht:=qt a1.o h0 t.o.a;refine OK pp K (HW.o.b (T o)) (ht.b (T o) ht.a) (sQ h0 (by have:=a1.o.a;omega) t.o.a) (by have G:=HN.o;have h3:=HK1.o;show k+j<(s.h n).c c;omega) ?_ ?_
  ·by_cases z:bE (aR c.b s.a (k+j))=[]
   ·show cZ _ _ (bE (aR c.b s.a (k+j)));rw[z];exact cZ.c
   refine(R.d t.o.a.a.c (λb o e W=>?_)).e (T o);obtain⟨b',o',E,G,_⟩:=y z;rw[E]at e;simp at e;exact(t.o.f b W (by rw[<-e.1];exact G)).1
  intro z b o e;obtain⟨b',o',E,G,_⟩:=y z;obtain⟨b'',o'',h3,h4,_⟩:=R.a z;rw[E]at e h3;simp at e h3;have:=(t.o.f b' (by rw[h3.1];exact h4) G).2;rw[<-e.1,this];decide
 go_wp2_with fail;refine(HTL.o _).m ?_;rintro e w4 ⟨rfl,hto⟩;have HTO:H (∃ow2,dx w4 wb ow2 c rs (s.h n) (k+(j+1))/\fV C w4 ow ow2):=(by obtain⟨o2,E,G⟩:=hto.a;exact⟨o2,E,(t.o.d (fV.e ba x)).d G⟩);go_wp2;go_roundw
 case rel=>obtain⟨o2,E,G⟩:=HTO.o;exact⟨j+1,o2,om,by go_num,E,G⟩
 simp[intOf];omega
end
end
end Go.Proofs.YtlaodjjfmhipnaaGreatDoor
