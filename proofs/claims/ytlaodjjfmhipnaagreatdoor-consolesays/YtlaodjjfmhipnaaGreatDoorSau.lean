/-
  Part of it.
-/
import Derived.Test.YtlaodjjfmhipnaaGreatDoorSao
import Derived.Test.YtlaodjjfmhipnaaGreatDoorSat
set_option maxRecDepth 100000
set_option maxHeartbeats 8000000
set_option linter.all false
namespace Go.Proofs.YtlaodjjfmhipnaaGreatDoor
open Go.Proofs.Tryz
open Value renaming int→I,string→Z,pointer→Y,slice→M,tuple→Ψ
open Ending renaming returned→N
open Obj renaming cells→Δ
open Go renaming World→Ω,Calls→Φ
open IntKind renaming i64→Q
open Option renaming some→O,none→J
open RowKit renaming Below→B,Hid→H
section
open Go.RowKit Go.Maps
theorem A7:(prog.info? 124).map (λi=>(i.zero,i.size,i.bytes))=O (O (.agg #[I Q 0,M J 0 0]),2,32):=kr
section
variable {w:Ω}{db:Nat}{F:Nat->Prop}{size late now:Nat}{all:List ai}{lo:Nat}
theorem Og(n:Int)(d:cG w db F size late now all lo)(g:now<=1000)(i:¬(0<=n/\n<=1000-now)):
  Φ prog 106 #[Y (O ⟨db,0,J⟩),I Q n] w λe b=>e=N (Ψ #[M J 0 0,.iface 57 (I Q 1)])/\b=w:=by
 obtain⟨j,m,D,h,d⟩:=d.a;have f:=d.p;have c:eD n 0 (1000-(now:Int))=false:=by simp[eD];omega
 go_enter func106,ntmps106;go_wp2_with fail;refine(kV c _).m ?_;rintro e b ⟨rfl,rfl⟩;go_wp2;go_ret2;exact⟨rfl,rfl⟩
theorem Oe(n:Nat)(d:cG w db F size late now all (bD size late now))(hF:∀b,F b->b<w.1.size)(h0:0<size)(h1:size<=50)(h2:late<=50)(h3:now+n<=1000)(hal:all.length<=100000):
  Φ prog 106 #[Y (O ⟨db,0,J⟩),I Q (n:Int)] w λe w'=>∃v,e=N (Ψ #[v,.nilIface])/\eN w' w.1.size F v (di size all (bD size late now) (bD size late (now+n)))/\cG w' db F size late (now+n) all (bD size late (now+n))/\ax F w w':=by
 have hdb:=d.e;obtain⟨i0,hi,hz0,hz1,hz2⟩:=eb A7;obtain⟨T,P⟩:∃c,c=bD size late now:=⟨_,rfl⟩;obtain⟨c1,K⟩:∃c,c=bD size late (now+n):=⟨_,rfl⟩;have hcc:T<=c1:=by rw[P,K];exact tB om
 have hc9:c1<=1000:=by rw[K];exact aP kU h3
 have HC1:=hid K;rw[<-P]at d;rw[<-P,<-K];have HC0:=hid P;clear P K;have HD:=hid d;have c2:w.cell? ⟨db,2,J⟩=O (I Q (now:Int)):=by obtain⟨mb,m,D,h,d⟩:=d.a;exact d.p
 have z2:w.frozen? ⟨db,2,J⟩=false:=by obtain⟨mb,m,D,h,d⟩:=d.a;exact d.x 2
 have b1:eD (n:Int) 0 (1000-(now:Int))=true:=by simp[eD];omega
 go_enter func106,ntmps106;go_wp2_with fail;refine(kV b1 _).m ?_;rintro e z ⟨rfl,hw1⟩;subst hw1;go_wp2_with fail;refine(xf HC0.o HD.o h0 h1 h2 om).m ?_;rintro e w2 ⟨rfl,q,rfl⟩;have HSt:H (cG ((z.drewN q).setCell ⟨db,2,J⟩ (I Q ((now:Int)+n))) db F size late (now+n) all T):=by obtain⟨mb,m,D,h,d⟩:=(HD.o.c (ew _ q)).a;exact⟨mb,m,D,h,d.γ (now+n) om⟩
 have HKp:H (ax F z ((z.drewN q).setCell ⟨db,2,J⟩ (I Q ((now:Int)+n)))):=(bH (ew _ q) F).a (ko _ _ _ (by obtain⟨mb,m,D,h,d⟩:=HD.o.a;exact d.j));have HF:=hid hF;go_wp2_with fail;go_loopw [7,8] (λl i V=>∃(k:Nat) (G:Nat->Prop),T<=k/\k<=c1/\i=I Q (k:Int)/\(∀b,G b->F b)/\eN V z.1.size (λb=>F b/\¬G b) l (di size all T k)/\cG V db G size late (now+n) all k/\ax F z V) (λ_ i _=>c1-(intOf i).toNat)
 case atStart=>refine⟨T,F,aa _,hcc,rfl,λ_ h=>h,?_,HSt.o,HKp.o⟩;rw[zB all nl];exact eN.f _ _ _
 case round=>
  obtain⟨k,G,hk0,hk1,rfl,hG,heo,hda,hkp⟩:=hrel;have HG:=hid hG;have HEO:=hid heo;have HDA:=hid hda;have HK:=hid hkp;have hsz:=hkp.c;go_wp2_with fail;refine(xf HC1.o HDA.o h0 h1 h2 h3).m ?_;rintro e w2 ⟨rfl,q2,rfl⟩;have R:H (cG (wr.drewN q2) db G size late (now+n) all k):=HDA.o.c (ew _ _);have E:H (eN (wr.drewN q2) z.1.size (λb=>F b/\¬G b) u7 (di size all T k)):=HEO.o.c (ew _ _);have HK2:H (ax F z (wr.drewN q2)):=HK.o.a (bH (ew _ _) F);have hsz2:z.1.size<=(wr.drewN q2).1.size:=hsz;generalize wr.drewN q2=V at *;by_cases hlt:k<c1
  case neg=>have hkk:k=c1:=om;subst hkk;have hI:¬(k:Int)<k:=om;go_wp2;go_ret2;refine⟨_,rfl,E.o.i (λb h=>h.1),R.o.d (λb _ h=>HG.o b h),HK2.o⟩
  case pos=>
   have hI:(k:Int)<c1:=om;go_wp2_with fail;refine(N3 R.o om hal).m ?_;rintro e w3 ⟨v,rfl,S,hvb,C,r⟩;obtain⟨p,y,rfl,a0⟩:=qo (by rw[<-lZ (aR size all k)]at S;exact S);obtain⟨L,hL⟩:∃L,L=bE (aR size all k):=⟨_,rfl⟩;rw[<-hL]at a0 hvb C⊢;have HLL:=hid hL;have HSG:=hid a0;have HVB:=hid hvb;have HDA3:=hid C;have HK3:=hid r;have hsz3:=r.c
   have A:eN w3 z.1.size (λb=>F b/\¬G b) u7 (di size all T k):=E.o.j r.c (λb t h=>r.b b t (λhg=>by
    rcases h with h|h
    ·have:=HF.o b (HG.o b hg);omega
    ·exact h.2 hg))
   have U:H (∀b,u7.ownBlock=O b->z.1.size<=b):=λb t=>(by obtain⟨ps,_,ho,_⟩:=A.a;exact(ho.lt b t).1);obtain⟨ps,hpl,hpo,hpr⟩:=((A.i (G':=λb=>F b/\¬sS G (M p L.length y) b) (λb h=>⟨h.1,λg=>h.2 g.1⟩)).d (Δ #[I Q (k:Int),M p L.length y] 124)).a;have HPR:=hid hpr;have HPL:=hid hpl;have hTl:(di size all T k).length<=1000:=(by unfold di;simp;omega);clear S hL a0 hvb C r A hpl hpr R E;go_wp2_with (at_builtin;refine iB _ rfl _ _ 118 rfl z.1.size 124 i0 (.agg #[I Q 0,M J 0 0]) 2 32 underlying118 hi hz0 hz1 hz2 rfl dc _ _ _ rfl hpo ⟨w3.1.size,0,J⟩ 1 1 [I Q (k:Int),M p L.length y] rfl rfl ?q1 ?q2 om ?q3 ?q4 ?q5 (w3.1.size+1) ?q6 ?_)
   case q1=>
    intro j u X
    match j,X with
   |0,X=>simp at X;subst X;simp[Addr.add]
   |1,X=>simp at X;subst X;simp[Addr.add]
   case q2=>intro u hu;simp at hu;rcases hu with rfl|rfl<;>rfl
   case q3=>unfold maxLen;omega
   case q4=>omega
   case q5=>simp;omega
   case q6=>simp
   intro g cap' w4 W s hat hlt4;have hk4:=(qe _ w3 _).a (eV s (λb t=>U.o b t));have HEO4:H (eN w4 z.1.size (λb=>F b/\¬sS G (M p L.length y) b) (M (O ⟨g,0,J⟩) ((di size all T k).length+1) cap') (di size all T (k+1))):=by show eN _ _ _ _ _;rw[y7 all hk0,<-HLL.o];refine eN.g (p:=p) (c:=y) (f:=(k,L)) HPL.o HPR.o W s (by rcases hat with h|h;exact af h;exact ah (by rw[h];simp)) (HSG.o.d sm (λb o _ t=>cX _ _ _ t)) ?_;intro hne;obtain⟨b,o,hp,_⟩:=HSG.o.a hne;have t:=HVB.o b (by rw[hp];rfl);refine⟨b,o,hp,⟨HG.o b t.1,λh=>h.2 (by rw[hp];rfl)⟩,λe=>?_⟩;have h1:=U.o b e;have h2:=HF.o b (HG.o b t.1);omega
   have HDA4:H (cG w4 db (sS G (M p L.length y)) size late (now+n) all (k+1)):=HDA3.o.b (λb t h=>hk4.b b t (λh'=>by
    have h2:=HF.o b (HG.o b h.1);omega))
   have HK4:=hid ((HK2.o.d HK3.o (λb _ h=>HG.o b h)).d hk4 (λb t h=>by omega));go_wp2;go_roundw
   case rel=>exact⟨k+1,_,om,om,by go_num,λb h=>HG.o b h.1,HEO4.o,HDA4.o,HK4.o⟩
   simp[intOf];omega
end
end
section
open Go.RowKit Go.Maps
theorem A8:(prog.info? 156).map (λi=>(i.zero,i.size,i.bytes))=O (O (.agg #[I Q 0,I Q 0,I Q 0,Z ⟨#[]⟩]),4,40):=kr
def jz(F:Nat->Prop)(w w':Ω):Nat->Prop:=λb=>F b\/(w.1.size<=b/\b<w'.1.size)
section
variable {w:Ω}{db:Nat}{F:Nat->Prop}{size late now:Nat}{all:List ai}{lo:Nat}
theorem Qi(x:ai)(d:cG w db F size late now all lo)(j:eY now x=false)(h:x.a.size<=maxLen):
  Φ prog 227 #[Y (O ⟨db,0,J⟩),.agg #[I Q x.c,I Q x.b,I Q x.d,Z x.a]] w λe f=>e=N (.iface 57 (I Q 1))/\B w.1.size w f:=by
 have k:H (∀o,cG (w.alloc o) db F size late now all lo):=λo=>d.c ((aj _ w).l nl o);have i:∀W,cG W db F size late now all lo->Φ prog 253 #[Y (O ⟨db,0,J⟩),.agg #[I Q x.c,I Q x.b,I Q x.d,Z x.a]] W λe f=>e=N (.bool false)/\B W.1.size W f:=λW g=>j ▸ yQ x g h;go_enter func227,ntmps227;go_wp2_with fail;refine(i _ (k.o _)).m ?_;rintro e q ⟨rfl,n⟩;have p:=hid (((aj _ w).l nl _).t (n.m sm));go_wp2;go_ret;exact⟨rfl,p.o⟩
theorem Oh(x:ai)(d:cG w db F size late now all lo)(L:0<size)(h1:size<=50)(h2:late<=50)(v:now<=1000)(E:eY now x=true)(P:bR size x<bD size late now):
  Φ prog 227 #[Y (O ⟨db,0,J⟩),.agg #[I Q x.c,I Q x.b,I Q x.d,Z x.a]] w λe i=>e=N (.iface 57 (I Q 6))/\B w.1.size w i:=by
 have n:prog.follows .mixedOrders=true:=kr;have z:=mf.1 E;have V:x.a.size<=maxLen:=by have:=z.a;unfold maxLen;omega
 obtain⟨T,g⟩:∃T:Nat,x.d=(T:Int):=⟨x.d.toNat,by have:=z.b;omega⟩;obtain⟨k,A⟩:∃k,k=bR size x:=⟨_,rfl⟩;obtain⟨c,s⟩:∃c,c=bD size late now:=⟨_,rfl⟩;have hkT:((T:Int)/(size:Int))=(k:Int):=by rw[A];unfold bR;rw[g];simp
 rw[<-A,<-s]at P;have G:(k:Int)<c:=om;have R:c<=1000:=by rw[s];exact aP kU v
 have K:(k:Int)<=1000:=om;have X:=hid s;have C:=hid d;have j:=d.e;have U:w.cell? ⟨db,0,J⟩=O (I Q (size:Int)):=by obtain⟨mb,m,D,h,d⟩:=d.a;exact d.r
 have u:H (∀W,cG W db F size late now all lo->Φ prog 253 #[Y (O ⟨db,0,J⟩),.agg #[I Q x.c,I Q x.b,I Q x.d,Z x.a]] W λe i=>e=N (.bool true)/\B W.1.size W i):=λW S=>E ▸ yQ x S V;obtain⟨xp,xs,xt,xg⟩:=x;simp only at g u⊢;subst g;have hn:((size:Int) == 0)=false:=by simp;omega
 go_enter func227,ntmps227;go_wp2_with fail;refine(u.o _ (C.o.c ((aj _ w).l nl _))).m ?_;rintro e p ⟨rfl,y⟩;have f:=hid (((aj _ w).l nl _).t (y.m sm));have e0:p.cell? ⟨db,0,J⟩=O (I Q (size:Int)):=by rw[f.o.cell j];exact U
 have e2:p.cell? ⟨w.1.size,2,J⟩=O (I Q (T:Int)):=by rw[y.cell sm];simp
 go_wp2;go_quiet (fail);go_wp2_with fail;have q:H (cG (p.drewN nq) db F size late now all lo):=(C.o.c f.o).c (ew _ _);refine(xf X.o q.o L h1 h2 v).m ?_;rintro e w2 ⟨rfl,q2,rfl⟩;go_wp2;go_ret;exact⟨rfl,f.o.t ((ew _ _).m f.o.size)⟩
theorem Kr{V:Ω}{mb n:Nat}{D:DataW Value}(b:V.ownsMap prog 3 cB mb n D){k:Nat}(f:k<=1000){v:Value}(d:D.atKey (.int Q (k:Int)) (.held rB)=.held v):
  (Instr.lookup 216 (.map (O mb)) (I Q (k:Int)) false).run prog V=.ok v V:=by
 obtain⟨u,e,a,c⟩:=b.lookup gX underlying216 (F1 V) (zd:=.held rB) (zp:=[]) rfl (keyOf_int_mk underlying3 (pO (n:=(k:Int)) om));rw[d]at c;unfold cB at c;simp at c;obtain⟨rfl,_⟩:=c;exact a
theorem RE(k:Nat):WideAt.IsKeyLit (.int Q (k:Int)):=by simp[WideAt.IsKeyLit]
theorem GF{W U V E:Ω}{mb m:Nat}{D:DataW Value}{h:Nat->Value}{c k g cap:Nat}{x:ai}(d:iL W db mb m D h F size late now all c)(hk:k=bR size x)(u:c<=k)
  (X:B W.1.size W U)(ho:V.ownsRow 0 156 4 (M (O ⟨g,0,J⟩) ((aR size all k).length+1) cap) ((aR size all k).length+1) (bL (aR size all k)++[I Q x.c,I Q x.b,I Q x.d,Z x.a]))
  (hV:U.grownBy V (h k).ownBlock)(p:(h k).ownBlock=O g\/g=U.1.size)(P:V.grownBy E (O mb))(hm:E.ownsMap prog 3 cB mb (m+1) (D.put (.int Q (k:Int)) (.held (M (O ⟨g,0,J⟩) ((aR size all k).length+1) cap))))
  (hw:w.1.size<=W.1.size):iL E db mb (m+1) (D.put (.int Q (k:Int)) (.held (M (O ⟨g,0,J⟩) ((aR size all k).length+1) cap))) (λj=>if j=k then M (O ⟨g,0,J⟩) ((aR size all k).length+1) cap else h j) (jz F w E) size late now (all++[x]) c:=by
 have S:=X.size;have T:=hV.size;have R:=P.size;have hg:g<V.1.size:=aU ho rfl
 have L:g≠mb:=by
  intro e;rcases p with p|p
  ·exact(d.i u p).2 e
  have:=d.s;omega
 have C:∀b,b<W.1.size->b≠mb->(h k).ownBlock≠O b->E.1[b]?=W.1[b]?:=λb y v h3=>by rw[P.block b om (λe=>v (by simpa using e)),hV.block b om (λe=>h3 e.symm),X.block b y]
 refine⟨?_,hm,?_,af d.j,af d.e,?_,?_,?_,?_⟩
 ·rw[C db d.o (λe=>d.q e.symm) (λe=>(d.i u e).1 rfl)];exact d.c
 ·have:=d.m;simp;omega
 ·intro j t;by_cases n:j=k
  ·subst n;rw[ak rfl,rL d.f.isMap (RE j)]
  rw[ag n,qV (λe=>n (by simp at e;omega))];exact d.l j t
 ·intro j t;by_cases n:j=k
  ·subst n;rw[ak rfl];have e1:aR size (all++[x]) j=aR size all j++[x]:=(by rw[hk];exact yD all x);rw[e1,zm,bU];refine aS ho (λb r=>?_);simp[Value.ownBlock]at r;subst r;exact P.block g hg (λe=>L (by simpa using e))
  rw[ag n,wu _ _ (by rw[<-hk];exact n)];exact aS (d.a j t) (λb r=>C b (aU (d.a j t) r) (d.i t r).2 (λe=>d.g k j u t (λe=>n e.symm) b e r))
 ·intro j b t r;by_cases n:j=k
  ·subst n;rw[ak rfl]at r;simp[Value.ownBlock]at r;subst r;rcases p with p|p
   ·exact af (d.d j g t p)
   exact ah ⟨om,om⟩
  rw[ag n]at r;exact af (d.d j b t r)
 have G:∀j,c<=j->j≠k->(h j).ownBlock≠O g:=by
  intro j t n e;rcases p with p|p
  ·exact d.g k j u t (λe=>n e.symm) g p e
  have:=aU (d.a j t) e;omega
 intro j K t A z b r;by_cases y:j=k
 ·have v:K≠k:=λe=>z (y.trans e.symm);rw[ak y]at r;rw[ag v];simp[Value.ownBlock]at r;subst r;exact G K A v
 rw[ag y]at r;by_cases v:K=k
 ·rw[ak v];intro e;simp[Value.ownBlock]at e;subst e;exact G j t y r
 rw[ag v];exact d.g j K t A z b r
theorem RD(x:ai)(d:cG w db F size late now all (bD size late now))(h0:0<size)(h1:size<=50)(h2:late<=50)(h3:now<=1000)(hal:all.length<=100000)(hF:∀b,F b->b<w.1.size)(hx:eY now x=true)(hl:bD size late now<=bR size x):
  Φ prog 227 #[Y (O ⟨db,0,J⟩),.agg #[I Q x.c,I Q x.b,I Q x.d,Z x.a]] w λe w'=>e=N .nilIface/\cG w' db (jz F w w') size late now (all++[x]) (bD size late now)/\ax F w w':=by
 have mixed:prog.follows .mixedOrders=true:=kr;obtain⟨i0,hi,hz0,hz1,hz2⟩:=eb A8;have ok:=mf.1 hx;have ht:x.a.size<=maxLen:=by have:=ok.a;unfold maxLen;omega
 obtain⟨T,hT⟩:∃T:Nat,x.d=(T:Int):=⟨x.d.toNat,by have:=ok.b;omega⟩;have hT9:T<=1000:=by have:=ok.c;omega
 obtain⟨k,hk⟩:∃k,k=bR size x:=⟨_,rfl⟩;obtain⟨c,hc⟩:∃c,c=bD size late now:=⟨_,rfl⟩;have hkT:((T:Int)/(size:Int))=(k:Int):=by rw[hk];unfold bR;rw[hT];simp
 have hk9:k<=1000:=by rw[hk];unfold bR;rw[hT];exact aP (Nat.div_le_self _ _) (by simpa using hT9)
 rw[<-hk,<-hc]at hl;rw[<-hc]at d;rw[<-hc];have hlI:¬(k:Int)<c:=om;have hk9I:(k:Int)<=1000:=om;have HC:=hid hc;have HK:=hid hk;have HD:=hid d;have HF:=hid hF;have hdb:=d.e;have c0:w.cell? ⟨db,0,J⟩=O (I Q (size:Int)):=by obtain⟨P,m,D,h,d⟩:=d.a;exact d.r
 have HI:H (∀W,cG W db F size late now all c->Φ prog 253 #[Y (O ⟨db,0,J⟩),.agg #[I Q x.c,I Q x.b,I Q x.d,Z x.a]] W λe w'=>e=N (.bool true)/\B W.1.size W w'):=λW dW=>hx ▸ yQ x dW ht;have hg8:x.a.size<=100000:=by have:=ok.a;omega
 clear d hk hc hx ok hF;obtain⟨A,y,xt,s⟩:=x;simp only at hT HI hg8 ht⊢;subst hT;have hn:((size:Int) == 0)=false:=by simp;omega
 go_enter func227,ntmps227;go_wp2_with fail;refine(HI.o _ (HD.o.c ((aj _ w).l nl _))).m ?_;rintro e w1 ⟨rfl,E⟩;have hsz:w.1.size+1<=w1.1.size:=by have:=E.size;simpa using this
 have HB:=hid (((aj _ w).l nl _).t (E.m sm));have hbx:w1.1[w.1.size]?=O (Δ #[I Q A,I Q y,I Q (T:Int),Z s] 156):=by rw[E.block _ sm];exact bn w _
 have HBX:=hid hbx;have e0:w1.cell? ⟨db,0,J⟩=O (I Q (size:Int)):=by rw[HB.o.cell hdb];exact c0
 have e2:w1.cell? ⟨w.1.size,2,J⟩=O (I Q (T:Int)):=by simp[World.cell?,hbx]
 have e3:w1.cell? ⟨w.1.size,3,J⟩=O (Z s):=by simp[World.cell?,hbx]
 clear E hbx;go_wp2;go_quiet (fail);go_wp2_with fail;have HD2:H (cG (w1.drewN nq) db F size late now all c):=(HD.o.c HB.o).c (ew _ _);refine(xf HC.o HD2.o h0 h1 h2 h3).m ?_;rintro e w2 ⟨rfl,q2,rfl⟩;go_wp2_with fail;refine(LR s _ hg8).m ?_;rintro e w3 ⟨rfl,hb3⟩;have a0:=(ew _ _).t (hb3.m nl);have a1:w3.1[w.1.size]?=O (Δ #[I Q A,I Q y,I Q (T:Int),Z s] 156):=by rw[a0.block _ om];exact HBX.o
 have g3:w3.cell? ⟨w.1.size,3,J⟩=O (Z s):=by simp[World.cell?,a1]
 have f3:w3.frozen? ⟨w.1.size,3,J⟩=false:=by simp[World.frozen?,a1]
 obtain⟨W,hW⟩:∃W,W=w3.setCell ⟨w.1.size,3,J⟩ (Z s):=⟨_,rfl⟩;have hkW:ax (λb=>w.1.size<=b) w W:=by rw[hW];exact((bH HB.o _).a (bH a0 _)).a (ko _ _ _ nl)
 have hWb:W.1[w.1.size]?=O (Δ #[I Q A,I Q y,I Q (T:Int),Z s] 156):=by rw[hW];simp[World.setCell,dU,a1]
 have hWs:w.1.size+1<=W.1.size:=by rw[hW];have:=a0.size;simp[World.setCell];omega
 clear hb3 a0 a1;go_wp2;show Code.wp prog _ _ _ (w3.setCell ⟨w.1.size,3,J⟩ (Z s));rw[<-hW];clear hW g3 f3 e0 e2 e3 HBX HD2 HB;have hdW:=HD.o.b (λb E h=>hkW.b b E (by have:=HF.o b h;omega));obtain⟨P,m,D,h,dW⟩:=hdW.a;have v:=hid dW;have HKW:=hid hkW
 have C:W.drew.cell? ⟨db,3,J⟩=O (.map (O P))/\W.drew.cell? ⟨w.1.size,0,J⟩=O (I Q A)/\W.drew.cell? ⟨w.1.size,1,J⟩=O (I Q y)/\W.drew.cell? ⟨w.1.size,2,J⟩=O (I Q (T:Int))/\W.drew.cell? ⟨w.1.size,3,J⟩=O (Z s):=
  ⟨dW.t,by show W.cell? _=_;simp[World.cell?,hWb],by show W.cell? _=_;simp[World.cell?,hWb],by show W.cell? _=_;simp[World.cell?,hWb],by show W.cell? _=_;simp[World.cell?,hWb]⟩
 have HL:H (∀V,V.ownsMap prog 3 cB P m D->(Instr.lookup 216 (.map (O P)) (I Q (k:Int)) false).run prog V=.ok (h k) V):=λV hV=>Kr hV hk9 (v.o.l k hl);have HU:H (B W.1.size W (W.alloc (Δ #[I Q A,I Q y,I Q (T:Int),Z s] 156)).drew):=((aj _ W).l nl _).drew;have hS1:(W.alloc (Δ #[I Q A,I Q y,I Q (T:Int),Z s] 156)).drew.cell? ⟨db,3,J⟩=O (.map (O P))/\(W.alloc (Δ #[I Q A,I Q y,I Q (T:Int),Z s] 156)).drew.cell? ⟨w.1.size,0,J⟩=O (I Q A)/\(W.alloc (Δ #[I Q A,I Q y,I Q (T:Int),Z s] 156)).drew.cell? ⟨w.1.size,1,J⟩=O (I Q y)/\(W.alloc (Δ #[I Q A,I Q y,I Q (T:Int),Z s] 156)).drew.cell? ⟨w.1.size,2,J⟩=O (I Q (T:Int))/\(W.alloc (Δ #[I Q A,I Q y,I Q (T:Int),Z s] 156)).drew.cell? ⟨w.1.size,3,J⟩=O (Z s):=by obtain⟨s1,s2,s3,s4,s5⟩:=C;have hd:=dW.o;exact⟨(HU.o.cell hd).trans s1,(HU.o.cell (by show w.1.size<_;omega)).trans s2,(HU.o.cell (by show w.1.size<_;omega)).trans s3,(HU.o.cell (by show w.1.size<_;omega)).trans s4,(HU.o.cell (by show w.1.size<_;omega)).trans s5⟩
 have HROW:H ((W.alloc (Δ #[I Q A,I Q y,I Q (T:Int),Z s] 156)).drew.ownsRow 0 156 4 (h k) (aR size all k).length (bL (aR size all k))):=aS (dW.a k hl) (λb E=>HU.o.block b (aU (dW.a k hl) E));have HMAP:H ((W.alloc (Δ #[I Q A,I Q y,I Q (T:Int),Z s] 156)).drew.ownsMap prog 3 cB P m D):=(dW.f.alloc _).drew
 have HNEW:H (∀j u,([I Q A,I Q y,I Q (T:Int),Z s]:List Value)[j]?=O u->(W.alloc (Δ #[I Q A,I Q y,I Q (T:Int),Z s] 156)).drew.cell? ((⟨W.1.size,0,J⟩:Addr).add j)=O u):=by
  intro j u hj;rw[dD];show (W.alloc _).cell? _=_
  match j,hj with
 |0,hj=>simp at hj;subst hj;simp
 |1,hj=>simp at hj;subst hj;simp
 |2,hj=>simp at hj;subst hj;simp
 |3,hj=>simp at hj;subst hj;simp
 have hgl:(aR size all k).length<=100000:=aP (tM _ _ _) hal;have HML:H ((aR size all k).length+1<=maxLen):=by show _<=_;unfold maxLen;omega
 have HBY:H (((aR size all k).length+1)*40<=140737488355328):=by show _<=_;omega
 have HMM:H (m<maxLen):=by show _<_;have:=dW.m;unfold maxLen;omega
 have HOLD:H (∀V,(W.alloc (Δ #[I Q A,I Q y,I Q (T:Int),Z s] 156)).drew.grownBy V (h k).ownBlock->∀b,b=db\/b=w.1.size->V.1[b]?=(W.alloc (Δ #[I Q A,I Q y,I Q (T:Int),Z s] 156)).drew.1[b]?):=by
  intro V hV b E;refine hV.block b ?_ (λe=>?_)
  ·have:=HU.o.size;have:=v.o.o;rcases E with rfl|rfl<;>omega
  rcases E with rfl|rfl
  ·exact(v.o.i hl e.symm).1 rfl
  have:=HF.o _ (v.o.d k _ hl e.symm);omega
 refine fG (S:=λV=>V.cell? ⟨db,3,J⟩=O (.map (O P))/\V.cell? ⟨w.1.size,0,J⟩=O (I Q A)/\V.cell? ⟨w.1.size,1,J⟩=O (I Q y)/\V.cell? ⟨w.1.size,2,J⟩=O (I Q (T:Int))/\V.cell? ⟨w.1.size,3,J⟩=O (Z s)) kr C (λ_=>?_);refine ar 0 27 (Y (O ⟨db,0,J⟩)) C ?_;refine ar 1 28 (Y (O ⟨db,0,J⟩)) C ?_;refine ar 2 29 (Y (O ⟨db,3,J⟩)) C ?_;refine aF 3 30 (.map (O P)) rfl rfl kr (λ_ _ _ h=>h) (af ⟨by rfl,λwx hS=>by (try dsimp only at hS);obtain⟨s3,b0,b1,b2,b3⟩:=hS;go_simp⟩) C ?_;simp only[Act.put,az,aA,aB];refine ar 4 31 (I Q (k:Int)) C ?_;refine ar 5 32 (Y (O ⟨db,0,J⟩)) C ?_;refine ar 6 33 (Y (O ⟨db,0,J⟩)) C ?_;refine ar 7 34 (Y (O ⟨db,3,J⟩)) C ?_;refine aF 8 35 (.map (O P)) rfl rfl kr (λ_ _ _ h=>h) (af ⟨by rfl,λwx hS=>by (try dsimp only at hS);obtain⟨s3,b0,b1,b2,b3⟩:=hS;go_simp⟩) C ?_;simp only[Act.put,az,aA,aB];refine ar 9 36 (I Q (k:Int)) C ?_;refine aF 11 38 (.agg #[I Q A,I Q y,I Q (T:Int),Z s]) rfl rfl kr (λ_ _ _ h=>h) (af ⟨by rfl,λwx hS=>by (try dsimp only at hS);obtain⟨s3,b0,b1,b2,b3⟩:=hS;go_simp⟩) C ?_;simp only[Act.put,az,aA,aB];refine a9 (rs:=[10,12]) kr sm ?_;refine aQ rfl (λK X=>?_) (aQ rfl (λK X=>?_) aZ)
 ·have hrun:=HL.o W.drew v.o.f;go_simp;refine X.out _ _ C (λ_=>?_);refine a9 (rs:=[12]) kr sm ?_;refine aQ rfl (λK X=>?_) aZ;go_simp;refine X.out _ _ hS1 (λ_=>?_);refine a9 (rs:=[13]) kr sm ?_;refine aQ rfl (λK X=>?_) aZ;refine iX _ (by rfl) (.tmp 37) (.tmp 39) 122 (by rfl) 0 156 i0 (.agg #[I Q 0,I Q 0,I Q 0,Z ⟨#[]⟩]) 4 40 underlying122 hi hz0 hz1 hz2 rfl om (h k) (aR size all k).length (bL (aR size all k)) (by rfl) HROW.o ⟨W.1.size,0,J⟩ 1 1 [I Q A,I Q y,I Q (T:Int),Z s] (by rfl) rfl HNEW.o (λu hu=>by simp at hu;rcases hu with rfl|rfl|rfl|rfl<;>rfl) om HML.o HBY.o (aX _) _ rfl ?_;intro g cap V hown p hat hlt;have L:∀a:Addr,a.block=db\/a.block=w.1.size->V.cell? a=(W.alloc (Δ #[I Q A,I Q y,I Q (T:Int),Z s] 156)).drew.cell? a:=λa ha=>bW (HOLD.o V p a.block ha);have hSV:V.cell? ⟨db,3,J⟩=O (.map (O P))/\V.cell? ⟨w.1.size,0,J⟩=O (I Q A)/\V.cell? ⟨w.1.size,1,J⟩=O (I Q y)/\V.cell? ⟨w.1.size,2,J⟩=O (I Q (T:Int))/\V.cell? ⟨w.1.size,3,J⟩=O (Z s):=by obtain⟨s1,s2,s3,s4,s5⟩:=hS1;exact⟨(L _ (af rfl)).trans s1,(L _ (ah rfl)).trans s2,(L _ (ah rfl)).trans s3,(L _ (ah rfl)).trans s4,(L _ (ah rfl)).trans s5⟩
  have hmV:=HMAP.o.kept p (λe=>(v.o.i hl e.symm).2 rfl);refine X.out _ _ hSV (λ_=>?_);change wpAnyH _ _ _ _ _ _ _ (Act.put _ (O 40) _) _;simp only[Act.put,az,aA,aB];obtain⟨U,hrun4,hm4,z⟩:=hmV.update (val:=M (O ⟨g,0,J⟩) ((aR size all k).length+1) cap) (d:=.held (M (O ⟨g,0,J⟩) ((aR size all k).length+1) cap)) (ps:=[]) gX underlying216 HMM.o (keyOf_int_mk underlying3 (pO (n:=(k:Int)) om)) rfl;refine a9 (rs:=[14]) kr sm ?_;refine aQ rfl (λK X=>?_) aZ;go_simp;have hS4:U.cell? ⟨db,3,J⟩=O (.map (O P))/\U.cell? ⟨w.1.size,0,J⟩=O (I Q A)/\U.cell? ⟨w.1.size,1,J⟩=O (I Q y)/\U.cell? ⟨w.1.size,2,J⟩=O (I Q (T:Int))/\U.cell? ⟨w.1.size,3,J⟩=O (Z s):=by obtain⟨s1,s2,s3,s4,s5⟩:=hSV;have hn1:O db≠O P:=λe=>v.o.q (by simpa using e.symm);have R:O w.1.size≠O P:=λe=>(by have:=HF.o P v.o.e;simp at e;omega);exact⟨z.cell s1 hn1,z.cell s2 R,z.cell s3 R,z.cell s4 R,z.cell s5 R⟩
  refine X.out _ _ hS4 (λ_=>?_);refine ea kr ?_ _;have HFIN:H (cG U db (jz F w U) size late now (all++[⟨A,y,(T:Int),s⟩]) c/\ax F w U):=by refine⟨⟨P,m+1,_,_,GF (x:=⟨A,y,(T:Int),s⟩) v.o HK.o hl HU.o hown p hat z hm4 om⟩,?_⟩;refine((HKW.o.e (G:=F) (λb E h=>by omega)).d (bH HU.o F) (λ_ _ h=>h)).a ((eV p (λb E=>v.o.d k b hl E)).a (eV z (λb E=>by simp at E;exact E ▸ v.o.e)))
  go_wp2;go_ret;exact⟨rfl,HFIN.o⟩
 go_simp;refine X.out _ _ hS1 (λ_=>?_);refine a9 (rs:=[10]) kr sm ?_;refine aQ rfl (λK X=>?_) aZ;have hrun:=HL.o _ HMAP.o;go_simp;refine X.out _ _ hS1 (λ_=>?_);refine a9 (rs:=[13]) kr sm ?_;refine aQ rfl (λK X=>?_) aZ;refine iX _ (by rfl) (.tmp 37) (.tmp 39) 122 (by rfl) 0 156 i0 (.agg #[I Q 0,I Q 0,I Q 0,Z ⟨#[]⟩]) 4 40 underlying122 hi hz0 hz1 hz2 rfl om (h k) (aR size all k).length (bL (aR size all k)) (by rfl) HROW.o ⟨W.1.size,0,J⟩ 1 1 [I Q A,I Q y,I Q (T:Int),Z s] (by rfl) rfl HNEW.o (λu hu=>by simp at hu;rcases hu with rfl|rfl|rfl|rfl<;>rfl) om HML.o HBY.o (aX _) _ rfl ?_;intro g cap V hown p hat hlt;have L:∀a:Addr,a.block=db\/a.block=w.1.size->V.cell? a=(W.alloc (Δ #[I Q A,I Q y,I Q (T:Int),Z s] 156)).drew.cell? a:=λa ha=>bW (HOLD.o V p a.block ha);have hSV:V.cell? ⟨db,3,J⟩=O (.map (O P))/\V.cell? ⟨w.1.size,0,J⟩=O (I Q A)/\V.cell? ⟨w.1.size,1,J⟩=O (I Q y)/\V.cell? ⟨w.1.size,2,J⟩=O (I Q (T:Int))/\V.cell? ⟨w.1.size,3,J⟩=O (Z s):=by obtain⟨s1,s2,s3,s4,s5⟩:=hS1;exact⟨(L _ (af rfl)).trans s1,(L _ (ah rfl)).trans s2,(L _ (ah rfl)).trans s3,(L _ (ah rfl)).trans s4,(L _ (ah rfl)).trans s5⟩
 have hmV:=HMAP.o.kept p (λe=>(v.o.i hl e.symm).2 rfl);refine X.out _ _ hSV (λ_=>?_);change wpAnyH _ _ _ _ _ _ _ (Act.put _ (O 40) _) _;simp only[Act.put,az,aA,aB];obtain⟨U,hrun4,hm4,z⟩:=hmV.update (val:=M (O ⟨g,0,J⟩) ((aR size all k).length+1) cap) (d:=.held (M (O ⟨g,0,J⟩) ((aR size all k).length+1) cap)) (ps:=[]) gX underlying216 HMM.o (keyOf_int_mk underlying3 (pO (n:=(k:Int)) om)) rfl;refine a9 (rs:=[14]) kr sm ?_;refine aQ rfl (λK X=>?_) aZ;go_simp;have hS4:U.cell? ⟨db,3,J⟩=O (.map (O P))/\U.cell? ⟨w.1.size,0,J⟩=O (I Q A)/\U.cell? ⟨w.1.size,1,J⟩=O (I Q y)/\U.cell? ⟨w.1.size,2,J⟩=O (I Q (T:Int))/\U.cell? ⟨w.1.size,3,J⟩=O (Z s):=by obtain⟨s1,s2,s3,s4,s5⟩:=hSV;have hn1:O db≠O P:=λe=>v.o.q (by simpa using e.symm);have R:O w.1.size≠O P:=λe=>(by have:=HF.o P v.o.e;simp at e;omega);exact⟨z.cell s1 hn1,z.cell s2 R,z.cell s3 R,z.cell s4 R,z.cell s5 R⟩
 refine X.out _ _ hS4 (λ_=>?_);refine ea kr ?_ _;have HFIN:H (cG U db (jz F w U) size late now (all++[⟨A,y,(T:Int),s⟩]) c/\ax F w U):=by refine⟨⟨P,m+1,_,_,GF (x:=⟨A,y,(T:Int),s⟩) v.o HK.o hl HU.o hown p hat z hm4 om⟩,?_⟩;refine((HKW.o.e (G:=F) (λb E h=>by omega)).d (bH HU.o F) (λ_ _ h=>h)).a ((eV p (λb E=>v.o.d k b hl E)).a (eV z (λb E=>by simp at E;exact E ▸ v.o.e)))
 go_wp2;go_ret;exact⟨rfl,HFIN.o⟩
theorem Qh(x:ai)(d:cG w db F size late now all (bD size late now))(k:0<size)(n:size<=50)(o:late<=50)(l:now<=1000)(j:all.length<=100000)(p:∀b,F b->b<w.1.size)(q:x.a.size<=maxLen):
  Φ prog 227 #[Y (O ⟨db,0,J⟩),.agg #[I Q x.c,I Q x.b,I Q x.d,Z x.a]] w λe f=>e=N (v8 (ey size late now x))/\cG f db (jz F w f) size late now (if ey size late now x=0 then all++[x] else all) (bD size late now)/\ax F w f:=by
 cases hx:eY now x with
 |false=>
  have e:ey size late now x=1:=by simp[ey,hx]
  rw[e];refine(Qi x d hx q).m ?_;rintro e f ⟨rfl,g⟩;exact⟨rfl,(d.c g).d (λb _ h=>af h),bH g F⟩
 |true=>
  by_cases i:bR size x<bD size late now
  ·have e:ey size late now x=6:=(by simp[ey,hx,i]);rw[e];refine(Oh x d k n o l hx i).m ?_;rintro e f ⟨rfl,g⟩;exact⟨rfl,(d.c g).d (λb _ h=>af h),bH g F⟩
  have e:ey size late now x=0:=(by simp[ey,hx,i]);rw[e];exact RD x d k n o l j p hx om
end
end
section
open Go.RowKit Go.Maps
theorem RF(c:aE)(s:ay)(p:fO)(n:Nat)(j:Nat)(a:j<39):dO c { s with n:=n } p j=if j=35 then I Q (n:Int) else dO c s p j:=by
 by_cases h:j<28
 ·rw[ag om];unfold dO;rw[ak h,ak h]
 obtain⟨m,rfl⟩:∃m,j=m+28:=⟨j-28,om⟩
 match m,a with
 |0,_=>rfl
 |1,_=>rfl
 |2,_=>rfl
 |3,_=>rfl
 |4,_=>rfl
 |5,_=>rfl
 |6,_=>rfl
 |7,_=>rfl
 |8,_=>rfl
 |9,_=>rfl
 |10,_=>rfl
 |m+11,h=>exact absurd h om
theorem Ql(c:aE)(s:ay)(p:fO)(n:Nat)(j:Nat)(a:j<39):dO c { s with p:=n } p j=if j=36 then I Q (n:Int) else dO c s p j:=by
 by_cases h:j<28
 ·rw[ag om];unfold dO;rw[ak h,ak h]
 obtain⟨m,rfl⟩:∃m,j=m+28:=⟨j-28,om⟩
 match m,a with
 |0,_=>rfl
 |1,_=>rfl
 |2,_=>rfl
 |3,_=>rfl
 |4,_=>rfl
 |5,_=>rfl
 |6,_=>rfl
 |7,_=>rfl
 |8,_=>rfl
 |9,_=>rfl
 |10,_=>rfl
 |m+11,h=>exact absurd h om
theorem Qk(c:aE)(s:ay)(p:fO)(n:Nat)(j:Nat)(a:j<39):dO c { s with l:=n } p j=if j=37 then I Q (n:Int) else dO c s p j:=by
 by_cases h:j<28
 ·rw[ag om];unfold dO;rw[ak h,ak h]
 obtain⟨m,rfl⟩:∃m,j=m+28:=⟨j-28,om⟩
 match m,a with
 |0,_=>rfl
 |1,_=>rfl
 |2,_=>rfl
 |3,_=>rfl
 |4,_=>rfl
 |5,_=>rfl
 |6,_=>rfl
 |7,_=>rfl
 |8,_=>rfl
 |9,_=>rfl
 |10,_=>rfl
 |m+11,h=>exact absurd h om
theorem Qj(c:aE)(s:ay)(p:fO)(n:Nat)(j:Nat)(a:j<39):dO c { s with o:=n } p j=if j=38 then I Q (n:Int) else dO c s p j:=by
 by_cases h:j<28
 ·rw[ag om];unfold dO;rw[ak h,ak h]
 obtain⟨m,rfl⟩:∃m,j=m+28:=⟨j-28,om⟩
 match m,a with
 |0,_=>rfl
 |1,_=>rfl
 |2,_=>rfl
 |3,_=>rfl
 |4,_=>rfl
 |5,_=>rfl
 |6,_=>rfl
 |7,_=>rfl
 |8,_=>rfl
 |9,_=>rfl
 |10,_=>rfl
 |m+11,h=>exact absurd h om
theorem SO(c:aE)(s:ay)(p:fO)(v:Value)(j:Nat)(a:j<39):dO c s { p with b:=v } j=if j=33 then v else dO c s p j:=by
 by_cases h:j<28
 ·rw[ag om];unfold dO;rw[ak h,ak h]
 obtain⟨m,rfl⟩:∃m,j=m+28:=⟨j-28,om⟩
 match m,a with
 |0,_=>rfl
 |1,_=>rfl
 |2,_=>rfl
 |3,_=>rfl
 |4,_=>rfl
 |5,_=>rfl
 |6,_=>rfl
 |7,_=>rfl
 |8,_=>rfl
 |9,_=>rfl
 |10,_=>rfl
 |m+11,h=>exact absurd h om
theorem Qm(c:aE)(s:ay)(p:fO){r:Nat}(e:r<4)(n:Int)(j:Nat):dO c { s with q:=fT s.q r n } p j=if j=r*7+6 then I Q n else dO c s p j:=by
 unfold dO;by_cases a:j<28
 ·rw[ak a,ak a];by_cases d:j=r*7+6
  ·rw[ak d,ag om,ag om,ak om,show j/7=r by omega];simp only[vx]
  rw[ag d];by_cases b:j%7=6
  ·rw[ag om,ag om,ak b,ag om,ag om,ak b];simp only;rw[zJ _ _ om]
  rw[ag b,ag b]
 rw[ag a,ag a,ag om]
structure gl (w w':Ω) (wb:Nat) (ow:Nat->Nat) (c:aE) (rs:List aq) (s:ay) (k:Nat):Prop where
 a:∃ow',dx w' wb ow' c rs s k/\cD w w' ow ow'
section
variable {w w':Ω}{wb:Nat}{ow:Nat->Nat}{c:aE}{rs:List aq}{s s':ay}{k:Nat}{p:fO}
theorem xU(h:s'.a=s.a)(k:Nat):aC c s' k=aC c s k:=by unfold aC;rw[h]
theorem Ku(h:s'.a=s.a)(k:Nat):bM c rs s' k=bM c rs s k:=Ch c rs s' s k (λj _=>xU h j)
theorem F5(h:dY w wb ow c rs s k p)(L:w.1.size<=w'.1.size)(U:∀b,b<w.1.size->ow b≠0->b≠wb->w'.1[b]?=w.1[b]?)
  (i:w'.1[wb]?=O (Δ (im c s' p) 190))(x:s'.a=s.a)(E:s'.b=s.b)(V:s'.d<=20000):dY w' wb ow c rs s' k p:=by
 have S:∀j,aC c s' j=aC c s j:=λj=>xU x j;have T:bM c rs s' k=bM c rs s k:=Ku x k;have A:∀b n,ow b=n->n≠0->n≠1->ow b≠0/\b≠wb:=λb n i D t=>⟨by rw[i];exact D,λe=>by rw[e,h.d]at i;exact t i.symm⟩;have r:∀b n,b<w.1.size->ow b=n->n≠0->n≠1->w'.1[b]?=w.1[b]?:=λb n R i D t=>U b R (A b n i D t).1 (A b n i D t).2;refine⟨i,h.d,λb i=>bg (h.a b i) L,?_,h.l,?_,?_,?_,?_,h.o,?_,h.n,?_,h.g,h.y,?_,?_,?_,?_,V⟩
 ·rw[x];exact h.e.a (r _ 2 h.e.b h.l dc dc)
 ·rw[x,E];exact h.ζ.b (λb i C=>r b 3 i C dc dc)
 ·obtain⟨K,t,G⟩:=h.δ;rw[S];exact⟨K,t.b L (λb i P=>r b 4 i (G b P) dc dc),G⟩
 ·obtain⟨F,f,t,G,C⟩:=h.γ;rw[S];exact⟨F,f,t.a L (λb i P=>r b 5 i (C b P) dc dc),G,C⟩
 ·exact aS h.q (λb i=>r b 6 (aU h.q i) (h.o b i) dc dc)
 ·rw[T];exact aS h.m (λb i=>r b 7 (aU h.m i) (h.n b i) dc dc)
 ·rw[T];exact h.ε
 ·rw[E];exact h.h
 ·rw[E];exact h.u
 ·rw[x];exact h.v
 rw[x,E];exact h.z
theorem Oj(h:dY w wb ow c rs s k p){i:Nat}{v:Value}(f:∀j,j<39->dO c s' p j=if j=i then v else dO c s p j)(m:s'.a=s.a)(g:s'.b=s.b)(l:s'.d<=20000):dY (w.setCell ⟨wb,i,J⟩ v) wb ow c rs s' k p:=
 F5 h (by simp[World.setCell]) (λb _ _ e=>bN _ _ _ _ e) (h.π f) m g l
theorem gl.b(h:dY w wb ow c rs s k p){i:Nat}{v:Value}(e:∀j,j<39->dO c s' p j=if j=i then v else dO c s p j)(l:s'.a=s.a)(f:s'.b=s.b)(g:s'.d<=20000):gl w (w.setCell ⟨wb,i,J⟩ v) wb ow c rs s' k:=
 ⟨ow,⟨p,Oj h e l f g⟩,⟨ko _ _ _ (by show ow wb≠0;rw[h.d];decide),λ_ h=>af h⟩⟩
theorem gl.d{f:Ω}(j:B f.1.size f w)(h:gl w w' wb ow c rs s k):gl f w' wb ow c rs s k:=by obtain⟨b,g,i⟩:=h.a;exact⟨b,g,(cD.e j ow).d i⟩
theorem gl.e{g:Ω}{f:Nat->Nat}(i:cD g w f ow)(h:gl w w' wb ow c rs s k):gl g w' wb f c rs s k:=by obtain⟨b,j,l⟩:=h.a;exact⟨b,j,i.d l⟩
def dA(ow:Nat->Nat)(w w':Ω)(l:Nat)(b:Nat):Nat:=if w.1.size<=b/\b<w'.1.size then l else ow b
theorem rm{l b:Nat}(h:b<w.1.size):dA ow w w' l b=ow b:=by unfold dA;rw[ag om]
theorem rj(a:∀b,ow b≠0->b<w.1.size)(c:w.1.size<=w'.1.size){l b:Nat}(h:dA ow w w' l b≠0):b<w'.1.size:=by
 unfold dA at h;split at h
 ·omega
 exact bg (a b h) c
theorem Ak{l b:Nat}(h:dA ow w w' l b≠0):ow b≠0\/w.1.size<=b:=by
 unfold dA at h;split at h
 ·rename_i h1;exact ah h1.1
 exact af h
theorem Oi(h:dY w wb ow c rs s k p)(x:ai)(G:ax (λb=>ow b=3\/b=p.a) w w')
  (hd:cG w' p.e (λb=>ow b=3\/(w.1.size<=b/\b<w'.1.size)) c.b c.e s.b (s.a++[x]) (bD c.b c.e s.b))(T:nP w' p.a (bJ (s.a++[x])))
  (hx:eY s.b x=true/\0<aD x.a)(hk:k<=bR c.b x)(X:(bJ (s.a++[x])).length<=12)(hu:s.d+1<=20000):
  dY w' wb (dA ow w w' 3) c rs { s with a:=s.a++[x] } k p:=by
 have U:∀j,j<=k->aC c { s with a:=s.a++[x] } j=aC c s j:=λj hj=>Cg c s x j om;have W:bM c rs { s with a:=s.a++[x] } k=bM c rs s k:=Ch c rs _ s k U
 have v:∀b n,b<w.1.size->ow b=n->n≠0->n≠2->n≠3->w'.1[b]?=w.1[b]?:=λb n A i L E K=>G.b b A (λr=>by
  rcases r with r|r
  ·rw[i]at r;exact K r
  ·rw[r,h.l]at i;exact E i.symm)
 have A:∀b n,ow b=n->n≠0->b<w.1.size:=λb n i L=>h.a b (by rw[i];exact L);have C:∀b n,ow b=n->n≠0->dA ow w w' 3 b=n:=λb n i L=>by rw[rm (A b n i L)];exact i
 have R:=G.c;refine⟨?_,C _ _ h.d dc,λb i=>rj h.a R i,T,C _ _ h.l dc,?_,?_,?_,?_,λb i=>C b 6 (h.o b i) dc,?_,λb i=>C b 7 (h.n b i) dc,?_,h.g,h.y,h.h,h.u,X,?_,?_⟩
 ·have e:im c { s with a:=s.a++[x] } p=im c s p:=rfl;rw[v wb 1 (A wb 1 h.d dc) h.d dc dc dc,e];exact h.t
 ·refine hd.d (λb i r=>?_);rcases r with r|r
  ·exact C b 3 r dc
  unfold dA;rw[ak r]
 ·obtain⟨P,V,E⟩:=h.δ;rw[U k nl];exact⟨P,V.b R (λb i S=>v b 4 i (E b S) dc dc dc),λb i=>C b 4 (E b i) dc⟩
 ·obtain⟨F,f,V,E,K⟩:=h.γ;rw[U k nl];exact⟨F,f,V.a R (λb i S=>v b 5 i (K b S) dc dc dc),E,λb i=>C b 5 (K b i) dc⟩
 ·exact aS h.q (λb i=>v b 6 (aU h.q i) (h.o b i) dc dc dc)
 ·rw[W];exact aS h.m (λb i=>v b 7 (aU h.m i) (h.n b i) dc dc dc)
 ·rw[W];exact h.ε
 ·intro y D;rcases dP.1 D with D|D
  ·exact h.z y D
  simp at D;rw[D];exact hx
 refine aP (Nat.le_of_eq ?_) hu;unfold ay.d ay.m;simp;omega
theorem Ks(h:dY w wb ow c rs s k p)(D:ax (λb=>ow b=3) w w')
  (T:cG w' p.e (λb=>ow b=3\/(w.1.size<=b/\b<w'.1.size)) c.b c.e s.b s.a (bD c.b c.e s.b)):dY w' wb (dA ow w w' 3) c rs s k p:=by
 have r:∀b n,b<w.1.size->ow b=n->n≠0->n≠3->w'.1[b]?=w.1[b]?:=λb n x j E G=>D.b b x (λA=>by rw[j]at A;exact G A);have x:∀b n,ow b=n->n≠0->b<w.1.size:=λb n j E=>h.a b (by rw[j];exact E);have C:∀b n,ow b=n->n≠0->dA ow w w' 3 b=n:=λb n j E=>by rw[rm (x b n j E)];exact j
 have P:=D.c;refine⟨?_,C _ _ h.d dc,λb j=>rj h.a P j,h.e.a (r _ 2 h.e.b h.l dc dc),C _ _ h.l dc,?_,?_,?_,?_,λb j=>C b 6 (h.o b j) dc,?_,λb j=>C b 7 (h.n b j) dc,h.ε,h.g,h.y,h.h,h.u,h.v,h.z,h.i⟩
 ·rw[r wb 1 (x wb 1 h.d dc) h.d dc dc];exact h.t
 ·refine T.d (λb j A=>?_);rcases A with A|A
  ·exact C b 3 A dc
  unfold dA;rw[ak A]
 ·obtain⟨L,S,K⟩:=h.δ;exact⟨L,S.b P (λb j R=>r b 4 j (K b R) dc dc),λb j=>C b 4 (K b j) dc⟩
 ·obtain⟨F,f,S,K,G⟩:=h.γ;exact⟨F,f,S.a P (λb j R=>r b 5 j (G b R) dc dc),K,λb j=>C b 5 (G b j) dc⟩
 ·exact aS h.q (λb j=>r b 6 (aU h.q j) (h.o b j) dc dc)
 exact aS h.m (λb j=>r b 7 (aU h.m j) (h.n b j) dc dc)
theorem tO{F:Nat->Prop}{l:Nat}(a:ax F w w')(d:∀b,F b->ow b≠0):cD w w' ow (dA ow w w' l):=
 ⟨a.e (λb _ c=>d b c),λ_ c=>Ak c⟩
end
end
section
open Go.RowKit Go.Maps
theorem Cl:∀a b:List UInt8,Op.bytesLess a b=decide (Lib.compareBytes a b<0)
 |[],[]=>by simp[Op.bytesLess,Lib.compareBytes]
 |[],_::_=>by simp[Op.bytesLess,Lib.compareBytes]
 |_::_,[]=>by simp[Op.bytesLess,Lib.compareBytes]
 |a::x,b::y=>by
  have g:=Cl x y;unfold Op.bytesLess Lib.compareBytes;by_cases d:a<b
  ·simp[d]
  by_cases f:b<a
  ·have c:¬a=b:=λe=>UInt8.lt_irrefl b (e ▸ f);simp[d,f,c]
  have c:a=b:=UInt8.le_antisymm (UInt8.not_lt.1 f) (UInt8.not_lt.1 d);simp[c,g,UInt8.lt_irrefl]
theorem RG{x y:ai}(h:¬x.a.1.toList=y.a.1.toList):fg x y=Op.bytesLess x.a.1.toList y.a.1.toList:=by have b:Lib.compareBytes x.a.1.toList y.a.1.toList≠0:=λe=>h (CT e);rw[Cl];unfold fg oI nM;simp only[ak b]
theorem A9(a b:Int):decide (Lib.compareInt a b<0)=decide (a<b):=by
 unfold Lib.compareInt;by_cases h:a<b
 ·simp[h]
 by_cases c:a>b<;>simp[h,c]
theorem F7{a b:Int}(h:a≠b):Lib.compareInt a b≠0:=λe=>h (xq e)
theorem F6(a:Int):Lib.compareInt a a=0:=by simp[Lib.compareInt]
theorem Am(a:List UInt8):Lib.compareBytes a a=0:=by have:=w9 a a;omega
theorem Qn{x y:ai}(h:x.a.1.toList=y.a.1.toList)(b:x.d≠y.d):fg x y=decide (x.d<y.d):=by rw[<-A9];unfold fg oI nM;simp only[h,Am,ne_eq,not_true_eq_false,fL,F7 b,not_false_eq_true,iP]
theorem Ol{x y:ai}(h:x.a.1.toList=y.a.1.toList)(e:x.d=y.d)(b:x.c≠y.c):fg x y=decide (x.c<y.c):=by rw[<-A9];unfold fg oI nM;simp only[h,e,Am,F6,ne_eq,not_true_eq_false,fL,F7 b,not_false_eq_true,iP]
theorem Jr{x y:ai}(h:x.a.1.toList=y.a.1.toList)(f:x.d=y.d)(e:x.c=y.c):fg x y=decide (x.b<y.b):=by rw[<-A9];unfold fg oI nM;simp only[h,f,e,Am,F6,ne_eq,not_true_eq_false,fL]
theorem DJ(x y:ai)(w:Ω):
  Φ prog 116 #[.agg #[I Q x.c,I Q x.b,I Q x.d,Z x.a],.agg #[I Q y.c,I Q y.b,I Q y.d,Z y.a]] w λe j=>e=N (.bool (fg x y))/\B w.1.size w j:=by
 have f:H (∀o h,B w.1.size w ((w.alloc o).alloc h)):=λo h=>((aj _ w).l nl o).l sm h;obtain⟨R,i⟩:∃R,R=fg x y:=⟨_,rfl⟩;have g:H (R=fg x y):=i;rw[<-i];clear i;obtain⟨k,n,r,q⟩:=x;obtain⟨t,s,m,p⟩:=y;go_enter func116,ntmps116;go_wp2
 ·rename_i h1;go_ret;refine⟨?_,f.o _ _⟩;rw[g.o,RG (by simpa [cY] using h1)];simp[cY]
 ·rename_i h1 _ _ h2;go_ret;refine⟨?_,f.o _ _⟩;rw[g.o,Qn (by simpa [cY] using h1) (by simpa using h2)];rfl
 ·rename_i h1 h2 _ _ h3;go_ret;refine⟨?_,f.o _ _⟩;rw[g.o,Ol (by simpa [cY] using h1) (by simpa using h2) (by simpa using h3)];rfl
 rename_i h1 h2 h3;go_ret;refine⟨?_,f.o _ _⟩;rw[g.o,Jr (by simpa [cY] using h1) (by simpa using h2) (by simpa using h3)];rfl
end
section
open Go.RowKit Go.Maps
theorem Ba{n a b:Int}(h:eD n a b=false):decide (n<a)=true\/(decide (n<a)=false/\decide (b<n)=true):=by simp[eD]at h⊢;omega
theorem AL{n b a:Int}(h:eD n b a=true):decide (n<b)=false/\decide (a<n)=false:=by simp[eD]at h⊢;omega
theorem Qo(e:Nat)(x:ai):eY e x=(eD x.c 0 7&&eD x.b 0 255&&eD x.d 0 e&&decide (x.a.size=8)):=rfl
def Br(now:Nat)(x:ai):Prop:=
 decide (x.c<0)=true
 \/ (decide (x.c<0)=false/\decide (7<x.c)=true)
 \/ (decide (x.c<0)=false/\decide (7<x.c)=false/\decide (x.b<0)=true)
 \/ (decide (x.c<0)=false/\decide (7<x.c)=false/\decide (x.b<0)=false/\decide (255<x.b)=true)
 \/ (decide (x.c<0)=false/\decide (7<x.c)=false/\decide (x.b<0)=false/\decide (255<x.b)=false/\decide (x.d<0)=true)
 \/ (decide (x.c<0)=false/\decide (7<x.c)=false/\decide (x.b<0)=false/\decide (255<x.b)=false/\decide (x.d<0)=false/\decide ((now:Int)<x.d)=true)
 \/ (decide (x.c<0)=false/\decide (7<x.c)=false/\decide (x.b<0)=false/\decide (255<x.b)=false/\decide (x.d<0)=false/\decide ((now:Int)<x.d)=false/\((x.a.size:Int) != 8)=true)
theorem GG{a:Nat}{x:ai}(h:eY a x=false):Br a x:=by
  rw[Qo]at h;cases h1:eD x.c 0 7 with
 |false=>
   rcases Ba h1 with h|⟨h,h'⟩
   ·exact af h
   exact ah (af ⟨h,h'⟩)
 |true=>
   obtain⟨e,f⟩:=AL h1;cases h2:eD x.b 0 255 with
  |false=>
    rcases Ba h2 with h|⟨h,h'⟩
    ·exact ah (ah (af ⟨e,f,h⟩))
    exact ah (ah (ah (af ⟨e,f,h,h'⟩)))
  |true=>
    obtain⟨g,i⟩:=AL h2;cases h3:eD x.d 0 a with
   |false=>
     rcases Ba h3 with h|⟨h,h'⟩
     ·exact ah (ah (ah (ah (af ⟨e,f,g,i,h⟩))))
     exact ah (ah (ah (ah (ah (af ⟨e,f,g,i,h,h'⟩)))))
   |true=>
     obtain⟨k,j⟩:=AL h3;refine ah (ah (ah (ah (ah (ah ⟨e,f,g,i,k,j,?_⟩)))));simp[h1,h2,h3]at h;simp;omega
theorem xV{i:Nat}{x:ai}(h:eY i x=true):decide (x.c<0)=false/\decide (7<x.c)=false/\decide (x.b<0)=false/\decide (255<x.b)=false/\decide (x.d<0)=false/\decide ((i:Int)<x.d)=false/\((x.a.size:Int) != 8)=false:=by have g:=mf.1 h;have:=g.d;have:=g.e;have:=g.f;have:=g.h;have:=g.b;have:=g.c;have:=g.a;simp;omega
end
section
open Go.RowKit Go.Maps
theorem F8:(prog.info? 203).map (λi=>(i.zero,i.size,i.bytes))=O (O (.agg #[I Q 0,I Q 0,I Q 0,Z ⟨#[]⟩,I Q 0]),5,48):=kr
end
section
open Go.RowKit Go.Maps
structure wd (w:Ω) (b o:Nat) (x:ai) (k:Nat):Prop where
 a:w.cell? ⟨b,o,J⟩=O (I Q x.c)
 c:w.cell? ⟨b,o+1,J⟩=O (I Q x.b)
 d:w.cell? ⟨b,o+1+1,J⟩=O (I Q x.d)
 e:w.cell? ⟨b,o+1+1+1,J⟩=O (Z x.a)
 f:w.cell? ⟨b,o+4,J⟩=O (I Q (k:Int))
theorem wd.g{w w':Ω}{b o:Nat}{x:ai}{k:Nat}(h:wd w b o x k)(e:w'.1[b]?=w.1[b]?):wd w' b o x k where
 a:=by rw[bW (w:=w) e];exact h.a
 c:=by rw[bW (w:=w) e];exact h.c
 d:=by rw[bW (w:=w) e];exact h.d
 e:=by rw[bW (w:=w) e];exact h.e
 f:=by rw[bW (w:=w) e];exact h.f
theorem Ga{V:Ω}{v:Value}{a:Nat}{xs:List ai}(h:V.ownsRow 0 203 5 v xs.length (jW a xs)):∃p c,v=M p xs.length c/\(xs≠[]->∃b,p=O ⟨b,0,J⟩/\b<V.1.size/\∀k x,xs[k]?=O x->wd V b (k*5) x (bR a x)):=by
 by_cases e:xs=[]
 ·subst e;rcases h.2 with ⟨rfl,h0⟩|⟨g,c,cur,hv,_⟩
  ·exact⟨J,0,rfl,λh=>absurd rfl h⟩
  exact⟨_,c,hv,λh=>absurd rfl h⟩
 obtain⟨g,c,rfl,n,i⟩:=h.form (jl.2 e);refine⟨_,c,rfl,λ_=>⟨g,rfl,i,λk x l=>?_⟩⟩;have d:∀j u,j<5->(sX a x)[j]?=O u->V.cell? ⟨g,k*5+j,J⟩=O u:=by intro j u m f;have:=h.cells (g:=g) rfl (k*5+j) u (by rw[Fh a xs k j x l m];exact f);rw[dD]at this;exact this
 exact⟨d 0 _ om rfl,d 1 _ om rfl,d 2 _ om rfl,d 3 _ om rfl,d 4 _ om rfl⟩
theorem uo{V:Ω}{i g n cap j:Nat}{A f:List ai}{y:ai}(x:ai)(h:V.ownsRow i 156 4 (M (O ⟨g,0,J⟩) n cap) n (bL (A++y::f)))(l:A.length=j):
  ((((V.setCell ⟨g,j*4,J⟩ (I Q x.c)).setCell ⟨g,j*4+1,J⟩ (I Q x.b)).setCell ⟨g,j*4+1+1,J⟩ (I Q x.d)).setCell ⟨g,j*4+1+1+1,J⟩ (Z x.a)).ownsRow i 156 4 (M (O ⟨g,0,J⟩) n cap) n (bL (A++x::f)):=by
 have k:=((((h.stored (j*4) (I Q x.c)).1.stored (j*4+1) (I Q x.b)).1.stored (j*4+1+1) (I Q x.d)).1.stored (j*4+1+1+1) (Z x.a)).1
 have e:((((bL (A++y::f)).set (j*4) (I Q x.c)).set (j*4+1) (I Q x.b)).set (j*4+1+1) (I Q x.d)).set (j*4+1+1+1) (Z x.a)=bL (A++x::f):=by
  have m:(bL A).length=j*4:=by rw[qg,l]
  rw[Cn,Cn];show (((((bL A++(jg y++bL f)).set _ _).set _ _).set _ _).set _ _)=bL A++(jg x++bL f);rw[List.set_append_right _ _ om,List.set_append_right _ _ om,List.set_append_right _ _ om,List.set_append_right _ _ om,m];rw[show j*4-j*4=0 by omega,show j*4+1-j*4=1 by omega,show j*4+1+1-j*4=2 by omega,show j*4+1+1+1-j*4=3 by omega];rfl
 rw[e]at k;exact k
end
section
open Go.RowKit Go.Maps
end
section
open Go.RowKit Go.Maps
def gZ(X:Array Value)(size late now:Nat)(v:Value):Obj:=Δ ((((X.setIfInBounds 35 (I Q (size:Int))).setIfInBounds 36 (I Q (late:Int))).setIfInBounds 37 (I Q (now:Int))).setIfInBounds 38 v) 53
structure jT (w:Ω) (rb:Nat) (X:Array Value) (v:Value) (F:Nat->Prop) (size late now:Nat) (all:List ai):Prop where
 a:w.1[rb]?=O (gZ X size late now v)
 d:X.size=46
 c:w.ownsRow 0 203 5 v all.length (jW size all)
 g:F rb
 e:∀b,v.ownBlock=O b->F b
structure eP (w:Ω) (rb:Nat) (X:Array Value) (F:Nat->Prop) (size late now:Nat) (all:List ai):Prop where
 a:∃v,jT w rb X v F size late now all
section
variable {w:Ω}{rb:Nat}{X:Array Value}{v:Value}{F:Nat->Prop}{size late now:Nat}{all:List ai}
theorem Bb(a:X.size=46)(h:w.1[rb]?=O (gZ X size late now v)):w.cell? ⟨rb,35,J⟩=O (I Q (size:Int)):=by simp[World.cell?,h,gZ,a]
theorem RI(a:X.size=46)(h:w.1[rb]?=O (gZ X size late now v)):w.cell? ⟨rb,36,J⟩=O (I Q (late:Int)):=by simp[World.cell?,h,gZ,a]
theorem RJ(a:X.size=46)(h:w.1[rb]?=O (gZ X size late now v)):w.cell? ⟨rb,37,J⟩=O (I Q (now:Int)):=by simp[World.cell?,h,gZ,a]
theorem Bc(a:X.size=46)(h:w.1[rb]?=O (gZ X size late now v)):w.cell? ⟨rb,38,J⟩=O v:=by simp[World.cell?,h,gZ,a]
theorem Bd(h:w.1[rb]?=O (gZ X size late now v))(i:Nat):w.frozen? ⟨rb,i,J⟩=false:=by simp[World.frozen?,h,gZ]
theorem ph{A:Array Value}{t:TypeId}(h:w.1[rb]?=O (Δ A t))(i:Nat)(u:Value):(w.setCell ⟨rb,i,J⟩ u).1[rb]?=O (Δ (A.setIfInBounds i u) t):=by simp[World.setCell,dU,h]
theorem Ao(a:X.size=46)(h:w.1[rb]?=O (gZ X size late now v))(u:Value):(w.setCell ⟨rb,38,J⟩ u).1[rb]?=O (gZ X size late now u):=by unfold gZ at h⊢;rw[ph h,Array.setIfInBounds_setIfInBounds]
theorem On(a:X.size=46)(h:w.1[rb]?=O (gZ X size late now v))(m:Nat):(w.setCell ⟨rb,37,J⟩ (I Q (m:Int))).1[rb]?=O (gZ X size late m v):=by unfold gZ at h⊢;rw[ph h,Array.setIfInBounds_comm _ _ dc,Array.setIfInBounds_setIfInBounds]
theorem jT.j(d:jT w rb X v F size late now all):w.cell? ⟨rb,35,J⟩=O (I Q (size:Int)):=Bb d.d d.a
theorem jT.l(d:jT w rb X v F size late now all):w.cell? ⟨rb,36,J⟩=O (I Q (late:Int)):=RI d.d d.a
theorem jT.h(d:jT w rb X v F size late now all):w.cell? ⟨rb,37,J⟩=O (I Q (now:Int)):=RJ d.d d.a
theorem jT.k(d:jT w rb X v F size late now all):w.cell? ⟨rb,38,J⟩=O v:=Bc d.d d.a
theorem jT.m(d:jT w rb X v F size late now all)(i:Nat):w.frozen? ⟨rb,i,J⟩=false:=Bd d.a i
theorem jT.f(d:jT w rb X v F size late now all):rb<w.1.size:=(bP.1 d.a).1
theorem jT.i(d:jT w rb X v F size late now all){b:Nat}(h:v.ownBlock=O b):b≠rb:=by intro e;obtain⟨g,f⟩:=lK d.c h;rw[e,d.a]at f;simp[gZ]at f
theorem jT.o{w':Ω}(d:jT w rb X v F size late now all)(h:∀k,k<w.1.size->F k->w'.1[k]?=w.1[k]?):jT w' rb X v F size late now all where
 a:=by rw[h rb d.f d.g];exact d.a
 d:=d.d
 c:=aS d.c (λb i=>h b (aU d.c i) (d.e b i))
 g:=d.g
 e:=d.e
theorem jT.n{G:Nat->Prop}(d:jT w rb X v F size late now all)(h:∀k,k<w.1.size->F k->G k):jT w rb X v G size late now all:=⟨d.a,d.d,d.c,h _ d.f d.g,λb i=>h b (aU d.c i) (d.e b i)⟩
theorem eP.d{w':Ω}(d:eP w rb X F size late now all)(b:∀k,k<w.1.size->F k->w'.1[k]?=w.1[k]?):eP w' rb X F size late now all:=by obtain⟨v,d⟩:=d.a;exact⟨v,d.o b⟩
theorem eP.c{G:Nat->Prop}(d:eP w rb X F size late now all)(b:∀k,k<w.1.size->F k->G k):eP w rb X G size late now all:=by obtain⟨v,d⟩:=d.a;exact⟨v,d.n b⟩
theorem eP.b{w':Ω}(d:eP w rb X F size late now all)(c:B w.1.size w w'):eP w' rb X F size late now all:=d.d (λk a _=>c.block k a)
theorem eP.e(d:eP w rb X F size late now all):rb<w.1.size:=by obtain⟨v,d⟩:=d.a;exact d.f
theorem jT.p(d:jT w rb X v F size late now all)(m:Nat){z:Int}(f:z=(m:Int)):jT (w.setCell ⟨rb,37,J⟩ (I Q z)) rb X v F size late m all where
 a:=by subst f;exact On d.d d.a m
 d:=d.d
 c:=aS d.c (λb h=>bN _ _ _ _ (d.i h))
 g:=d.g
 e:=d.e
end
section
variable {w:Ω}{rb:Nat}{X:Array Value}{F:Nat->Prop}{size late now:Nat}{all:List ai}
theorem wR{c:Nat}(r:c=bD size late now)(d:eP w rb X F size late now all)(x:0<size)(s:size<=50)(t:late<=50)(u:now<=1000):
  Φ prog 80 #[Y (O ⟨rb,35,J⟩)] w λe y=>e=N (I Q (c:Int))/\∃q,y=w.drewN q:=by
 obtain⟨v,d⟩:=d.a;have p:prog.follows .mixedOrders=true:=kr;have G:=d.j;have K:=d.l;have E:=d.h;clear d;have z:c<=1000:=by rw[r];exact aP kU u
 have D:H (c=bD size late now):=r;clear r;go_enter func80,ntmps80;go_wp2;go_loopw [3] (λi V=>∃k q:Nat,k<=c/\i=I Q (k:Int)/\V=w.drewN q) (λi _=>c-(intOf i).toNat)
 case atStart=>exact⟨0,0,aX _,rfl,rfl⟩
 obtain⟨k,q,L,rfl,rfl⟩:=hrel;have f:k<c↔(k+1)*size+late<=now:=by rw[D.o];exact CU x
 obtain⟨b,m⟩:∃b,b=(k+1)*size:=⟨_,rfl⟩;rw[<-m]at f;have A:b<=50050:=by rw[m];have:=pT (show k+1<=1001 by omega) s;omega
 have C:((k:Int)+1)*(size:Int)=(b:Int):=by rw[m];simp
 clear m;by_cases g:k<c
 case pos=>
  have s:=f.1 g;have t:(b:Int)+late<=now:=om;clear f;go_wp2;go_quiet (fail);go_wp2;go_roundw
  case rel=>exact⟨k+1,_,om,by go_num,rfl⟩
  simp[intOf];omega
 have s:¬b+late<=now:=λh=>g (f.2 h);have t:¬(b:Int)+late<=now:=om;have n:k=c:=om;subst n;clear f g;go_wp2;go_quiet (fail);go_wp2;go_ret;exact⟨rfl,_,World.drewN_drewN _ _ _⟩
theorem Oo(x:ai)(d:eP w rb X F size late now all)(j:eY now x=false)(s:x.a.size<=maxLen):
  Φ prog 85 #[Y (O ⟨rb,35,J⟩),.agg #[I Q x.c,I Q x.b,I Q x.d,Z x.a]] w λe p=>e=N (I Q 1)/\B w.1.size w p:=by
 have i:prog.follows .mixedOrders=true:=kr;obtain⟨v,d⟩:=d.a;have A:=d.h;have y:=d.f;have g:=GG j;clear d j;obtain⟨k,n,u,r⟩:=x;simp only[Br]at g s⊢;have z:H (∀q,B w.1.size w ((w.alloc (Δ #[I Q k,I Q n,I Q u,Z r] 156)).drewN q)):=λq=>((aj _ w).l nl _).t ((ew _ q).m sm);rcases g with h0|⟨h0,h1⟩|⟨h0,h1,h2⟩|⟨h0,h1,h2,h3⟩|⟨h0,h1,h2,h3,h4⟩|⟨h0,h1,h2,h3,h4,h5⟩|⟨h0,h1,h2,h3,h4,h5,h6⟩
 all_goals
  go_enter func85,ntmps85;go_wp2;go_quiet (fail);go_wp2;go_ret;exact⟨rfl,z.o _⟩
theorem Me(x:ai)(d:eP w rb X F size late now all)(h0:0<size)(h1:size<=50)(h2:late<=50)(S:now<=1000)(P:eY now x=true)(hl:bR size x<bD size late now):
  Φ prog 85 #[Y (O ⟨rb,35,J⟩),.agg #[I Q x.c,I Q x.b,I Q x.d,Z x.a]] w λe z=>e=N (I Q 6)/\B w.1.size w z:=by
 have A:prog.follows .mixedOrders=true:=kr;have E:=mf.1 P;obtain⟨T,y⟩:∃T:Nat,x.d=(T:Int):=⟨x.d.toNat,by have:=E.b;omega⟩;have hT9:T<=1000:=by have:=E.c;omega
 obtain⟨k,K⟩:∃k,k=bR size x:=⟨_,rfl⟩;obtain⟨c,s⟩:∃c,c=bD size late now:=⟨_,rfl⟩;have hkT:((T:Int)/(size:Int))=(k:Int):=by rw[K];unfold bR;rw[y];simp
 rw[<-K,<-s]at hl;have hc9:c<=1000:=by rw[s];exact aP kU S
 have hlI:(k:Int)<c:=om;have hk9:(k:Int)<=1000:=om;have HC:H (c=bD size late now):=s;obtain⟨g0,g1,g2,g3,g4,g5,g6⟩:=xV P;have HD:H (eP w rb X F size late now all):=d;obtain⟨v,d⟩:=d.a;have V:=d.j;have c2:=d.h;have R:=d.f;clear d K s P E;obtain⟨C,L,xt,p⟩:=x;simp only at y g0 g1 g2 g3 g4 g5 g6⊢;subst y;have g4':¬(T:Int)<0:=om;have u:¬now<T:=by simp at g5;omega
 have U:decide (now<T)=false:=by simpa using u
 have g6':((p.size:Int) == 8)=true:=by simp at g6⊢;omega
 have hn:((size:Int) == 0)=false:=by simp;omega
 have HB:H (∀q,B w.1.size w ((w.alloc (Δ #[I Q C,I Q L,I Q (T:Int),Z p] 156)).drewN q)):=λq=>((aj _ w).l nl _).t ((ew _ q).m sm);go_enter func85,ntmps85;go_wp2;go_quiet (fail);obtain⟨W,r⟩:∃W,W=(w.alloc (Δ #[I Q C,I Q L,I Q (T:Int),Z p] 156)).drewN nq:=⟨_,rfl⟩;have g:B w.1.size w W:=by rw[r];exact HB.o _
 have i:H (B w.1.size w W):=g;have b2:W.cell? ⟨w.1.size,2,J⟩=O (I Q (T:Int)):=by rw[r];show (w.alloc _).cell? _=_;simp
 have r0:W.cell? ⟨rb,35,J⟩=O (I Q (size:Int)):=by rw[g.cell R];exact V
 have G:H (eP W rb X F size late now all):=HD.o.b g;have D:H (∀n,Φ prog 80 #[Y (O ⟨rb,35,J⟩)] (W.drewN n) λe z=>e=N (I Q (c:Int))/\∃m,z=W.drewN m):=λn=>(wR HC.o (G.o.b (ew _ n)) h0 h1 h2 S).m (λ_ _ h=>⟨h.1,by obtain⟨q,hq⟩:=h.2;exact⟨n+q,by rw[hq,World.drewN_drewN]⟩⟩);clear g;show Exit.then _ _ _ _ ((w.alloc (Δ #[I Q C,I Q L,I Q (T:Int),Z p] 156)).drewN nq);rw[<-r];clear r V c2;go_wp2;go_big_quiet (with_reducible exact D.o _);go_wp2;go_ret;exact⟨rfl,i.o.t ((ew _ _).m i.o.size)⟩
end
end
section
open Go.RowKit Go.Maps
section
variable {w:Ω}{rb:Nat}{X:Array Value}{F:Nat->Prop}{size late now:Nat}{all:List ai}
theorem Gd{h U V:Ω}{v:Value}{g cap:Nat}{x:ai}(d:jT h rb X v F size late now all)(p:B h.1.size h U)
  (n:V.ownsRow 0 203 5 (M (O ⟨g,0,J⟩) (all.length+1) cap) (all.length+1) (jW size all++[I Q x.c,I Q x.b,I Q x.d,Z x.a,I Q (bR size x:Int)]))
  (q:U.grownBy V v.ownBlock)(j:v.ownBlock=O g\/g=U.1.size)(r:V.1[rb]?=O (gZ X size late now v))(t:w.1.size<=h.1.size):
  jT (V.setCell ⟨rb,38,J⟩ (M (O ⟨g,0,J⟩) (all.length+1) cap)) rb X (M (O ⟨g,0,J⟩) (all.length+1) cap) (jz F w (V.setCell ⟨rb,38,J⟩ (M (O ⟨g,0,J⟩) (all.length+1) cap))) size late now (all++[x]):=by
 have o:=p.size;have m:=q.size;have s:=aU n rfl
 have l:g≠rb:=by
  rcases j with j|j
  ·exact d.i j
  have:=d.f;omega
 refine⟨?_,d.d,?_,af d.g,?_⟩
 ·exact Ao d.d r _
 ·rw[Dy,bU];refine aS n (λb k=>?_);simp[Value.ownBlock]at k;subst k;exact bN _ _ _ _ l
 intro b k;simp[Value.ownBlock]at k;subst k;rcases j with j|j
 ·exact af (d.e g j)
 exact ah ⟨om,by simpa [World.setCell] using s⟩
theorem Qs(x:ai)(d:eP w rb X F size late now all)(h0:0<size)(h1:size<=50)(h2:late<=50)(h3:now<=1000)(hx:eY now x=true)(hl:bD size late now<=bR size x)(hal:all.length<=100000)(hF:∀b,F b->b<w.1.size):
  Φ prog 85 #[Y (O ⟨rb,35,J⟩),.agg #[I Q x.c,I Q x.b,I Q x.d,Z x.a]] w λe w'=>e=N (I Q 0)/\eP w' rb X (jz F w w') size late now (all++[x])/\ax F w w':=by
 obtain⟨i0,hi,hz0,hz1,hz2⟩:=eb F8;have HF:=hid hF;clear hF;have mixed:prog.follows .mixedOrders=true:=kr;have ok:=mf.1 hx;obtain⟨T,hT⟩:∃T:Nat,x.d=(T:Int):=⟨x.d.toNat,by have:=ok.b;omega⟩;have hT9:T<=1000:=by have:=ok.c;omega
 obtain⟨k,hk⟩:∃k,k=bR size x:=⟨_,rfl⟩;obtain⟨c,hc⟩:∃c,c=bD size late now:=⟨_,rfl⟩;have hkT:((T:Int)/(size:Int))=(k:Int):=by rw[hk];unfold bR;rw[hT];simp
 rw[<-hk,<-hc]at hl;have hk9:k<=1000:=by rw[hk];unfold bR;rw[hT];exact aP (Nat.div_le_self _ _) (by simpa using hT9)
 have hlI:¬(k:Int)<c:=om;have hk9I:(k:Int)<=1000:=om;have HK:=hid hk;have HC:=hid hc;obtain⟨g0,g1,g2,g3,g4,g5,g6⟩:=xV hx;have HD:=hid d;obtain⟨v,d⟩:=d.a;have c0:=d.j;have c2:=d.h;have hrb:=d.f;clear d hk hc hx ok;obtain⟨C,A,xt,z⟩:=x;simp only at hT g0 g1 g2 g3 g4 g5 g6⊢;subst hT;have g4':¬(T:Int)<0:=om;have g5':¬now<T:=by simp at g5;omega
 have g5'':decide (now<T)=false:=by simpa using g5'
 have g6':((z.size:Int) == 8)=true:=by simp at g6⊢;omega
 have hn:((size:Int) == 0)=false:=by simp;omega
 have hwrap:IntKind.i64.wrap (k:Int)=(k:Int):=by rw[IntKind.wrap_i64];omega
 have HB:H (∀q,B w.1.size w ((w.alloc (Δ #[I Q C,I Q A,I Q (T:Int),Z z] 156)).drewN q)):=λq=>((aj _ w).l nl _).t ((ew _ q).m sm);go_enter func85,ntmps85;go_wp2;go_quiet (fail);obtain⟨W,hW⟩:∃W,W=(w.alloc (Δ #[I Q C,I Q A,I Q (T:Int),Z z] 156)).drewN nq:=⟨_,rfl⟩;have hbW:B w.1.size w W:=by rw[hW];exact HB.o _
 have HBW:=hid hbW;have b2:W.cell? ⟨w.1.size,2,J⟩=O (I Q (T:Int)):=by rw[hW];show (w.alloc _).cell? _=_;simp
 have r0:W.cell? ⟨rb,35,J⟩=O (I Q (size:Int)):=by rw[hbW.cell hrb];exact c0
 have HDW:=hid (HD.o.b hbW);have HCL:H (∀n,Φ prog 80 #[Y (O ⟨rb,35,J⟩)] (W.drewN n) λe w'=>e=N (I Q (c:Int))/\∃m,w'=W.drewN m):=λn=>(wR HC.o (HDW.o.b (ew _ n)) h0 h1 h2 h3).m (λ_ _ h=>⟨h.1,by obtain⟨q,hq⟩:=h.2;exact⟨n+q,by rw[hq,World.drewN_drewN]⟩⟩);have HWX:H (W.1[w.1.size]?=O (Δ #[I Q C,I Q A,I Q (T:Int),Z z] 156)):=by show _=_;rw[hW];exact bn w _
 clear hbW;show Exit.then _ _ _ _ ((w.alloc (Δ #[I Q C,I Q A,I Q (T:Int),Z z] 156)).drewN nq);rw[<-hW];clear hW c0 c2;go_wp2;go_big_quiet (with_reducible exact HCL.o _);go_wp2;obtain⟨p,hZ⟩:∃p,p=W.drewN nq:=⟨_,rfl⟩;have hbZ:B w.1.size w p:=by rw[hZ];exact HBW.o.t ((ew _ _).m HBW.o.size)
 have hZb:p.1[w.1.size]?=O (Δ #[I Q C,I Q A,I Q (T:Int),Z z] 156):=by rw[hZ];exact HWX.o
 have hZs:=(bP.1 hZb).1;rw[<-hZ];clear hZ;obtain⟨v,dZ⟩:=(HD.o.b hbZ).a;have E:=hid dZ;have HXS:=hid dZ.d;have HBZ:H (B w.1.size w p):=hbZ
 have y:p.drew.cell? ⟨rb,35,J⟩=O (I Q (size:Int))/\p.drew.cell? ⟨w.1.size,0,J⟩=O (I Q C)/\p.drew.cell? ⟨w.1.size,1,J⟩=O (I Q A)/\p.drew.cell? ⟨w.1.size,2,J⟩=O (I Q (T:Int))/\p.drew.cell? ⟨w.1.size,3,J⟩=O (Z z):=
  ⟨dZ.j,by show p.cell? _=_;simp[World.cell?,hZb],by show p.cell? _=_;simp[World.cell?,hZb],by show p.cell? _=_;simp[World.cell?,hZb],by show p.cell? _=_;simp[World.cell?,hZb]⟩
 have HU:H (B p.1.size p (p.alloc (Δ #[I Q C,I Q A,I Q (T:Int),Z z,I Q (k:Int)] 203)).drew):=((aj _ p).l nl _).drew;have hS1:(p.alloc (Δ #[I Q C,I Q A,I Q (T:Int),Z z,I Q (k:Int)] 203)).drew.cell? ⟨rb,35,J⟩=O (I Q (size:Int))/\(p.alloc (Δ #[I Q C,I Q A,I Q (T:Int),Z z,I Q (k:Int)] 203)).drew.cell? ⟨w.1.size,0,J⟩=O (I Q C)/\(p.alloc (Δ #[I Q C,I Q A,I Q (T:Int),Z z,I Q (k:Int)] 203)).drew.cell? ⟨w.1.size,1,J⟩=O (I Q A)/\(p.alloc (Δ #[I Q C,I Q A,I Q (T:Int),Z z,I Q (k:Int)] 203)).drew.cell? ⟨w.1.size,2,J⟩=O (I Q (T:Int))/\(p.alloc (Δ #[I Q C,I Q A,I Q (T:Int),Z z,I Q (k:Int)] 203)).drew.cell? ⟨w.1.size,3,J⟩=O (Z z):=by obtain⟨s1,s2,s3,s4,s5⟩:=y;have hd:=dZ.f;exact⟨(HU.o.cell hd).trans s1,(HU.o.cell (by show w.1.size<_;omega)).trans s2,(HU.o.cell (by show w.1.size<_;omega)).trans s3,(HU.o.cell (by show w.1.size<_;omega)).trans s4,(HU.o.cell (by show w.1.size<_;omega)).trans s5⟩
 have HROW:=hid (aS dZ.c (λb hb=>HU.o.block b (aU dZ.c hb)));have l0:=dZ.k;have l1:=(HU.o.cell dZ.f).trans dZ.k
 have HNEW:H (∀j u,([I Q C,I Q A,I Q (T:Int),Z z,I Q (k:Int)]:List Value)[j]?=O u->(p.alloc (Δ #[I Q C,I Q A,I Q (T:Int),Z z,I Q (k:Int)] 203)).drew.cell? ((⟨p.1.size,0,J⟩:Addr).add j)=O u):=by
  intro j u L;rw[dD];show (p.alloc _).cell? _=_
  match j,L with
 |0,L=>simp at L;subst L;simp
 |1,L=>simp at L;subst L;simp
 |2,L=>simp at L;subst L;simp
 |3,L=>simp at L;subst L;simp
 |4,L=>simp at L;subst L;simp
 have HML:H (all.length+1<=maxLen):=by show _<=_;unfold maxLen;omega
 have HBY:H ((all.length+1)*48<=140737488355328):=by show _<=_;omega
 have U:H (∀V,(p.alloc (Δ #[I Q C,I Q A,I Q (T:Int),Z z,I Q (k:Int)] 203)).drew.grownBy V v.ownBlock->∀b,b=rb\/b=w.1.size->V.1[b]?=(p.alloc (Δ #[I Q C,I Q A,I Q (T:Int),Z z,I Q (k:Int)] 203)).drew.1[b]?):=by
  intro V hV b hb;refine hV.block b ?_ (λe=>?_)
  ·have:=HU.o.size;have:=E.o.f;rcases hb with rfl|rfl<;>omega
  rcases hb with rfl|rfl
  ·exact E.o.i e.symm rfl
  have:=HF.o _ (E.o.e _ e.symm);omega
 have HUR:=hid ((HU.o.block rb dZ.f).trans dZ.a);clear hbZ hZb dZ HCL HDW b2 r0 HWX;refine fG (S:=λV=>V.cell? ⟨rb,35,J⟩=O (I Q (size:Int))/\V.cell? ⟨w.1.size,0,J⟩=O (I Q C)/\V.cell? ⟨w.1.size,1,J⟩=O (I Q A)/\V.cell? ⟨w.1.size,2,J⟩=O (I Q (T:Int))/\V.cell? ⟨w.1.size,3,J⟩=O (Z z)) kr y (λ_=>?_);refine ar 0 53 (Y (O ⟨rb,35,J⟩)) y ?_;refine ar 1 54 (Y (O ⟨rb,35,J⟩)) y ?_;refine ar 2 55 (Y (O ⟨rb,35,J⟩)) y ?_;refine ar 3 56 (Y (O ⟨rb,38,J⟩)) y ?_;refine aF 5 58 (.agg #[I Q C,I Q A,I Q (T:Int),Z z]) rfl rfl kr (λ_ _ _ h=>h) (af ⟨by rfl,λwx hS=>by (try dsimp only at hS);obtain⟨r0,b0,b1,b2,b3⟩:=hS;go_simp⟩) y ?_;simp only[Act.put,az,aA,aB];refine ar 6 59 (Y (O ⟨w.1.size,2,J⟩)) y ?_;refine aF 7 60 (I Q (T:Int)) rfl rfl kr (λ_ _ _ h=>h) (af ⟨by rfl,λwx hS=>by (try dsimp only at hS);obtain⟨r0,b0,b1,b2,b3⟩:=hS;go_simp⟩) y ?_;simp only[Act.put,az,aA,aB];refine ar 8 61 (Y (O ⟨rb,35,J⟩)) y ?_;refine ar 9 62 (Y (O ⟨rb,35,J⟩)) y ?_;refine ar 10 63 (Y (O ⟨rb,35,J⟩)) y ?_;refine aF 11 64 (I Q (size:Int)) rfl rfl kr (λ_ _ _ h=>h) (af ⟨by rfl,λwx hS=>by (try dsimp only at hS);obtain⟨r0,b0,b1,b2,b3⟩:=hS;go_simp⟩) y ?_;simp only[Act.put,az,aA,aB];refine aF 12 65 (I Q (k:Int)) rfl rfl kr (λ_ _ _ h=>h) (af ⟨by rfl,λwx _=>by go_simp;omega⟩) y ?_;simp only[Act.put,az,aA,aB];refine ar 13 66 (.agg #[I Q C,I Q A,I Q (T:Int),Z z,I Q (k:Int)]) y ?_;refine a9 (rs:=[4,14]) kr sm ?_;refine aQ rfl (λK P=>?_) (aQ rfl (λK P=>?_) aZ)
 ·go_simp;refine P.out _ _ y (λ_=>?_);refine a9 (rs:=[14]) kr sm ?_;refine aQ rfl (λK P=>?_) aZ;go_simp;refine P.out _ _ hS1 (λ_=>?_);refine a9 (rs:=[15]) kr sm ?_;refine aQ rfl (λK P=>?_) aZ;refine iX _ (by rfl) (.tmp 57) (.tmp 67) 46 (by rfl) 0 203 i0 (.agg #[I Q 0,I Q 0,I Q 0,Z ⟨#[]⟩,I Q 0]) 5 48 underlying46 hi hz0 hz1 hz2 rfl om v all.length (jW size all) (by rfl) HROW.o ⟨p.1.size,0,J⟩ 1 1 [I Q C,I Q A,I Q (T:Int),Z z,I Q (k:Int)] (by rfl) rfl HNEW.o (λu hu=>by simp at hu;rcases hu with rfl|rfl|rfl|rfl|rfl<;>rfl) om HML.o HBY.o (aX _) _ rfl ?_;intro g r V hown s hat hlt;have D:∀a:Addr,a.block=rb\/a.block=w.1.size->V.cell? a=(p.alloc (Δ #[I Q C,I Q A,I Q (T:Int),Z z,I Q (k:Int)] 203)).drew.cell? a:=λa ha=>bW (U.o V s a.block ha);have G:V.cell? ⟨rb,35,J⟩=O (I Q (size:Int))/\V.cell? ⟨w.1.size,0,J⟩=O (I Q C)/\V.cell? ⟨w.1.size,1,J⟩=O (I Q A)/\V.cell? ⟨w.1.size,2,J⟩=O (I Q (T:Int))/\V.cell? ⟨w.1.size,3,J⟩=O (Z z):=by obtain⟨s1,s2,s3,s4,s5⟩:=hS1;exact⟨(D _ (af rfl)).trans s1,(D _ (ah rfl)).trans s2,(D _ (ah rfl)).trans s3,(D _ (ah rfl)).trans s4,(D _ (ah rfl)).trans s5⟩
  have R:=(U.o V s rb (af rfl)).trans HUR.o;have hV3:V.cell? ⟨rb,38,J⟩=O v:=by exact Bc HXS.o R
  have hVf:V.frozen? ⟨rb,38,J⟩=false:=by exact Bd R _
  have HVR:=hid R;refine P.out _ _ G (λ_=>?_);change wpAnyH _ _ _ _ _ _ _ (Act.put _ (O 68) _) _;simp only[Act.put,az,aA,aB];refine ar 16 69 (Y (O ⟨rb,35,J⟩)) G ?_;refine ar 17 70 (Y (O ⟨rb,38,J⟩)) G ?_;refine a9 (rs:=[18]) kr sm ?_;refine aQ rfl (λK P=>?_) aZ;go_simp;have hS4:(V.setCell ⟨rb,38,J⟩ (M (O ⟨g,0,J⟩) (all.length+1) r)).cell? ⟨rb,35,J⟩=O (I Q (size:Int))/\(V.setCell ⟨rb,38,J⟩ (M (O ⟨g,0,J⟩) (all.length+1) r)).cell? ⟨w.1.size,0,J⟩=O (I Q C)/\(V.setCell ⟨rb,38,J⟩ (M (O ⟨g,0,J⟩) (all.length+1) r)).cell? ⟨w.1.size,1,J⟩=O (I Q A)/\(V.setCell ⟨rb,38,J⟩ (M (O ⟨g,0,J⟩) (all.length+1) r)).cell? ⟨w.1.size,2,J⟩=O (I Q (T:Int))/\(V.setCell ⟨rb,38,J⟩ (M (O ⟨g,0,J⟩) (all.length+1) r)).cell? ⟨w.1.size,3,J⟩=O (Z z):=by obtain⟨s1,s2,s3,s4,s5⟩:=G;have hn2:w.1.size≠rb:=om;have e:∀a:Addr,a.block=w.1.size->(V.setCell ⟨rb,38,J⟩ (M (O ⟨g,0,J⟩) (all.length+1) r)).cell? a=V.cell? a:=λa ha=>bW (bN _ _ _ _ (by rw[ha];exact hn2));refine⟨?_,(e _ rfl).trans s2,(e _ rfl).trans s3,(e _ rfl).trans s4,(e _ rfl).trans s5⟩;exact Bb HXS.o (Ao HXS.o HVR.o _)
  refine P.out _ _ hS4 (λ_=>?_);refine ea kr ?_ _;have HFIN:H (eP (V.setCell ⟨rb,38,J⟩ (M (O ⟨g,0,J⟩) (all.length+1) r)) rb X (jz F w (V.setCell ⟨rb,38,J⟩ (M (O ⟨g,0,J⟩) (all.length+1) r))) size late now (all++[⟨C,A,(T:Int),z⟩])/\ax F w (V.setCell ⟨rb,38,J⟩ (M (O ⟨g,0,J⟩) (all.length+1) r))):=by refine⟨⟨_,Gd (x:=⟨C,A,(T:Int),z⟩) E.o HU.o (by rw[<-HK.o];exact hown) s hat HVR.o om⟩,?_⟩;exact(((bH HBZ.o F).a (bH HU.o F)).a (eV s (λb hb=>E.o.e b hb))).a (ko _ _ _ E.o.g)
  go_wp2;go_ret;exact⟨rfl,HFIN.o⟩
 go_simp;refine P.out _ _ hS1 (λ_=>?_);refine a9 (rs:=[4]) kr sm ?_;refine aQ rfl (λK P=>?_) aZ;go_simp;refine P.out _ _ hS1 (λ_=>?_);refine a9 (rs:=[15]) kr sm ?_;refine aQ rfl (λK P=>?_) aZ;refine iX _ (by rfl) (.tmp 57) (.tmp 67) 46 (by rfl) 0 203 i0 (.agg #[I Q 0,I Q 0,I Q 0,Z ⟨#[]⟩,I Q 0]) 5 48 underlying46 hi hz0 hz1 hz2 rfl om v all.length (jW size all) (by rfl) HROW.o ⟨p.1.size,0,J⟩ 1 1 [I Q C,I Q A,I Q (T:Int),Z z,I Q (k:Int)] (by rfl) rfl HNEW.o (λu hu=>by simp at hu;rcases hu with rfl|rfl|rfl|rfl|rfl<;>rfl) om HML.o HBY.o (aX _) _ rfl ?_;intro g r V hown s hat hlt;have D:∀a:Addr,a.block=rb\/a.block=w.1.size->V.cell? a=(p.alloc (Δ #[I Q C,I Q A,I Q (T:Int),Z z,I Q (k:Int)] 203)).drew.cell? a:=λa ha=>bW (U.o V s a.block ha);have G:V.cell? ⟨rb,35,J⟩=O (I Q (size:Int))/\V.cell? ⟨w.1.size,0,J⟩=O (I Q C)/\V.cell? ⟨w.1.size,1,J⟩=O (I Q A)/\V.cell? ⟨w.1.size,2,J⟩=O (I Q (T:Int))/\V.cell? ⟨w.1.size,3,J⟩=O (Z z):=by obtain⟨s1,s2,s3,s4,s5⟩:=hS1;exact⟨(D _ (af rfl)).trans s1,(D _ (ah rfl)).trans s2,(D _ (ah rfl)).trans s3,(D _ (ah rfl)).trans s4,(D _ (ah rfl)).trans s5⟩
 have R:=(U.o V s rb (af rfl)).trans HUR.o;have hV3:V.cell? ⟨rb,38,J⟩=O v:=by exact Bc HXS.o R
 have hVf:V.frozen? ⟨rb,38,J⟩=false:=by exact Bd R _
 have HVR:=hid R;refine P.out _ _ G (λ_=>?_);change wpAnyH _ _ _ _ _ _ _ (Act.put _ (O 68) _) _;simp only[Act.put,az,aA,aB];refine ar 16 69 (Y (O ⟨rb,35,J⟩)) G ?_;refine ar 17 70 (Y (O ⟨rb,38,J⟩)) G ?_;refine a9 (rs:=[18]) kr sm ?_;refine aQ rfl (λK P=>?_) aZ;go_simp;have hS4:(V.setCell ⟨rb,38,J⟩ (M (O ⟨g,0,J⟩) (all.length+1) r)).cell? ⟨rb,35,J⟩=O (I Q (size:Int))/\(V.setCell ⟨rb,38,J⟩ (M (O ⟨g,0,J⟩) (all.length+1) r)).cell? ⟨w.1.size,0,J⟩=O (I Q C)/\(V.setCell ⟨rb,38,J⟩ (M (O ⟨g,0,J⟩) (all.length+1) r)).cell? ⟨w.1.size,1,J⟩=O (I Q A)/\(V.setCell ⟨rb,38,J⟩ (M (O ⟨g,0,J⟩) (all.length+1) r)).cell? ⟨w.1.size,2,J⟩=O (I Q (T:Int))/\(V.setCell ⟨rb,38,J⟩ (M (O ⟨g,0,J⟩) (all.length+1) r)).cell? ⟨w.1.size,3,J⟩=O (Z z):=by obtain⟨s1,s2,s3,s4,s5⟩:=G;have hn2:w.1.size≠rb:=om;have e:∀a:Addr,a.block=w.1.size->(V.setCell ⟨rb,38,J⟩ (M (O ⟨g,0,J⟩) (all.length+1) r)).cell? a=V.cell? a:=λa ha=>bW (bN _ _ _ _ (by rw[ha];exact hn2));refine⟨?_,(e _ rfl).trans s2,(e _ rfl).trans s3,(e _ rfl).trans s4,(e _ rfl).trans s5⟩;exact Bb HXS.o (Ao HXS.o HVR.o _)
 refine P.out _ _ hS4 (λ_=>?_);refine ea kr ?_ _;have HFIN:H (eP (V.setCell ⟨rb,38,J⟩ (M (O ⟨g,0,J⟩) (all.length+1) r)) rb X (jz F w (V.setCell ⟨rb,38,J⟩ (M (O ⟨g,0,J⟩) (all.length+1) r))) size late now (all++[⟨C,A,(T:Int),z⟩])/\ax F w (V.setCell ⟨rb,38,J⟩ (M (O ⟨g,0,J⟩) (all.length+1) r))):=by refine⟨⟨_,Gd (x:=⟨C,A,(T:Int),z⟩) E.o HU.o (by rw[<-HK.o];exact hown) s hat HVR.o om⟩,?_⟩;exact(((bH HBZ.o F).a (bH HU.o F)).a (eV s (λb hb=>E.o.e b hb))).a (ko _ _ _ E.o.g)
 go_wp2;go_ret;exact⟨rfl,HFIN.o⟩
theorem Ow(x:ai)(d:eP w rb X F size late now all)(k:0<size)(n:size<=50)(o:late<=50)(l:now<=1000)(j:all.length<=100000)(p:∀b,F b->b<w.1.size)(q:x.a.size<=maxLen):
  Φ prog 85 #[Y (O ⟨rb,35,J⟩),.agg #[I Q x.c,I Q x.b,I Q x.d,Z x.a]] w λe f=>e=N (I Q (ey size late now x:Int))/\eP f rb X (jz F w f) size late now (if ey size late now x=0 then all++[x] else all)/\ax F w f:=by
 cases hx:eY now x with
 |false=>
  have e:ey size late now x=1:=by simp[ey,hx]
  rw[e];refine(Oo x d hx q).m ?_;rintro e f ⟨rfl,g⟩;exact⟨rfl,(d.b g).c (λb _ h=>af h),bH g F⟩
 |true=>
  by_cases i:bR size x<bD size late now
  ·have e:ey size late now x=6:=(by simp[ey,hx,i]);rw[e];refine(Me x d k n o l hx i).m ?_;rintro e f ⟨rfl,g⟩;exact⟨rfl,(d.b g).c (λb _ h=>af h),bH g F⟩
  have e:ey size late now x=0:=(by simp[ey,hx,i]);rw[e];exact Qs x d k n o l hx om j p
end
end
section
open Go.RowKit Go.Maps
structure fV (w w':Ω) (ow ow':Nat->Nat):Prop where
 a:cD w w' ow ow'
 f:∀b,b<w.1.size->ow b=3->w'.1[b]?=w.1[b]?/\ow' b=3
theorem fV.g(w:Ω)(a:Nat->Nat):fV w w a a:=⟨cD.f _ _,λ_ _ h=>⟨rfl,h⟩⟩
theorem fV.d{a b c:Ω}{e g j:Nat->Nat}(h:fV a b e g)(k:fV b c g j):fV a c e j where
 a:=h.a.d k.a
 f:=λi l m=>by obtain⟨n,o⟩:=h.f i l m;obtain⟨p,q⟩:=k.f i (bg l h.a.a.c) o;exact⟨p.trans n,q⟩
theorem fV.e{a b:Ω}(h:B a.1.size a b)(c:Nat->Nat):fV a b c c:=⟨cD.e h c,λi d f=>⟨h.block i d,f⟩⟩
structure fh (w:Ω) (wb:Nat) (ow:Nat->Nat) (c:aE) (rs:List aq) (s:ay) (n m:Nat) (A:List dG) (p:fO):Prop where
 o:w.1[wb]?=O (Δ (im c s p) 190)
 a:ow wb=1
 d:∀b,ow b≠0->b<w.1.size
 h:nP w p.a (bJ s.a)
 i:ow p.a=2
 v:cG w p.e (λb=>ow b=3) c.b c.e s.b s.a (bD c.b c.e s.b)
 t:∃who,cd w p.d who c.d c.c n (aC c s n).flatten.length (al (aC c s n))/\∀b,bC who b->ow b=4
 z:∃F f,ga w p.g p.d F c.f c.g m f/\jj aD (al (aC c s m)) c.d c.c c.f c.g f m/\∀b,F b->ow b=5
 g:w.ownsRow 0 65 6 p.f rs.length (cS rs)
 j:∀b,p.f.ownBlock=O b->ow b=6
 l:w.ownsRow 0 98 3 p.b A.length (gd A)
 e:∀b,p.b.ownBlock=O b->ow b=7
 η:A=[]->p.b=M J 0 0
 u:c.h
 γ:rs.length<=6/\∀r,r∈rs->r.h
 ε:s.b<=1000
 ι:n<=bD c.b c.e s.b
 y:(bJ s.a).length<=12
 δ:∀x,x∈s.a->eY s.b x=true/\0<aD x.a
 ζ:s.d<=20000
section
variable {w w':Ω}{wb:Nat}{ow:Nat->Nat}{c:aE}{rs:List aq}{s:ay}{k n m:Nat}{A:List dG}{p:fO}
theorem fh.π(h:dY w wb ow c rs s k p):fh w wb ow c rs s k k (bM c rs s k) p:=⟨h.t,h.d,h.a,h.e,h.l,h.ζ,h.δ,h.γ,h.q,h.o,h.m,h.n,h.ε,h.g,h.y,h.h,h.u,h.v,h.z,h.i⟩
theorem fh.ς(h:fh w wb ow c rs s k k (bM c rs s k) p):dY w wb ow c rs s k p:=⟨h.o,h.a,h.d,h.h,h.i,h.v,h.t,h.z,h.g,h.j,h.l,h.e,h.η,h.u,h.γ,h.ε,h.ι,h.y,h.δ,h.ζ⟩
theorem fh.μ(h:fh w wb ow c rs s n m A p)(D:w.1.size<=w'.1.size)(q:∀b,b<w.1.size->ow b≠0->w'.1[b]?=w.1[b]?):fh w' wb ow c rs s n m A p where
 o:=by rw[q wb (h.d wb (by rw[h.a];decide)) (by rw[h.a];decide)];exact h.o
 a:=h.a
 d:=λb k=>bg (h.d b k) D
 h:=h.h.a (q _ h.h.b (by rw[h.i];decide))
 i:=h.i
 v:=h.v.b (λb k r=>q b k (by rw[r];decide))
 t:=by obtain⟨C,G,x⟩:=h.t;exact⟨C,G.b D (λb k E=>q b k (by rw[x b E];decide)),x⟩
 z:=by obtain⟨F,f,G,x,r⟩:=h.z;exact⟨F,f,G.a D (λb k E=>q b k (by rw[r b E];decide)),x,r⟩
 g:=aS h.g (λb k=>q b (aU h.g k) (by rw[h.j b k];decide))
 j:=h.j
 l:=aS h.l (λb k=>q b (aU h.l k) (by rw[h.e b k];decide))
 e:=h.e
 η:=h.η
 u:=h.u
 γ:=h.γ
 ε:=h.ε
 ι:=h.ι
 y:=h.y
 δ:=h.δ
 ζ:=h.ζ
theorem fh.θ(h:fh w wb ow c rs s n m A p)(a:B w.1.size w w'):fh w' wb ow c rs s n m A p:=h.μ a.size (λb d _=>a.block b d)
theorem fh.κ(h:fh w wb ow c rs s n m A p):wb<w.1.size:=h.d wb (by rw[h.a];decide)
theorem fh.q(h:fh w wb ow c rs s n m A p)(i:Nat)(a:i<39):w.cell? ⟨wb,i,J⟩=O (dO c s p i):=by simp only[World.cell?,h.o,ie,iq,fL];exact uB c s p a
theorem fh.ξ(h:fh w wb ow c rs s n m A p)(i:Nat):w.frozen? ⟨wb,i,J⟩=false:=by simp[World.frozen?,h.o]
theorem fh.ρ{D r:Nat->Nat×ByteArray×Nat}(h:fh w wb ow c rs s n m A p)(G:∀b,bC D b->ow b=4)(S:cd w' p.d r c.d c.c (n+1) ((aC c s n).flatten.length+(bE (aR c.b s.a n)).length) (ji (al (aC c s n)) n (bE (aR c.b s.a n))))(E:ax (bC D) w w')(K:∀b,bC r b->bC D b\/w.1.size<=b)(X:n+1<=bD c.b c.e s.b):
  fh w' wb (dA ow w w' 4) c rs s (n+1) m A p/\fV w w' ow (dA ow w w' 4):=by
 have q:∀b l,b<w.1.size->ow b=l->l≠0->l≠4->w'.1[b]?=w.1[b]?:=λb l x k P R=>E.b b x (λU=>by rw[G b U]at k;exact R k.symm);have x:∀b l,ow b=l->l≠0->b<w.1.size:=λb l k P=>h.d b (by rw[k];exact P);have C:∀b l,ow b=l->l≠0->dA ow w w' 4 b=l:=λb l k P=>by rw[rm (x b l k P)];exact k
 have T:=E.c;have V:ji (al (aC c s n)) n (bE (aR c.b s.a n))=al (aC c s (n+1)):=by funext e;rw[xK,zk,sG];unfold ji;rfl
 have W:(aC c s n).flatten.length+(bE (aR c.b s.a n)).length=(aC c s (n+1)).flatten.length:=by rw[xK,List.flatten_append,bU];simp
 rw[V,W]at S;refine⟨⟨?_,C _ _ h.a dc,λb k=>rj h.d T k,h.h.a (q _ 2 h.h.b h.i dc dc),C _ _ h.i dc,?_,?_,?_,?_,λb k=>C b 6 (h.j b k) dc,?_,λb k=>C b 7 (h.e b k) dc,h.η,h.u,h.γ,h.ε,X,h.y,h.δ,h.ζ⟩,⟨tO E (λb k=>by rw[G b k];decide),λb k t=>⟨q b 3 k t dc dc,C b 3 t dc⟩⟩⟩
 ·rw[q wb 1 (x wb 1 h.a dc) h.a dc dc];exact h.o
 ·exact(h.v.b (λb k t=>q b 3 k t dc dc)).d (λb k t=>C b 3 t dc)
 ·refine⟨r,S,λb k=>?_⟩;rcases K b k with L|L
  ·exact C b 4 (G b L) dc
  unfold dA;rw[ak ⟨L,S.d k⟩]
 ·obtain⟨F,f,L,h2,t⟩:=h.z;exact⟨F,f,L.a T (λb k R=>q b 5 k (t b R) dc dc),h2,λb k=>C b 5 (t b k) dc⟩
 ·exact aS h.g (λb k=>q b 6 (aU h.g k) (h.j b k) dc dc)
 exact aS h.l (λb k=>q b 7 (aU h.l k) (h.e b k) dc dc)
theorem fh.ο{F R:Nat->Prop}{f':Nat->ByteArray->ByteArray}(h:fh w wb ow c rs s n m A p)(C:∀b,F b->ow b=5)(T:ga w' p.g p.d R c.f c.g (m+1) f')(W:jj aD (al (aC c s (m+1))) c.d c.c c.f c.g f' (m+1))(z:ax F w w')(E:∀b,R b->F b\/w.1.size<=b):
  fh w' wb (dA ow w w' 5) c rs s n (m+1) A p/\fV w w' ow (dA ow w w' 5):=by
 have q:∀b l,b<w.1.size->ow b=l->l≠0->l≠5->w'.1[b]?=w.1[b]?:=λb l r k K P=>z.b b r (λV=>by rw[C b V]at k;exact P k.symm);have r:∀b l,ow b=l->l≠0->b<w.1.size:=λb l k K=>h.d b (by rw[k];exact K);have x:∀b l,ow b=l->l≠0->dA ow w w' 5 b=l:=λb l k K=>by rw[rm (r b l k K)];exact k
 have S:=z.c;refine⟨⟨?_,x _ _ h.a dc,λb k=>rj h.d S k,h.h.a (q _ 2 h.h.b h.i dc dc),x _ _ h.i dc,?_,?_,?_,?_,λb k=>x b 6 (h.j b k) dc,?_,λb k=>x b 7 (h.e b k) dc,h.η,h.u,h.γ,h.ε,h.ι,h.y,h.δ,h.ζ⟩,⟨tO z (λb k=>by rw[C b k];decide),λb k D=>⟨q b 3 k D dc dc,x b 3 D dc⟩⟩⟩
 ·rw[q wb 1 (r wb 1 h.a dc) h.a dc dc];exact h.o
 ·exact(h.v.b (λb k D=>q b 3 k D dc dc)).d (λb k D=>x b 3 D dc)
 ·obtain⟨L,G,U⟩:=h.t;exact⟨L,G.b S (λb k P=>q b 4 k (U b P) dc dc),λb k=>x b 4 (U b k) dc⟩
 ·refine⟨R,f',T,W,λb k=>?_⟩;rcases E b k with G|G
  ·exact x b 5 (C b G) dc
  unfold dA;rw[ak ⟨G,T.d k⟩]
 ·exact aS h.g (λb k=>q b 6 (aU h.g k) (h.j b k) dc dc)
 exact aS h.l (λb k=>q b 7 (aU h.l k) (h.e b k) dc dc)
theorem fh.ν{g cap:Nat}{a:dG}(h:fh w wb ow c rs s n m A p)(K:w'.ownsRow 0 98 3 (M (O ⟨g,0,J⟩) (A.length+1) cap) (A.length+1) (gd A++[I Q (a.a:Int),I Q (a.b:Int),Z a.c]))(hg:w.grownBy w' p.b.ownBlock)(G:p.b.ownBlock=O g\/w.1.size<=g):
  fh (w'.setCell ⟨wb,33,J⟩ (M (O ⟨g,0,J⟩) (A.length+1) cap)) wb (dA ow w w' 7) c rs s n m (A++[a]) { p with b:=M (O ⟨g,0,J⟩) (A.length+1) cap }/\fV w (w'.setCell ⟨wb,33,J⟩ (M (O ⟨g,0,J⟩) (A.length+1) cap)) ow (dA ow w w' 7):=by
 have hs:=hg.size;have T:(w'.setCell ⟨wb,33,J⟩ (M (O ⟨g,0,J⟩) (A.length+1) cap)).1.size=w'.1.size:=by simp[World.setCell]
 have W:∀b l,ow b=l->l≠0->b<w.1.size:=λb l k E=>h.d b (by rw[k];exact E);have D:∀b l,ow b=l->l≠0->dA ow w w' 7 b=l:=λb l k E=>by rw[rm (W b l k E)];exact k
 have C:∀b l,b<w.1.size->ow b=l->l≠0->l≠7->w'.1[b]?=w.1[b]?:=λb l k L E X=>hg.block b k (λe=>X (by rw[<-L];exact h.e b e.symm));have q:∀b l,b<w.1.size->ow b=l->l≠0->l≠1->l≠7->(w'.setCell ⟨wb,33,J⟩ (M (O ⟨g,0,J⟩) (A.length+1) cap)).1[b]?=w.1[b]?:=λb l k L E r X=>by rw[bN _ _ _ _ (λe=>r (by have e:b=wb:=e;rw[<-L,e];exact h.a))];exact C b l k L E X
 have U:g≠wb:=by
  intro e;rcases G with r|r
  ·have:=h.e g r;rw[e,h.a]at this;omega
  have:=h.κ;omega
 refine⟨⟨?_,D _ _ h.a dc,λb k=>by rw[T];exact rj h.d hs k,h.h.a (q _ 2 h.h.b h.i dc dc dc),D _ _ h.i dc,?_,?_,?_,?_,λb k=>D b 6 (h.j b k) dc,?_,?_,λe=>by simp at e,h.u,h.γ,h.ε,h.ι,h.y,h.δ,h.ζ⟩,⟨⟨?_,λb k=>Ak k⟩,λb k x=>⟨q b 3 k x dc dc dc,D b 3 x dc⟩⟩⟩
 ·have S:w'.1[wb]?=O (Δ (im c s p) 190):=(C wb 1 h.κ h.a dc dc).trans h.o;simp only[World.setCell,dU,S,iP,kS,ie,iq,fL];rw[Fs (c:=c) (s:=s) (s':=s) (p:=p) (p':={ p with b:=M (O ⟨g,0,J⟩) (A.length+1) cap }) (λj hj=>SO c s p _ j hj)]
 ·exact(h.v.b (λb k x=>q b 3 k x dc dc dc)).d (λb k x=>D b 3 x dc)
 ·obtain⟨R,r,P⟩:=h.t;exact⟨R,r.b om (λb k V=>q b 4 k (P b V) dc dc dc),λb k=>D b 4 (P b k) dc⟩
 ·obtain⟨F,f,r,P,x⟩:=h.z;exact⟨F,f,r.a om (λb k V=>q b 5 k (x b V) dc dc dc),P,λb k=>D b 5 (x b k) dc⟩
 ·exact aS h.g (λb k=>q b 6 (aU h.g k) (h.j b k) dc dc dc)
 ·rw[bU,Ex];refine aS K (λb k=>bN _ _ _ _ ?_);have e:b=g:=by simp[Value.ownBlock]at k;exact k.symm
  show b≠wb;rw[e];exact U
 ·intro b k;have e:b=g:=by simp[Value.ownBlock]at k;exact k.symm
  subst e;rcases G with r|r
  ·exact D b 7 (h.e b r) dc
  unfold dA;rw[ak ⟨r,aU K rfl⟩]
 exact(eV hg (λb k=>by rw[h.e b k];decide)).a (ko _ _ _ (by show ow wb≠0;rw[h.a];decide))
end
end
end Go.Proofs.YtlaodjjfmhipnaaGreatDoor
