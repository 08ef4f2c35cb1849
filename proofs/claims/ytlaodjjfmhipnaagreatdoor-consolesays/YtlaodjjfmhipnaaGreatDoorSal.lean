/-
  Part of it.
-/
import Derived.Lib.QuietBelow
import Derived.Test.YtlaodjjfmhipnaaGreatDoorSaf
set_option maxRecDepth 100000
set_option maxHeartbeats 8000000
set_option linter.all false
namespace Go.Proofs.YtlaodjjfmhipnaaGreatDoor
open Go.Proofs.Tryz
open Value renaming int→I,string→Z,pointer→Y,slice→M,tuple→Ψ
open Ending renaming returned→N
open Obj renaming cells→Δ
open Go renaming World→Ω,Calls→Φ
open IntKind renaming i64→Q
open Option renaming some→O,none→J
open RowKit renaming Below→B,Hid→H
section
open Go.RowKit Go.Maps
section
variable {w:Ω}{tb:Nat}{who:Nat->Nat×ByteArray×Nat}{W need n r:Nat}{ep:Nat->List ai}
theorem SD(x:ai){mb m:Nat}{D:DataW Value}{A:ByteArray->Option Nat}{v:ByteArray->Nat->Option Nat}{j V':Ω}(d:dI w tb mb m D A v who W need n r ep)(F:A x.a=J)(R:∀b,b<w.1.size->bC who b->b≠mb->j.1[b]?=w.1[b]?)(S:ax (bC who) w j)(V:w.1.size+2<=j.1.size)(z:j.1[w.1.size]?=O (Δ #[I Q x.c,I Q x.b,I Q x.d,Z x.a] 156))
  (T:j.ownsMap prog 9 cB mb (m+1) (D.put (.string x.a.1.toList) (.held (.map (O (w.1.size+1))))))(C:(j.alloc (.map #[] 0)).grownBy V' (O (w.1.size+1)))(X:V'.ownsMap prog 3 cB (w.1.size+1) (0+1) ((DataW.map []).put (.int Q (n:Int)) (.held (.map (O j.1.size))))):
  jZ w V' x tb mb m (m+1) (w.1.size+1) j.1.size 1 0 D (D.put (.string x.a.1.toList) (.held (.map (O (w.1.size+1))))) ((DataW.map []).put (.int Q (n:Int)) (.held (.map (O j.1.size)))) (.map []) A v who W need n r ep:=by
 have hr:=d.t;have K:=d.ζ
 have l:∀e,v x.a e=J:=λe=>by
  cases h:v x.a e with
 |none=>rfl
 |some b=>
   have s:=d.q x.a e;rw[h]at s;have:=(d.u x.a).2 ⟨e,s.symm⟩;rw[F]at this;cases this
 have y:∀e,bz x.a (ep e)=false:=λe=>by rw[<-d.q,l];rfl
 have o:∀b,b<j.1.size->b≠w.1.size+1->V'.1[b]?=j.1[b]?:=λb s E=>by rw[C.block b (by simp;omega) (λe=>E (by simpa using e))];exact cX j _ b s
 refine⟨d,ah ⟨F,om⟩,ah ⟨l n,om⟩,om,ki T (o mb om om),om,λg G=>?_,X,om,λe G=>?_,?_,aX _,λp G=>?_,?_,?_,λb s E L P=>?_⟩
 ·by_cases h:g=x.a
  ·rw[ak h,h,rL d.h.isMap (uw _)];rfl
  rw[ag h,qV (λe=>h (pW (by simpa using e))),d.f]
 ·by_cases h:e=n
  ·rw[ak h,h,rL (oU j prog 3 cB).isMap (AV n)];rfl
  rw[ag h,qV (λe'=>h (by simp at e';omega)),l];rfl
 ·refine ki (oU j prog 3 (plainElem prog 2)) (C.block _ sm (λe=>?_));simp at e;omega
 ·rw[Db (y n)];rfl
 ·rw[o _ om om];exact z
 ·exact S.d ((qe (λb=>b=w.1.size+1) j _).a (eV C (λk U=>by simpa using U.symm))) (λi hi h=>by have h:i=w.1.size+1:=h;omega)
 rw[o b om om];exact R b s E L
theorem Rk(x:ai){mb m:Nat}{D:DataW Value}{tr:ByteArray->Option Nat}{sp:ByteArray->Nat->Option Nat}(d:dI w tb mb m D tr sp who W need n r ep)(hx:dm x=true)(hg:x.a.size<=100000)(hn:n<=1000)(hr:r<=100000)(hl:(ep n).length<20000)(hT:tr x.a=J):
  Φ prog 193 #[Y (O ⟨tb,0,J⟩),.agg #[I Q x.c,I Q x.b,I Q x.d,Z x.a]] w λe w'=>e=N (Ψ #[])/\∃who',cd w' tb who' W need n (r+1) (nK ep n x)/\ax (bC who) w w'/\∀b,bC who' b->bC who b\/w.1.size<=b:=by
 have mixed:prog.follows .mixedOrders=true:=kr;have hmm:=@run_makeMap prog;have HX:=hid hx;have HL:=hid hl;have HSB:H (∀y,y∈ep n->0<=y.b/\y.b<=255):=λy hy=>(km.1 (d.l n y hy)).2;obtain⟨⟨xp0,xp1⟩,xs0,xs1⟩:=km.1 hx;have hbq:∀q,B w.1.size w ((w.alloc (Δ #[I Q x.c,I Q x.b,I Q x.d,Z x.a] 156)).drewN q):=λq=>((aj _ w).l nl _).t ((gp _ q).m sm);obtain⟨v,A,F,u⟩:=x;simp only at hT hg xp0 xp1 xs0 xs1 hbq⊢;have a1:∀q,dI ((w.alloc (Δ #[I Q v,I Q A,I Q F,Z u] 156)).drewN q) tb mb m D tr sp who W need n r ep:=λq=>d.k (hbq q);have a0:∀q,(Instr.lookup 219 (.map (O mb)) (Z u) false).run prog ((w.alloc (Δ #[I Q v,I Q A,I Q F,Z u] 156)).drewN q)=.ok (.map J) ((w.alloc (Δ #[I Q v,I Q A,I Q F,Z u] 156)).drewN q):=λq=>mJ (a1 q).h ju underlying219 vA (lM (g:=u) (by unfold maxLen;omega)) (λzd=>by rw[d.f u,hT]);have hd0:dI (w.alloc (Δ #[I Q v,I Q A,I Q F,Z u] 156)) tb mb m D tr sp who W need n r ep:=d.k ((aj _ w).l nl _);have c3:=hd0.y;have q1:=FM;have HD:=hid d;go_enter func193,ntmps193;go_wp2;go_quiet (fail);go_wp2;have hb1:B w.1.size w ((((w.alloc (Δ #[I Q v,I Q A,I Q F,Z u] 156)).drewN nq).alloc (.map #[] 0))):=(((aj _ w).l nl _).t ((gp _ nq).m sm)).l (by show _<=(w.alloc _).1.size;simp) _;have a1:dI ((((w.alloc (Δ #[I Q v,I Q A,I Q F,Z u] 156)).drewN nq).alloc (.map #[] 0))) tb mb m D tr sp who W need n r ep:=HD.o.k hb1;have hbx:((((w.alloc (Δ #[I Q v,I Q A,I Q F,Z u] 156)).drewN nq).alloc (.map #[] 0))).1[w.1.size]?=O (Δ #[I Q v,I Q A,I Q F,Z u] 156):=by rw[cX _ _ _ (by show _<(w.alloc _).1.size;simp)];exact bn w _
 have hT1:((((w.alloc (Δ #[I Q v,I Q A,I Q F,Z u] 156)).drewN nq).alloc (.map #[] 0))).ownsMap prog 3 cB (w.1.size+1) 0 (.map []):=by have:=oU (((w.alloc (Δ #[I Q v,I Q A,I Q F,Z u] 156))).drewN nq) prog 3 cB;rw[show (((w.alloc (Δ #[I Q v,I Q A,I Q F,Z u] 156))).drewN nq).1.size=w.1.size+1 by show (w.alloc _).1.size=_;simp]at this;exact this
 have hsz1:((((w.alloc (Δ #[I Q v,I Q A,I Q F,Z u] 156)).drewN nq).alloc (.map #[] 0))).1.size=w.1.size+2:=by rw[fi];show (w.alloc _).1.size+1=_;simp
 obtain⟨V,hV⟩:∃V,V=(((w.alloc (Δ #[I Q v,I Q A,I Q F,Z u] 156)).drewN nq).alloc (.map #[] 0)):=⟨_,rfl⟩;rw[<-hV]at hb1 a1 hbx hT1 hsz1⊢;clear hV;have p:V.drew.cell? ⟨tb,3,J⟩=O (.map (O mb))/\V.drew.cell? ⟨w.1.size,3,J⟩=O (Z u):=⟨a1.y,by show V.cell? _=_;simp[World.cell?,hbx]⟩;have HB1:=hid hb1;have HD1:=hid a1;have HBX:=hid hbx;have HT1:=hid hT1;refine fG (S:=λU=>U.cell? ⟨tb,3,J⟩=O (.map (O mb))/\U.cell? ⟨w.1.size,3,J⟩=O (Z u)) kr p (λ_=>?_);refine ar 0 15 (Y (O ⟨tb,0,J⟩)) p ?_;refine ar 1 16 (Y (O ⟨tb,0,J⟩)) p ?_;refine ar 2 17 (Y (O ⟨tb,3,J⟩)) p ?_;refine aF 3 18 (.map (O mb)) rfl rfl kr (λ_ _ _ h=>h) (af ⟨by rfl,λwx G=>by (try dsimp only at G);obtain⟨s1,s2⟩:=G;go_simp⟩) p ?_;simp only[Act.put,az,aA,aB];refine ar 4 19 (Y (O ⟨w.1.size,3,J⟩)) p ?_;refine aF 5 20 (Z u) rfl rfl kr (λ_ _ _ h=>h) (af ⟨by rfl,λwx G=>by (try dsimp only at G);obtain⟨s1,s2⟩:=G;go_simp⟩) p ?_;simp only[Act.put,az,aA,aB];refine ar 7 22 (.map (O (w.1.size+1))) p ?_;refine a9 (rs:=[6]) kr sm ?_;refine aQ rfl (λK hK=>?_) aZ;go_simp;refine(zn u _ hg).m ?_;rintro e w3 ⟨rfl,hb3⟩;have E:=(gp V 1).t hb3;have P:=HD1.o.k E;have hbx3:w3.1[w.1.size]?=O (Δ #[I Q v,I Q A,I Q F,Z u] 156):=by rw[E.block _ om];exact HBX.o
 have hS3:w3.cell? ⟨tb,3,J⟩=O (.map (O mb))/\w3.cell? ⟨w.1.size,3,J⟩=O (Z u):=⟨P.y,by simp[World.cell?,hbx3]⟩;obtain⟨R,X,hm4,z⟩:=P.h.update (val:=.map (O (w.1.size+1))) (d:=.held (.map (O (w.1.size+1)))) (ps:=[]) ju underlying219 (by have:=P.t;unfold maxLen;omega) (lM (g:=u) (by unfold maxLen;omega)) rfl;have hmlt:=HD.o.ζ;have hS4:R.cell? ⟨tb,3,J⟩=O (.map (O mb))/\R.cell? ⟨w.1.size,3,J⟩=O (Z u):=⟨z.cell hS3.1 (λe=>P.ι (by simpa using e.symm)),z.cell hS3.2 (λe=>by simp at e;omega)⟩;have hsz3:=E.size;have hsz4:=z.size;have HT4:H (R.ownsMap prog 3 cB (w.1.size+1) 0 (.map [])):=by refine ki HT1.o ?_;rw[z.block _ om (λe=>by simp at e;omega),E.block _ om]
 have HA:H (∀V',(R.alloc (.map #[] 0)).grownBy V' (O (w.1.size+1))->V'.ownsMap prog 3 cB (w.1.size+1) (0+1) ((DataW.map []).put (.int Q (n:Int)) (.held (.map (O R.1.size))))->jZ w V' ⟨v,A,F,u⟩ tb mb m (m+1) (w.1.size+1) R.1.size 1 0 D (D.put (.string u.1.toList) (.held (.map (O (w.1.size+1))))) ((DataW.map []).put (.int Q (n:Int)) (.held (.map (O R.1.size)))) (.map []) tr sp who W need n r ep):=by
  intro V' h1 h2;refine SD ⟨v,A,F,u⟩ HD.o hT (λb b1 _ b3=>?_) ?_ om ?_ hm4 h1 h2
  ·rw[z.block b om (λe=>b3 (by simpa using e)),E.block b om,HB1.o.block b b1]
  ·exact((bH HB1.o _).d (bH E (bC who)) (λ_ _ h=>h)).a (eV z (λk hk=>by simp at hk;rw[<-hk];exact HD.o.κ))
  rw[z.block _ om (λe=>by simp at e;omega)];exact hbx3
 have HC2:=hid (z.cell P.s (λe=>P.ι (by simpa using e.symm)));refine hK.out _ _ hS3 (λ_=>?_);refine a9 (rs:=[8]) kr sm ?_;refine aQ rfl (λK hK=>?_) aZ;go_simp;refine hK.out _ _ hS4 (λ_=>?_);refine ea kr ?_ _;have hrun2:(Instr.lookup 290 (.map (O (w.1.size+1))) (I Q (n:Int)) false).run prog R=.ok (.map J) R:=mJ HT4.o gX underlying290 rp (jv om om) (λzd=>rfl);have q2:=FN;have hmm:=@run_makeMap prog;have c2:=HC2.o;have hown5:(R.alloc (.map #[] 0)).ownsMap prog 3 cB (w.1.size+1) 0 (.map []):=HT4.o.alloc _;clear HT1 HBX HD1 HB1 hS3 hS4 p HT4 HC2;go_wp2_with (first|(at_mapUpdate;refine wpList_mapUpdate_own _ rfl _ _ _ 290 rfl 3 316 gX underlying290 _ (w.1.size+1) 0 (.map []) rfl hown5 (by unfold maxLen;omega) _ _ _ rfl rfl (jv (k:=(n:Int)) om om) _ [] rfl ?_;intro V5 hown1 hgrow1));have hM:=HA.o V5 hgrow1 hown1;obtain⟨S,hSS⟩:∃S,S=R.1.size:=⟨_,rfl⟩;obtain⟨T,hTT⟩:∃T,T=w.1.size+1:=⟨_,rfl⟩;obtain⟨L,hDT⟩:∃L,L=(DataW.map []:DataW Value).put (.int Q (n:Int)) (.held (.map (O R.1.size))):=⟨_,rfl⟩;obtain⟨D',hD'⟩:∃D',D'=D.put (.string u.1.toList) (.held (.map (O (w.1.size+1)))):=⟨_,rfl⟩;rw[<-hDT,<-hD',<-hSS,<-hTT]at hM;simp only[<-hTT];clear hDT hD' hTT hT;have HM:=hid hM;have HS0:H (∀V,jZ w V ⟨v,A,F,u⟩ tb mb m (m+1) T S 1 0 D D' L (.map []) tr sp who W need n r ep->V.drew.cell? ⟨tb,2,J⟩=O (I Q (n:Int))/\V.drew.cell? ⟨w.1.size,0,J⟩=O (I Q v)/\V.drew.cell? ⟨w.1.size,1,J⟩=O (I Q A)/\V.drew.ownsMap prog 3 cB T 1 L):=λV h=>zo h;clear hM hSS;have hs0:V5.drew.cell? ⟨tb,2,J⟩=O (I Q (n:Int))/\V5.drew.cell? ⟨w.1.size,0,J⟩=O (I Q v)/\V5.drew.cell? ⟨w.1.size,1,J⟩=O (I Q A)/\V5.drew.ownsMap prog 3 cB T 1 L:=HS0.o V5 HM.o;have p:=hs0;have HLT:H (∀U:Ω,U.ownsMap prog 3 cB T 1 L->(Instr.lookup 290 (.map (O T)) (I Q (n:Int)) false).run prog U=.ok (.map (O S)) U):=λU hU=>mJ hU gX underlying290 rp (jv om om) (λzd=>by rw[HM.o.j,ak rfl]);obtain⟨c,hrunc,C,hwc⟩:=HM.o.c.lookup_int gX underlying316 underlying2 (uC V5) (jv (k:=v) om om)
 have HC:H (c=cA u v (ep n)):=by
  rw[HM.o.i]at C;unfold lL at C;cases hse:dl u v (ep n)
  ·rw[hse]at C;simp at C;show c=_;rw[tJ hse];omega
  rw[hse]at C;simp at C;exact C.symm
 have hcb:=rS u v (ep n) HSB.o;rw[<-HC.o]at hcb;have hc0:=hcb.1;have hc1:c<=5100000:=by have:=hcb.2;have:=HL.o;omega
 have hrunc':(Instr.lookup 316 (.map (O S)) (I Q v) false).run prog V5.drew=.ok (I Q c) V5.drew:=by obtain⟨c',hr',ha',_⟩:=(HM.o.c.drew).lookup_int gX underlying316 underlying2 (uC V5.drew) (jv (k:=v) om om);rw[C]at ha';simp at ha';rw[ha'];exact hr'
 obtain⟨w6,X,hm4,z⟩:=(HM.o.c.drew).update (val:=I Q (c+A)) (d:=.lit (.int Q (c+A))) (ps:=[]) gX underlying316 (by have:=HM.o.h;unfold maxLen;omega) (jv (k:=v) om om) (plainElem_int underlying2 (pO (n:=c+A) om));have HR:=hid hrunc';have HU:=hid X;have HFIN:=hid (HM.o.t.s (x:=⟨v,A,F,u⟩) HX.o HL.o z HC.o hm4);have HS6:H (w6.cell? ⟨tb,2,J⟩=O (I Q (n:Int))/\w6.cell? ⟨w.1.size,0,J⟩=O (I Q v)/\w6.cell? ⟨w.1.size,1,J⟩=O (I Q A)/\w6.ownsMap prog 3 cB T 1 L):=by obtain⟨s1,s2,s3,s4⟩:=hs0;have hne:=HM.o.o;exact⟨z.cell s1 (λe=>hne.2.1 (by simpa using e.symm)),z.cell s2 (λe=>hne.2.2 (by simpa using e.symm)),z.cell s3 (λe=>hne.2.2 (by simpa using e.symm)),s4.kept z (λe=>HM.o.f (by simpa using e))⟩
 refine fG (S:=λU=>U.cell? ⟨tb,2,J⟩=O (I Q (n:Int))/\U.cell? ⟨w.1.size,0,J⟩=O (I Q v)/\U.cell? ⟨w.1.size,1,J⟩=O (I Q A)/\U.ownsMap prog 3 cB T 1 L) kr p (λ_=>?_);refine ar 0 36 (.map (O T)) p ?_;refine ar 1 37 (Y (O ⟨tb,0,J⟩)) p ?_;refine ar 2 38 (Y (O ⟨tb,0,J⟩)) p ?_;refine ar 3 39 (Y (O ⟨tb,2,J⟩)) p ?_;refine aF 4 40 (I Q (n:Int)) rfl rfl kr (λ_ _ _ h=>h) (af ⟨by rfl,λwx G=>by (try dsimp only at G);obtain⟨s1,s2,s3,s4⟩:=G;go_simp⟩) p ?_;simp only[Act.put,az,aA,aB];refine aF 5 41 (.map (O S)) rfl rfl kr (λ_ _ _ h=>h) (af ⟨by rfl,λwx G=>by (try dsimp only at G);obtain⟨s1,s2,s3,s4⟩:=G;have a0:=HLT.o _ s4;go_simp⟩) p ?_;simp only[Act.put,az,aA,aB];refine ar 6 42 (Y (O ⟨w.1.size,0,J⟩)) p ?_;refine aF 7 43 (I Q v) rfl rfl kr (λ_ _ _ h=>h) (af ⟨by rfl,λwx G=>by (try dsimp only at G);obtain⟨s1,s2,s3,s4⟩:=G;go_simp⟩) p ?_;simp only[Act.put,az,aA,aB];refine ar 9 45 (Y (O ⟨w.1.size,1,J⟩)) p ?_;refine aF 10 46 (I Q A) rfl rfl kr (λ_ _ _ h=>h) (af ⟨by rfl,λwx G=>by (try dsimp only at G);obtain⟨s1,s2,s3,s4⟩:=G;go_simp⟩) p ?_;simp only[Act.put,az,aA,aB];refine a9 (rs:=[8]) kr sm ?_;refine aQ rfl (λK hK=>?_) aZ;have a0:=HR.o;go_simp;refine hK.out _ _ p (λ_=>?_);refine aF 11 47 (I Q (c+A)) rfl rfl kr (λ_ _ _ h=>h) (af ⟨by rfl,λwx _=>by go_simp;exact IntWalk.i64_in _ om⟩) p ?_;simp only[Act.put,az,aA,aB];refine a9 (rs:=[12]) kr sm ?_;refine aQ rfl (λK hK=>?_) aZ;have a0:=HU.o;go_simp;refine hK.out _ _ HS6.o (λ_=>?_);refine ea kr ?_ _;go_wp2;go_end0;exact⟨rfl,HFIN.o⟩
theorem Nq(x:ai)(d:cd w tb who W need n r ep)(h:dm x=true)(j:x.a.size<=100000)(g:n<=1000)(i:r<=100000)(f:(ep n).length<20000):
  Φ prog 193 #[Y (O ⟨tb,0,J⟩),.agg #[I Q x.c,I Q x.b,I Q x.d,Z x.a]] w λe k=>e=N (Ψ #[])/\∃who',cd k tb who' W need n (r+1) (nK ep n x)/\ax (bC who) w k/\∀b,bC who' b->bC who b\/w.1.size<=b:=by
 obtain⟨p,m,D,l,o,d⟩:=d.c;cases hT:l x.a with
 |none=>exact Rk x d h j g i f hT
 |some T=>
  cases hS:o x.a n with
 |none=>exact Q5 x d h j g i f hT hS
 |some S=>exact Q6 x d h j g i f hT hS
end
end
section
open Go.RowKit Go.Maps
theorem Lw(c b:Nat)(s s':Int)(w:Ω):
  Φ prog 242 #[.agg #[I Q (c:Int),I Q s],.agg #[I Q (b:Int),I Q s']] w λe i=>e=N (.bool (rx c s b s'))/\B w.1.size w i:=by
 have d:∀o a:Obj,B w.1.size w ((w.alloc o).alloc a):=λo a=>((aj _ w).l nl o).l sm a;have f:H (∀o a:Obj,B w.1.size w ((w.alloc o).alloc a)):=d;clear d;unfold rx;by_cases h:c=b
 ·subst h;rw[ak rfl];have g:(!((c:Int) == (c:Int)))=false:=by simp
  go_enter func242,ntmps242;go_wp2;go_ret;exact⟨rfl,f.o _ _⟩
 rw[ag h];have g:(!((c:Int) == (b:Int)))=true:=by simp;omega
 go_enter func242,ntmps242;go_wp2;go_ret;exact⟨rfl,f.o _ _⟩
end
section
open Go.RowKit Go.Maps
def eh(c:Nat->Nat)(s:Nat->Int):Array Value:=#[I Q (c 0:Int),I Q (s 0),I Q (c 1:Int),I Q (s 1),I Q (c 2:Int),I Q (s 2),I Q (c 3:Int),I Q (s 3),I Q (c 4:Int),I Q (s 4),I Q (c 5:Int),I Q (s 5),I Q (c 6:Int),I Q (s 6),I Q (c 7:Int),I Q (s 7)]
theorem TG(c:Nat->Nat)(s:Nat->Int)(V:Ω):(Instr.index 294 (.agg (eh c s)) (I Q 0)).run prog V=.ok (.agg #[I Q (c 0:Int),I Q (s 0)]) V:=kr
theorem TH(c:Nat->Nat)(s:Nat->Int)(V:Ω):(Instr.index 294 (.agg (eh c s)) (I Q 1)).run prog V=.ok (.agg #[I Q (c 1:Int),I Q (s 1)]) V:=kr
theorem TI(c:Nat->Nat)(s:Nat->Int)(V:Ω):(Instr.index 294 (.agg (eh c s)) (I Q 2)).run prog V=.ok (.agg #[I Q (c 2:Int),I Q (s 2)]) V:=kr
theorem TJ(c:Nat->Nat)(s:Nat->Int)(V:Ω):(Instr.index 294 (.agg (eh c s)) (I Q 3)).run prog V=.ok (.agg #[I Q (c 3:Int),I Q (s 3)]) V:=kr
theorem TK(c:Nat->Nat)(s:Nat->Int)(V:Ω):(Instr.index 294 (.agg (eh c s)) (I Q 4)).run prog V=.ok (.agg #[I Q (c 4:Int),I Q (s 4)]) V:=kr
theorem TM(c:Nat->Nat)(s:Nat->Int)(V:Ω):(Instr.index 294 (.agg (eh c s)) (I Q 5)).run prog V=.ok (.agg #[I Q (c 5:Int),I Q (s 5)]) V:=kr
theorem TN(c:Nat->Nat)(s:Nat->Int)(V:Ω):(Instr.index 294 (.agg (eh c s)) (I Q 6)).run prog V=.ok (.agg #[I Q (c 6:Int),I Q (s 6)]) V:=kr
theorem TO(c:Nat->Nat)(s:Nat->Int)(V:Ω):(Instr.index 294 (.agg (eh c s)) (I Q 7)).run prog V=.ok (.agg #[I Q (c 7:Int),I Q (s 7)]) V:=kr
theorem PN(c:Nat->Nat)(s:Nat->Int)(j:Nat)(V:Ω)(a:j<8):(Instr.index 294 (.agg (eh c s)) (I Q (j:Int))).run prog V=.ok (.agg #[I Q (c j:Int),I Q (s j)]) V:=by
 have h:j=0\/j=1\/j=2\/j=3\/j=4\/j=5\/j=6\/j=7:=om;rcases h with rfl|rfl|rfl|rfl|rfl|rfl|rfl|rfl
 ·exact TG c s V
 ·exact TH c s V
 ·exact TI c s V
 ·exact TJ c s V
 ·exact TK c s V
 ·exact TM c s V
 ·exact TN c s V
 exact TO c s V
theorem Ej{V:Ω}{a:Nat}{c:Nat->Nat}{s:Nat->Int}(h:V.1[a]?=O (Δ (eh c s) 294)){q:Nat}(d:q<8):V.cell? ⟨a,q*2,J⟩=O (I Q (c q:Int))/\V.cell? ⟨a,q*2+1,J⟩=O (I Q (s q)):=by have b:q=0\/q=1\/q=2\/q=3\/q=4\/q=5\/q=6\/q=7:=om;rcases b with rfl|rfl|rfl|rfl|rfl|rfl|rfl|rfl<;>simp[World.cell?,h,eh]
section
variable {w:Ω}{tb:Nat}{who:Nat->Nat×ByteArray×Nat}{W need n r:Nat}{ep:Nat->List ai}
theorem Nr(c:Nat->Nat)(s:Nat->Int)(d:cd w tb who W need n r ep):
  Φ prog 202 #[Y (O ⟨tb,0,J⟩),.agg (eh c s)] w λe w'=>e=N (I Q (gc need c s 8))/\B w.1.size w w':=by
 have mixed:prog.follows .mixedOrders=true:=kr;have HD:H (cd w tb who W need n r ep):=d;clear d;unfold eh;have g:∀(j:Nat)(V:Ω),j<8->(Instr.index 294 (.agg #[I Q (c 0:Int),I Q (s 0),I Q (c 1:Int),I Q (s 1),I Q (c 2:Int),I Q (s 2),I Q (c 3:Int),I Q (s 3),I Q (c 4:Int),I Q (s 4),I Q (c 5:Int),I Q (s 5),I Q (c 6:Int),I Q (s 6),I Q (c 7:Int),I Q (s 7)]) (I Q (j:Int))).run prog V=.ok (.agg #[I Q (c j:Int),I Q (s j)]) V:=by exact λj V hj=>PN c s j V hj
 have L:H (∀(j:Nat)(V:Ω),j<8->(Instr.index 294 (.agg #[I Q (c 0:Int),I Q (s 0),I Q (c 1:Int),I Q (s 1),I Q (c 2:Int),I Q (s 2),I Q (c 3:Int),I Q (s 3),I Q (c 4:Int),I Q (s 4),I Q (c 5:Int),I Q (s 5),I Q (c 6:Int),I Q (s 6),I Q (c 7:Int),I Q (s 7)]) (I Q (j:Int))).run prog V=.ok (.agg #[I Q (c j:Int),I Q (s j)]) V):=g;have G:H ((w.alloc (Δ #[I Q (c 0:Int),I Q (s 0),I Q (c 1:Int),I Q (s 1),I Q (c 2:Int),I Q (s 2),I Q (c 3:Int),I Q (s 3),I Q (c 4:Int),I Q (s 4),I Q (c 5:Int),I Q (s 5),I Q (c 6:Int),I Q (s 6),I Q (c 7:Int),I Q (s 7)] 294)).1[w.1.size]?=O (Δ (eh c s) 294)):=bn w _;have HB0:H (∀o,B w.1.size w (w.alloc o)):=λo=>(aj _ w).l nl o;clear g;go_enter func202,ntmps202;go_wp2;obtain⟨V0,y⟩:∃V0,V0=(w.alloc (Δ #[I Q (c 0:Int),I Q (s 0),I Q (c 1:Int),I Q (s 1),I Q (c 2:Int),I Q (s 2),I Q (c 3:Int),I Q (s 3),I Q (c 4:Int),I Q (s 4),I Q (c 5:Int),I Q (s 5),I Q (c 6:Int),I Q (s 6),I Q (c 7:Int),I Q (s 7)] 294)):=⟨_,rfl⟩;have HB1:H (B w.1.size w V0):=by rw[y];exact HB0.o _
 rw[<-y]at G⊢;clear y;generalize (Value.agg #[I Q (c 0:Int),I Q (s 0),I Q (c 1:Int),I Q (s 1),I Q (c 2:Int),I Q (s 2),I Q (c 3:Int),I Q (s 3),I Q (c 4:Int),I Q (s 4),I Q (c 5:Int),I Q (s 5),I Q (c 6:Int),I Q (s 6),I Q (c 7:Int),I Q (s 7)])=A at L⊢;go_loopw [5,6,7,9] (λb _ _ k V=>∃j:Nat,j<=8/\k=I Q (j:Int)/\b=I Q (gc need c s j)/\V.1[w.1.size]?=O (Δ (eh c s) 294)/\B w.1.size w V) (λ_ _ _ k _=>8-(intOf k).toNat)
 case atStart=>exact⟨0,om,rfl,rfl,G.o,HB1.o⟩
 obtain⟨j,hj,rfl,rfl,i,h⟩:=hrel;by_cases h8:j<8
 case neg=>obtain rfl:j=8:=om;have x:H (B w.1.size w wr):=h;clear h i;go_wp2;go_ret;exact⟨rfl,x.o⟩
 have hjI:(j:Int)<8:=om;have g:(Instr.index 294 A (I Q (j:Int))).run prog wr=.ok (.agg #[I Q (c j:Int),I Q (s j)]) wr:=L.o j wr h8;have hsz:=h.size;have X:w.1.size<wr.1.size:=(bP.1 i).1;have hd:=(HD.o.a h).a ((aj _ wr).l nl (Δ #[I Q (c j:Int),I Q (s j)] 293));have c1:(wr.alloc (Δ #[I Q (c j:Int),I Q (s j)] 293)).cell? ⟨tb,1,J⟩=O (I Q (need:Int)):=(by obtain⟨mb,m,D,tr,sp,d⟩:=hd.c;exact d.ξ);have x:H (B w.1.size w (wr.alloc (Δ #[I Q (c j:Int),I Q (s j)] 293))):=h.l hsz _;have C:H (∀o,(wr.alloc o).1[w.1.size]?=O (Δ (eh c s) 294)):=λo=>(cX wr o _ X).trans i;clear h i hd;have f:gc need c s (j+1)=if c j<need then gc need c s j else if gc need c s j=-1\/rx (c j) (s j) (c (gc need c s j).toNat) (s (gc need c s j).toNat)=true then (j:Int) else gc need c s j:=rfl
 have R:=@zj need c s j;by_cases h1:c j<need
 ·have h1':decide ((c j:Int)<need)=true:=(by simp;omega);rw[ak h1]at f;go_wp2;go_quiet (fail);clear c1 g;go_wp2;go_roundw
  case rel=>exact⟨j+1,om,by go_num,by rw[f],by show (wr.alloc _).1[_]?=_;exact C.o _,x.o.t ((gp _ _).m x.o.size)⟩
  simp[intOf];omega
 have h1':decide ((c j:Int)<need)=false:=(by simp;omega);rw[ag h1]at f;by_cases U:gc need c s j=-1
 ·rw[ak (af U)]at f;rw[U];clear R U;go_wp2;go_quiet (fail);clear c1 g;go_wp2;go_quiet (fail);go_wp2;go_roundw
  case rel=>exact⟨j+1,om,by go_num,by rw[f],by show (wr.alloc _).1[_]?=_;exact C.o _,x.o.t ((gp _ _).m x.o.size)⟩
  simp[intOf];omega
 obtain⟨q,hq⟩:∃q:Nat,gc need c s j=(q:Int):=⟨(gc need c s j).toNat,om⟩;have P:q<8:=om;have hqI:(q:Int)<8:=om;have hqn:((q:Int) == -1)=false:=(by simp);rw[hq]at f⊢;have hnm:¬(q:Int)=-1:=om;simp only[hnm,false_or,ir]at f;obtain⟨b,hb⟩:∃b,b=rx (c j) (s j) (c q) (s q):=⟨_,rfl⟩;rw[<-hb]at f;have a0:H (∀V:Ω,Φ prog 242 #[.agg #[I Q (c j:Int),I Q (s j)],.agg #[I Q (c q:Int),I Q (s q)]] V λe w'=>e=N (.bool b)/\B V.1.size V w'):=λV=>hb ▸ Lw (c j) (c q) (s j) (s q) V;clear R U hb hq;go_wp2;go_quiet (fail);clear c1 g;go_wp2;obtain⟨V,S⟩:∃V,V=(wr.alloc (Δ #[I Q (c j:Int),I Q (s j)] 293)).drewN nq:=⟨_,rfl⟩;have u:V.1[w.1.size]?=O (Δ (eh c s) 294):=(by rw[S];exact C.o _);have v:H (B w.1.size w V):=(by rw[S];exact x.o.t ((gp _ _).m x.o.size));have z:V.1[wr.1.size]?=O (Δ #[I Q (c j:Int),I Q (s j)] 293):=(by rw[S];exact bn wr _);rw[<-S];clear S;have k0:=cell_regrown (Ej u P).1;have k1:=cell_regrown (Ej u P).2;have k2:=cell_regrown (show V.cell? ⟨wr.1.size,0,J⟩=O (I Q (c j:Int)) by simp[World.cell?,z]);have k3:=cell_regrown (show V.cell? ⟨wr.1.size,1,J⟩=O (I Q (s j)) by simp[World.cell?,z]);have F:H (V.1[w.1.size]?=O (Δ (eh c s) 294)):=u;clear u z;refine wp_region_quiet_below kr kr ?_
 repeat (go_big_quiet_step (first|with_reducible exact Calls.regrown_of (a0.o _)))
 refine gq ?_;intro _ hw';obtain⟨⟨T,p⟩,E⟩:=hw';subst E;clear k0 k1 k2 k3;have HR:H (B V.1.size V (Sort.grow (redrawn V T) p)):=below_regrown V T p;have K:H ((Sort.grow (redrawn V T) p).1[w.1.size]?=O (Δ (eh c s) 294)):=(HR.o.block _ (bP.1 F.o).1).trans F.o;generalize Sort.grow (redrawn V T) p=V2 at *;cases b with
 |true=>
  go_wp2;go_roundw
  case rel=>exact⟨j+1,om,by go_num,by rw[f];rfl,K.o,v.o.t (HR.o.m v.o.size)⟩
  simp[intOf];omega
 |false=>
  go_wp2;go_roundw
  case rel=>exact⟨j+1,om,by go_num,by rw[f];rfl,K.o,v.o.t (HR.o.m v.o.size)⟩
  simp[intOf];omega
end
end
section
open Go.RowKit Go.Maps
def iU(c:Nat->Nat)(s:Nat->Int)(i:Nat):Value:=if i%2=0 then I Q (c (i/2):Int) else I Q (s (i/2))
theorem Fj(c:Nat->Nat)(s:Nat->Int)(p:Nat):iU c s (p*2)=I Q (c p:Int):=by unfold iU;rw[ak om,Nat.mul_div_cancel _ om]
theorem FU(c:Nat->Nat)(s:Nat->Int)(p:Nat):iU c s (p*2+1)=I Q (s p):=by unfold iU;rw[ag om,show (p*2+1)/2=p by omega]
theorem PO{V:Ω}{C:Nat}{c:Nat->Nat}{s:Nat->Int}{p:Nat}{v f e:Int}(h:V.rowIs C 294 16 (iU c s))(g:f=(c p:Int)+1)(j:e=s p+v):
  ((V.setCell ⟨C,p*2,J⟩ (I Q f)).setCell ⟨C,p*2+1,J⟩ (I Q e)).rowIs C 294 16 (iU (λq=>c q+if q=p then 1 else 0) (λq=>s q+if q=p then v else 0)):=by
 refine((h.set _ _).set _ _).congr (λi k=>?_);subst g j;by_cases d:i=p*2+1
 ·rw[ak d,d,FU,ak rfl]
 rw[ag d];by_cases b:i=p*2
 ·rw[ak b,b,Fj,ak rfl];congr 1
 rw[ag b];unfold iU;have a:i/2≠p:=om;simp only[ag a];simp
theorem PQ{V:Ω}{C:Nat}{c:Nat->Nat}{s:Nat->Int}(h:V.rowIs C 294 16 (iU c s)):V.1[C]?=O (Δ (eh c s) 294):=by
 obtain⟨a,f,g,b⟩:=h;rw[f];congr 2;apply pQ;intro i;by_cases d:i<16
 ·rw[b i d];have e:i=0\/i=1\/i=2\/i=3\/i=4\/i=5\/i=6\/i=7\/i=8\/i=9\/i=10\/i=11\/i=12\/i=13\/i=14\/i=15:=om;rcases e with rfl|rfl|rfl|rfl|rfl|rfl|rfl|rfl|rfl|rfl|rfl|rfl|rfl|rfl|rfl|rfl<;>rfl
 rw[j8 om,j8 (by show 16<=i;omega)]
theorem Ns{c a:Nat->Nat}{s s':Nat->Int}(b:∀q,c q=a q)(d:∀q,s q=s' q){i:Nat}:iU c s i=iU a s' i:=by unfold iU;rw[b,d]
theorem Nt(w:Ω)(C i k:Nat)(u v:Value):w.grownBy ((w.setCell ⟨C,i,J⟩ u).setCell ⟨C,k,J⟩ v) (O C):=by refine⟨rfl,rfl,rfl,by simp[World.setCell],λb _ c=>?_⟩;have a:b≠C:=λe=>c (by rw[e]);rw[bN _ _ _ _ a,bN _ _ _ _ a]
theorem tH{a b:Ω}{C c:Nat}(h:a.grownBy b (O C))(f:c<=C)(g:c<=a.1.size):B c a b:=
 ⟨h.os,h.tape,h.output,h.size,λk d=>h.block k om (λe=>by simp at e;omega)⟩
theorem tA(b:Nat):∀(vs:List Value)(o:Nat)(w:Ω)(a:Nat),a<=b->B a w (w.setCells b o vs)
 |[],_,w,_,_=>aj _ w
 |v::r,o,w,a,hB=>by rw[World.setCells];exact((aj _ w).c (p:=⟨b,o,J⟩) hB v).t (tA b r (o+1) _ a hB)
theorem yP{P:Program}{fn:Func}{p:Tmp}{ty:TypeId}(h:fn.results=#[.cell p ty])(a:Array Value)(w:Ω)(g:Nat)(A:Array Value)(d:a.getD p undef=Y (O ⟨g,0,J⟩))(c:(loadVar ty ⟨g,0,J⟩).run P w=.ok (.agg A) w):(results fn a).run P w=.ok (.agg A) w:=by
 have b:a[p]?.getD undef=Y (O ⟨g,0,J⟩):=by simpa using d
 simp[results,h,b,asAddr,c]
theorem ye(g:ByteArray)(p:Int)(ep:Nat->List ai)(L j:Nat):gy g p ep L (j+1)=gy g p ep L j+(if dl g p (ep (L+j))=true then 1 else 0):=rfl
theorem yj(g:ByteArray)(p:Int)(ep:Nat->List ai)(L j:Nat):fE g p ep L (j+1)=fE g p ep L j+cA g p (ep (L+j)):=rfl
theorem xP{W e:Nat}:max 0 ((e:Int)-W+1)=((cu W e:Nat):Int):=by unfold cu;omega
theorem FV:∀i,i<(#[I Q 0,I Q 0,I Q 0,I Q 0,I Q 0,I Q 0,I Q 0,I Q 0,I Q 0,I Q 0,I Q 0,I Q 0,I Q 0,I Q 0,I Q 0,I Q 0]:Array Value).size->(#[I Q 0,I Q 0,I Q 0,I Q 0,I Q 0,I Q 0,I Q 0,I Q 0,I Q 0,I Q 0,I Q 0,I Q 0,I Q 0,I Q 0,I Q 0,I Q 0]:Array Value)[i]?=O ((λ_=>I Q 0) i):=by intro i a;have a:i<16:=a;have b:i=0\/i=1\/i=2\/i=3\/i=4\/i=5\/i=6\/i=7\/i=8\/i=9\/i=10\/i=11\/i=12\/i=13\/i=14\/i=15:=om;rcases b with rfl|rfl|rfl|rfl|rfl|rfl|rfl|rfl|rfl|rfl|rfl|rfl|rfl|rfl|rfl|rfl<;>rfl
section
variable {w:Ω}{tb:Nat}{who:Nat->Nat×ByteArray×Nat}{W need n r:Nat}{ep:Nat->List ai}
theorem Lx(g:ByteArray)(e:Nat){mb m T:Nat}{D:DataW Value}{tr:ByteArray->Option Nat}{sp:ByteArray->Nat->Option Nat}(d:dI w tb mb m D tr sp who W need n r ep)(hT:tr g=O T)(hW:W<=8)(he:e<=1000):
  Φ prog 203 #[Y (O ⟨tb,0,J⟩),.map (O T),I Q (e:Int)] w λx w'=>x=N (.agg (eh (kL g ep W e) (lx g ep W e)))/\B w.1.size w w':=by
 have HD:=hid d;have hb2:∀o o':Obj,B w.1.size w ((w.alloc o).alloc o'):=λo o'=>((aj _ w).l nl o).l sm o';have HB2:=hid hb2;have c0:∀o o':Obj,((w.alloc o).alloc o').cell? ⟨tb,0,J⟩=O (I Q (W:Int)):=λo o'=>by rw[(hb2 o o').cell d.ε];exact d.ν
 have hWI:(W:Int)<=8:=om;have heI:(e:Int)<=1000:=om;have hml:=@xP W e;go_enter func203,ntmps203;go_wp2;obtain⟨V0,hV0⟩:∃V0,V0=((w.alloc (Δ #[I Q 0,I Q 0,I Q 0,I Q 0,I Q 0,I Q 0,I Q 0,I Q 0,I Q 0,I Q 0,I Q 0,I Q 0,I Q 0,I Q 0,I Q 0,I Q 0] 294)).alloc (Δ #[I Q 0,I Q 0,I Q 0,I Q 0,I Q 0,I Q 0,I Q 0,I Q 0,I Q 0,I Q 0,I Q 0,I Q 0,I Q 0,I Q 0,I Q 0,I Q 0] 294)):=⟨_,rfl⟩;have HV0:H (B w.1.size w V0):=by rw[hV0];exact HB2.o _ _
 have X:H (V0.rowIs w.1.size 294 16 (λ_=>I Q 0)/\V0.rowIs (w.1.size+1) 294 16 (iU (λ_=>0) (λ_=>0))):=by rw[hV0];refine⟨(World.rowIs_alloc w _ 294 (λ_=>I Q 0) FV).alloc _,?_⟩;have:=World.rowIs_alloc (w.alloc (Δ #[I Q 0,I Q 0,I Q 0,I Q 0,I Q 0,I Q 0,I Q 0,I Q 0,I Q 0,I Q 0,I Q 0,I Q 0,I Q 0,I Q 0,I Q 0,I Q 0] 294)) _ 294 (λ_=>I Q 0) FV;rw[fi]at this;exact this.congr (λi _=>by unfold iU;split<;>rfl)
 rw[<-hV0];obtain⟨L,hL⟩:∃L,L=cu W e:=⟨_,rfl⟩;have hL1:L<=e+1:=by rw[hL];unfold cu;omega
 have HL:=hid hL;rw[<-hL]at hml⊢;clear hL;go_loopw [8,9,10] (λv _ _ V=>∃j:Nat,j<=e+1-L/\v=I Q ((L+j:Nat):Int)/\V.rowIs w.1.size 294 16 (λ_=>I Q 0)/\V.rowIs (w.1.size+1) 294 16 (iU (λp=>gy g (p:Int) ep L j) (λp=>fE g (p:Int) ep L j))/\B w.1.size w V) (λv _ _ _=>e+1-(intOf v).toNat)
 case atStart=>exact⟨0,aX _,rfl,X.o.1,X.o.2,HV0.o⟩
 obtain⟨j,hj,rfl,G,b,u⟩:=hrel;by_cases hlt:L+j<=e
 case neg=>have hjj:j=e+1-L:=om;have hI:¬((L+j:Nat):Int)<=e:=om;subst hjj;have a2:=hid u;have hbl':=u;have e1:(λp:Nat=>gy g (p:Int) ep L (e+1-L))=kL g ep W e:=(by funext p;unfold kL;rw[<-HL.o]);have e2:(λp:Nat=>fE g (p:Int) ep L (e+1-L))=lx g ep W e:=(by funext p;unfold lx;rw[<-HL.o]);rw[e1,e2]at b;obtain⟨c,hc⟩:∃c,c=kL g ep W e:=⟨_,rfl⟩;obtain⟨s,hs⟩:∃s,s=lx g ep W e:=⟨_,rfl⟩;rw[<-hc,<-hs]at b;have HC:H (eh c s=eh (kL g ep W e) (lx g ep W e)):=(by rw[hc,hs];exact rfl);have hra:wr.rangeAt (w.1.size+1) 0 (eh c s).toList:=λi v hv=>(by have hb1:=PQ b;simp only[World.cell?,hb1,dj];simpa using hv);have hth:wr.there w.1.size 0 16:=λi hi=>(by rw[dj,G.cell hi];exact⟨rfl,G.frozen i⟩);have F:(eh c s).all (·.oneCell')=true:=(by simp[eh,Value.oneCell']);have hsz:(eh c s).size=16:=rfl;have HF:H (B w.1.size w (wr.setCells w.1.size 0 (eh c s).toList)/\(wr.setCells w.1.size 0 (eh c s).toList).rangeAt w.1.size 0 (eh c s).toList):=(by refine⟨hbl'.t (tA _ _ _ _ _ nl),World.rangeAt_setCells_same wr w.1.size 0 (eh c s).toList ?_⟩;exact hth);have hlv:=run_loadVar_mid _ _ _ 294 _ _ HF.o.2 underlying294 rfl kr;rw[rO]at hlv;have hi:(prog.info? 294).map (·.size)=O (eh c s).size:=kr;have hi':(prog.info? 294).map (·.size)=O (eh c s).toList.length:=kr;rw[<-hsz]at hth;generalize eh c s=A at *;go_wp2_with (first|(refine wpList_load_mid rfl 294 (.tmp 7) rfl (w.1.size+1) 0 rfl A.toList _ hra underlying294 rfl hi' ?_)|(refine wpList_store_mid rfl 294 (.tmp 6) (.tmp 48) rfl w.1.size 0 A rfl rfl hth hi F ?_));refine bK (v:=.agg A) ?_ rfl ⟨congrArg (λa=>Ending.returned (.agg a)) HC.o,HF.o.1⟩;exact yP (P:=prog) (fn:=f203) (p:=6) (ty:=294) rfl _ _ w.1.size A rfl hlv
 have hI:((L+j:Nat):Int)<=e:=om;obtain⟨E,hE⟩:∃E,E=L+j:=⟨_,rfl⟩;rw[<-hE]at hI⊢;have HE:H (E=L+j):=hE;have hE9:E<=1000:=om;have hj':j<e+1-L:=om;clear hE hlt hj;have X:=hid G;have HR1:=hid b;have a2:=hid u;have hd:=HD.o.k u;obtain⟨mT,DT,t1,t2,t3⟩:=hd.v g T hT;cases hS:sp g E with
 |none=>
  have hrun:(Instr.lookup 290 (.map (O T)) (I Q (E:Int)) false).run prog wr=.ok (.map J) wr:=mJ t1 gX underlying290 rp (jv om om) (λzd=>by rw[t3,hS]);have hrg:=run_range_nilMap (P:=prog) wr 316 3 2 underlying316;have hnx:=run_next_nilMap (P:=prog) wr 0 0 0 #[];have HSE:H (bz g (ep E)=false):=(by show _=_;rw[<-hd.q,hS];rfl);clear t1 t2 t3 G b u hd;go_wp2;go_loopw [9,10] (λ_ _ V=>V=wr.alloc (.mapIter J 0 #[] 0)) (λ_ _ _=>0)
  case atStart=>rfl
  subst hrel;go_wp2;refine⟨⟨j+1,om,by rw[HE.o];congr 1,X.o.alloc _,(HR1.o.alloc _).congr (λi _=>?_),a2.o.l a2.o.size _⟩,by simp[intOf];omega⟩
  have e1:∀p:Int,dl g p (ep (L+j))=false:=λp=>by
   cases h:dl g p (ep (L+j))
   ·rfl
   have:=yJ h;rw[<-HE.o,HSE.o]at this;cases this
  have e2:∀p:Int,cA g p (ep (L+j))=0:=λp=>tJ (e1 p);unfold iU;simp only[ye,yj,e1,e2];simp
 |some S=>
  have hrun:(Instr.lookup 290 (.map (O T)) (I Q (E:Int)) false).run prog wr=.ok (.map (O S)) wr:=mJ t1 gX underlying290 rp (jv om om) (λzd=>by rw[t3,hS]);obtain⟨mS,DS,s1,s2,s3⟩:=hd.η g E S hS;have HOK:H (∀p:Int,dl g p (ep E)=true->0<=p/\p<=7):=λp hp=>(by obtain⟨x,F,_,h3⟩:=wJ.1 hp;rw[<-h3];exact(km.1 (hd.l E x F)).1);have HSB:H (∀p:Int,0<=cA g p (ep E)/\cA g p (ep E)<=5100000):=λp=>(by have F:=rS g p (ep E) (λx hx=>(km.1 (hd.l E x hx)).2);have h2:=hd.δ E;omega);have HSM:H (∀p:Int,0<=fE g p ep L j/\fE g p ep L j<=5100000*(j:Int)):=λp=>zS g p ep L hd.δ (λe x hx=>(km.1 (hd.l e x hx)).2) j;have HS3:=hid s3;have HSC:H (S≠w.1.size/\S≠w.1.size+1):=(by have F:=HD.o.a S (HD.o.γ hS);exact⟨om,om⟩);have hj8:j<=8:=(by have:=HL.o;unfold cu at this;omega);have hsz:=b.lt;clear t1 t2 t3 G b u hd s3;obtain⟨RB,hRB⟩:∃RB,RB=wr.1.size:=⟨_,rfl⟩;have hRBw:w.1.size+1<RB:=om;go_wp2_with (first|(at_range;refine wpList_range_own _ rfl _ 316 rfl 3 2 gX underlying316 _ S mS DS rfl s1 ?_;intro w0 a1 K hs0));go_frame;rw[<-hRB]at a1 hs0⊢;go_loopw [9,10] (λ_ _ V=>∃left cn,V.ranges prog 3 (plainElem prog 2) S RB mS DS left cn/\V.rowIs w.1.size 294 16 (λ_=>I Q 0)/\V.rowIs (w.1.size+1) 294 16 (iU (λp=>gy g (p:Int) ep L j+if dl g (p:Int) (ep E)=true/\left (.int Q (p:Int))=false then 1 else 0) (λp=>fE g (p:Int) ep L j+if dl g (p:Int) (ep E)=true/\left (.int Q (p:Int))=false then cA g (p:Int) (ep E) else 0))/\B w.1.size w V) (λ_ _ V=>V.rangeLeft S RB)
  case atStart=>
   refine⟨_,_,a1,X.o.of_block (K.block _ om sm),(HR1.o.of_block (K.block _ om sm)).congr (λi _=>?_),a2.o.t ?_⟩
   ·have hh:∀p:Nat,¬(dl g (p:Int) (ep E)=true/\has DS (.int Q (p:Int))=false):=λp h=>(by have F:has DS (.int Q (p:Int))=true:=has_true_of_atKey (y:=.lit (.int Q (cA g (p:Int) (ep E)))) (λz=>by rw[HS3.o];unfold lL;rw[ak h.1]);rw[h.2]at F;cases F);unfold iU;simp only[hh];simp
   exact⟨K.os,K.tape,K.output,K.size,λk hk=>K.block k om sm⟩
  obtain⟨left,cn,hrg,G,b,u⟩:=hrel;have R:=hid G;have U:=hid u;clear a1 K hs0 hrun s1 hRB X HR1 a2 u G;go_wp2_with (first|(at_next;refine wpList_next_ranges_ii _ rfl _ rfl 3 2 Q Q gX underlying3 underlying2 S RB mS _ _ _ rfl hrg ?_ ?_))
  ·intro hc0 hl0
   have HR1':H (wr.rowIs (w.1.size+1) 294 16 (iU (λp=>gy g (p:Int) ep L (j+1)) (λp=>fE g (p:Int) ep L (j+1)))):=by
    refine b.congr (λi _=>?_);unfold iU;simp only[ye,yj,<-HE.o,hl0,and_true]
    have hz:∀p:Int,(if dl g p (ep E)=true then cA g p (ep E) else 0)=cA g p (ep E):=λp=>by
     cases h:dl g p (ep E)
     ·rw[tJ h];simp
     simp
    simp only[hz]
   go_wp2;refine⟨⟨j+1,om,by rw[HE.o];congr 1,R.o,HR1'.o,U.o⟩,by simp[intOf];omega⟩
  intro x c w1 cnt1 hwx hwc hlx hat hrg1 hlt hg1 hs1 hen
  have a0:dl g x (ep E)=true/\c=cA g x (ep E):=by
   cases h:dl g x (ep E)
   ·have F:=hat .nil;rw[HS3.o]at F;unfold lL at F;rw[h]at F;simp at F
   have F:=hat .nil;rw[HS3.o]at F;unfold lL at F;rw[h]at F;simp at F;exact⟨rfl,F.symm⟩
  obtain⟨hx0,hx7⟩:=HOK.o x a0.1;obtain⟨p,rfl⟩:∃p:Nat,x=(p:Int):=⟨x.toNat,om⟩;have hp8:p<8:=om;have HSX:=hid a0;have hc0:0<=c:=(by rw[a0.2];exact(HSB.o _).1);have hc1:c<=5100000:=(by rw[a0.2];exact(HSB.o _).2);have f:=b.of_block (hg1.block _ b.lt (λe=>by simp at e;omega));have hnl:¬(dl g (p:Int) (ep E)=true/\left (.int Q (p:Int))=false):=λh=>(by rw[hlx]at h;cases h.2);obtain⟨C,hC⟩:∃C,C=w.1.size+1:=⟨_,rfl⟩;have k0:=f.cell (i:=p*2) om;have k1:=f.cell (i:=p*2+1) om;rw[Fj,ag hnl,Nat.add_zero]at k0;rw[FU,ag hnl,Int.add_zero]at k1;have f0:=f.frozen (p*2);have f1:=f.frozen (p*2+1);obtain⟨cc,hcc⟩:∃cc,cc=gy g (p:Int) ep L j:=⟨_,rfl⟩;obtain⟨sc,hsc⟩:∃sc,sc=fE g (p:Int) ep L j:=⟨_,rfl⟩;have hcc8:(cc:Int)<=8:=(by have:=AU g (p:Int) ep L j;omega);have hsc0:0<=sc:=(by rw[hsc];exact(HSM.o _).1);have hsc1:sc<=40800000:=(by have:=(HSM.o (p:Int)).2;omega);rw[<-hcc]at k0;rw[<-hsc]at k1;have HCC:H (cc=gy g (p:Int) ep L j/\sc=fE g (p:Int) ep L j):=⟨hcc,hsc⟩;have HRR:=hid f;have HG1:=hid hg1;have HRG:=hid hrg1;have HNL:=hid hnl;have HLT:=hid hlt;have HRGO:=hid hrg;have hpI:(p:Int)<8:=om;have HLX:=hid hlx;clear hwx hwc hat hrg1 hlt hg1 hs1 a0 b f hnl hcc hsc hrg hlx hC;go_wp2;have hgs:w1.grownBy ((w1.setCell ⟨w.1.size+1,p*2,J⟩ (I Q ((cc:Int)+1))).setCell ⟨w.1.size+1,p*2+1,J⟩ (I Q (sc+c))) (O (w.1.size+1)):=Nt w1 _ _ _ _ _;have hrgN:=HRG.o.kept hgs (λe=>HSC.o.2 (by simpa using e)) (λe=>by simp at e;omega);refine⟨⟨_,_,hrgN,(R.o.of_block (HG1.o.block _ R.o.lt (λe=>by simp at e;omega))).of_block (hgs.block _ ?_ (λe=>by simp at e)),(PO (v:=cA g (p:Int) (ep E)) HRR.o ?_ ?_).congr (λi _=>?_),(U.o.t (tH HG1.o om U.o.size)).t (tH hgs om (aP U.o.size HG1.o.size))⟩,?_⟩
  ·have:=R.o.lt;have:=HG1.o.size;omega
  ·show _=(((gy g (p:Int) ep L j+if dl g (p:Int) (ep E)=true/\left (.int Q (p:Int))=false then 1 else 0:Nat)):Int)+1;rw[ag HNL.o,HCC.o.1];simp
  ·show _=(fE g (p:Int) ep L j+if dl g (p:Int) (ep E)=true/\left (.int Q (p:Int))=false then cA g (p:Int) (ep E) else 0)+_;rw[ag HNL.o,HCC.o.2,HSX.o.2];simp
  ·refine Ns (λq=>?_) (λq=>?_)
   ·by_cases hq:q=p
    ·subst hq;simp[HSX.o.1,HLX.o,Lit.sameKey]
    have hk:(Lit.int Q (q:Int)).sameKey (.int Q (p:Int))=false:=(by simp[Lit.sameKey];omega);simp only[ag hq,hk];simp
   by_cases hq:q=p
   ·subst hq;simp[HSX.o.1,HLX.o,Lit.sameKey]
   have hk:(Lit.int Q (q:Int)).sameKey (.int Q (p:Int))=false:=(by simp[Lit.sameKey];omega);simp only[ag hq,hk];simp
  rw[hrgN.left_eq,HRGO.o.left_eq];exact HLT.o
end
end
section
open Go.RowKit Go.Maps
def bV(n:Nat)(t:Bool)(e:Int)(v:Int):Int×Nat:=if 0<=e/\e<(n:Int) then (if t=true then (v,0) else (0,5)) else (0,1)
section
variable {w:Ω}{tb:Nat}{who:Nat->Nat×ByteArray×Nat}{W need n r:Nat}{ep:Nat->List ai}
theorem Lz(g:ByteArray)(e:Int)(d:cd w tb who W need n r ep)(j:n<=1000)(k:¬(0<=e/\e<(n:Int))):
  Φ prog 152 #[Y (O ⟨tb,0,J⟩),Z g,I Q e] w λx a=>x=N (Ψ #[I Q 0,.iface 57 (I Q 1)])/\a=w:=by
 obtain⟨o,m,D,i,l,d⟩:=d.c;have h:=d.s;have b:(n:Int)<=1000:=om;have f:dw e 0 ((n:Int)-1)=false:=by simp[dw];omega
 go_enter func152,ntmps152;go_wp2_with fail;refine(lE f _).m ?_;rintro x a ⟨rfl,rfl⟩;go_wp2;go_ret2;exact⟨rfl,rfl⟩
theorem J8(g:ByteArray)(e:Nat)(d:cd w tb who W need n r ep)(C:n<=1000)(q:e<n)(G:g.size<=100000)(o:¬∃e,bz g (ep e)=true):
  Φ prog 152 #[Y (O ⟨tb,0,J⟩),Z g,I Q (e:Int)] w λx i=>x=N (Ψ #[I Q 0,.iface 57 (I Q 5)])/\i=w:=by
 obtain⟨A,m,D,j,F,d⟩:=d.c;have t:=d.s;have v:=d.y;have l:(n:Int)<=1000:=om;have p:dw (e:Int) 0 ((n:Int)-1)=true:=by simp[dw];omega
 have k:j g=J:=by
  cases h:j g with
 |none=>rfl
 |some b=>exact absurd ((d.u g).1 (by rw[h];rfl)) o
 have a:=mJ d.h ju underlying219 vA (lM (g:=g) (by unfold maxLen;omega)) (λE=>by rw[d.f g,k]);have z:=FM;go_enter func152,ntmps152;go_wp2_with fail;refine(lE p _).m ?_;rintro x i ⟨rfl,rfl⟩;go_wp2;go_ret2;exact⟨rfl,rfl⟩
theorem CZ(g:ByteArray)(e:Nat)(d:cd w tb who W need n r ep)(C:W<=8)(V:n<=1000)(K:e<n)(hg:g.size<=100000)(A:∃e,bz g (ep e)=true):
  Φ prog 152 #[Y (O ⟨tb,0,J⟩),Z g,I Q (e:Int)] w λx v=>x=N (Ψ #[I Q (aI g ep W need e),.nilIface])/\B w.1.size w v:=by
 have F:=hid d;obtain⟨U,m,D,E,sp,d⟩:=d.c;have P:=d.s;have R:=d.y;have z:(n:Int)<=1000:=om;have G:dw (e:Int) 0 ((n:Int)-1)=true:=by simp[dw];omega
 obtain⟨T,q⟩:∃T,E g=O T:=Option.isSome_iff_exists.1 ((d.u g).2 A);have p:=mJ d.h ju underlying219 vA (lM (g:=g) (by unfold maxLen;omega)) (λzd=>by rw[d.f g,q]);have S:=AW T;have k:=hid (Lx g e d q C om);unfold aI;generalize kL g ep W e=c at k⊢;generalize lx g ep W e=s at k⊢;go_enter func152,ntmps152;go_wp2_with fail;refine(lE G _).m ?_;rintro x v ⟨rfl,rfl⟩;go_wp2_with fail;refine k.o.m ?_;rintro x X ⟨rfl,i⟩;have b:=hid i;go_wp2_with fail;refine(Nr c s (F.o.a b.o)).m ?_;rintro x L ⟨rfl,l⟩;have j:=hid (b.o.t (l.m b.o.size));go_wp2;go_ret2;exact⟨rfl,j.o⟩
theorem zG(g:ByteArray)(e:Int){t:Bool}(d:cd w tb who W need n r ep)(j:W<=8)(b:n<=1000)(i:g.size<=100000)(f:t=true↔∃e,bz g (ep e)=true):
  Φ prog 152 #[Y (O ⟨tb,0,J⟩),Z g,I Q e] w λx c=>x=N (Ψ #[I Q (bV n t e (aI g ep W need e.toNat)).1,bB (bV n t e (aI g ep W need e.toNat)).2])/\B w.1.size w c:=by
 unfold bV;by_cases a:0<=e/\e<(n:Int)
 ·rw[ak a];obtain⟨k,rfl⟩:∃k:Nat,e=(k:Int):=⟨e.toNat,om⟩;rw[ir];cases t with
 |true=>exact CZ g k d j b om i (f.1 rfl)
 |false=>
   refine(J8 g k d b om i (λh=>by have:=f.2 h;cases this)).m ?_;rintro x c ⟨rfl,rfl⟩;exact⟨rfl,aj _ _⟩
 rw[ag a];refine(Lz g e d b a).m ?_;rintro x c ⟨rfl,rfl⟩;exact⟨rfl,aj _ _⟩
def iR(n:Nat)(t:Bool)(p e v:Int):Bool:=decide ((bV n t e v).2=0)&&decide (0<=p)&&decide ((bV n t e v).1=p)
theorem Ek(g:ByteArray)(p e:Int){t:Bool}(d:cd w tb who W need n r ep)(A:W<=8)(v:n<=1000)(C:g.size<=100000)(z:t=true↔∃e,bz g (ep e)=true):
  Φ prog 241 #[Y (O ⟨tb,0,J⟩),Z g,I Q p,I Q e] w λx y=>x=N (.bool (iR n t p e (aI g ep W need e.toNat)))/\B w.1.size w y:=by
 have h:=hid (zG g e d A v C z);unfold iR;generalize bV n t e (aI g ep W need e.toNat)=a at *;obtain⟨q,k⟩:=a;simp only at *;by_cases i:k=0
 ·subst i;rw[show bB 0=.nilIface from rfl]at h;by_cases l:0<=p
  ·have f:decide (0<=p)=true:=(by simpa using l);have u:decide (q=p)=(q == p):=(by rw[jq];simp);rw[f,u];simp only[decide_true,Bool.true_and];go_enter func241,ntmps241;go_wp2_with fail;refine h.o.m ?_;rintro x s ⟨rfl,c⟩;have b:=hid c;go_wp2;go_ret;exact⟨rfl,b.o⟩
  have f:decide (0<=p)=false:=(by simpa using l);rw[f];simp only[Bool.and_false,Bool.false_and];go_enter func241,ntmps241;go_wp2_with fail;refine h.o.m ?_;rintro x s ⟨rfl,c⟩;have b:=hid c;go_wp2;go_ret;exact⟨rfl,b.o⟩
 rw[pi i]at h;have j:decide (k=0)=false:=by simpa using i
 rw[j];simp only[Bool.false_and];go_enter func241,ntmps241;go_wp2_with fail;refine h.o.m ?_;rintro x s ⟨rfl,c⟩;have b:=hid c;go_wp2;go_ret;exact⟨rfl,b.o⟩
def mp(n:Nat)(t:Bool)(p e:Int)(f:Int->Int):Bool:=iR n t p e (f e) && !iR n t p (e-1) (f (e-1))
theorem Ly(g:ByteArray)(p e:Int){t:Bool}(d:cd w tb who W need n r ep)(s:W<=8)(l:n<=1000)(v:g.size<=100000)(q:t=true↔∃e,bz g (ep e)=true)(C:-1000<=e)(z:e<=1000):
  Φ prog 200 #[Y (O ⟨tb,0,J⟩),Z g,I Q p,I Q e] w λx i=>x=N (.bool (mp n t p e (λe=>aI g ep W need e.toNat)))/\B w.1.size w i:=by
 have u:=hid (Ek g p e d s l v q);have j:H (∀V:Ω,B w.1.size w V->Φ prog 241 #[Y (O ⟨tb,0,J⟩),Z g,I Q p,I Q (e-1)] V λx i=>x=N (.bool (iR n t p (e-1) (aI g ep W need (e-1).toNat)))/\B V.1.size V i):=λV y=>Ek g p (e-1) (d.a y) s l v q;unfold mp;generalize iR n t p e (aI g ep W need e.toNat)=a at *;generalize iR n t p (e-1) (aI g ep W need (e-1).toNat)=b at *;cases a with
 |false=>
  simp only[Bool.false_and];go_enter func200,ntmps200;go_wp2_with fail;refine u.o.m ?_;rintro x A ⟨rfl,f⟩;have c:=hid f;go_wp2;go_ret;exact⟨rfl,c.o⟩
 |true=>
  simp only[Bool.true_and];go_enter func200,ntmps200;go_wp2_with fail;refine u.o.m ?_;rintro x A ⟨rfl,f⟩;have c:=hid f;go_wp2_with fail;refine(j.o _ c.o).m ?_;rintro x D ⟨rfl,k⟩;have h:=hid (c.o.t (k.m c.o.size));go_wp2;go_ret;exact⟨rfl,h.o⟩
end
end
section
open Go.RowKit Go.Maps
def ji(ep:Nat->List ai)(n:Nat)(l:List ai)(e:Nat):List ai:=if e=n then l else ep e
theorem Nv{ep:Nat->List ai}{n:Nat}{l:List ai}{k:Nat}{x:ai}(a:l[k]?=O x):nK (ji ep n (l.take k)) n x=ji ep n (l.take (k+1)):=by
 funext e;unfold nK ji;by_cases h:e=n
 ·rw[ak h,ak h,ak rfl,jL,a];rfl
 rw[ag h,ag h,ag h]
theorem PR{ep:Nat->List ai}{n:Nat}(h:ep n=[])(l:List ai):ji ep n (l.take 0)=ep:=by
 funext e;unfold ji;by_cases a:e=n
 ·rw[ak a,a,h];rfl
 rw[ag a]
section
variable {w:Ω}{tb:Nat}{who:Nat->Nat×ByteArray×Nat}{W need n r:Nat}{ep:Nat->List ai}
theorem Ae(l:List ai)(p:Option Addr)(cap:Nat)(d:cd w tb who W need n r ep)(hl:l.length<=20000)(hs:cZ w p l)(X:l≠[]->∀b o,p=O ⟨b,o,J⟩->¬bC who b)(hok:∀x,x∈l->dm x=true)(hg:∀x,x∈l->x.a.size<=100000)(hn:n<=1000)(hr:r<=80000)(he:ep n=[]):
  Φ prog 148 #[Y (O ⟨tb,0,J⟩),M p l.length cap] w λe C=>e=N .nilIface/\∃q,cd C tb q W need (n+1) (r+l.length) (ji ep n l)/\ax (bC who) w C/\∀b,bC q b->bC who b\/w.1.size<=b:=by
 obtain⟨g,hN⟩:∃g,g=l.length:=⟨_,rfl⟩;have HN:=hid hN;rw[<-hN]at hl⊢;have HD:=hid d;have HS:=hid hs;have HAP:=hid X;have R:=hid hok;have HG:=hid hg;have HE:=hid he;have hNI:(g:Int)<=20000:=om;clear hN d hs X hok hg he;go_enter func148,ntmps148;go_wp2;go_loopw [6,11] (λ_ i V=>∃k:Nat,k<=g/\i=I Q (k:Int)/\B w.1.size w V) (λ_ i _=>g-(intOf i).toNat)
 case atStart=>exact⟨0,aX _,rfl,aj _ _⟩
 obtain⟨k,hk,rfl,E⟩:=hrel;by_cases G:k<g
 case pos=>
  have hkI:(k:Int)<g:=om;have z:k<l.length:=(by rw[<-HN.o];exact G);have A:l≠[]:=(by intro e;rw[e]at z;simp at z);obtain⟨b,o,rfl,P,hc⟩:=HS.o.a A;have hx:=R.o _ (eG z);obtain⟨a0,a1,a2,a3⟩:=(hc k _ (bc z)).a (E.block b P);generalize l[k]=x at *;obtain⟨xp,xs,xt,xg⟩:=x;simp only at a0 a1 a2 a3 hx;obtain⟨⟨h0,L⟩,U,h3⟩:=km.1 hx;simp only at h0 L U h3;have b1:dw xp 0 7=true:=(by simp[dw];omega);have b2:dw xs 0 255=true:=(by simp[dw];omega);have K:=hid E;go_wp2_with fail;refine(lE b1 _).m ?_;rintro e C ⟨rfl,rfl⟩;go_wp2_with fail;refine(lE b2 _).m ?_;rintro e C ⟨rfl,rfl⟩;go_wp2;go_roundw
  case rel=>exact⟨k+1,om,by go_num,K.o.l K.o.size _⟩
  simp[intOf];omega
 have hkk:k=g:=om;subst hkk;have K:=hid E;have hI:¬(k:Int)<k:=om;obtain⟨V1,T⟩:∃V1,V1=wr:=⟨_,rfl⟩;rw[<-T]at K⊢;clear T;go_wp2;go_loopw [8,29] (λ_ i V=>∃(j:Nat) (q:Nat->Nat×ByteArray×Nat),j<=k/\i=I Q (j:Int)/\cd V tb q W need n (r+j) (ji ep n (l.take j))/\ax (bC who) w V/\∀b,bC q b->bC who b\/w.1.size<=b) (λ_ i _=>k-(intOf i).toNat)
 case atStart=>exact⟨0,who,aX _,rfl,by rw[PR HE.o];exact HD.o.a K.o,bH K.o _,λb h=>af h⟩
 obtain⟨j,q,hj,rfl,hd,y,u⟩:=hrel;by_cases G:j<k
 case pos=>
  have hjI:(j:Int)<k:=om;have v:j<l.length:=(by rw[<-HN.o];exact G);have A:l≠[]:=(by intro e;rw[e]at v;simp at v);obtain⟨b,o,rfl,P,hc⟩:=HS.o.a A;have hx:=R.o _ (eG v);have hg:=HG.o _ (eG v);have hst:=Nv (ep:=ep) (n:=n) (bc v);obtain⟨a0,a1,a2,a3⟩:=(hc j _ (bc v)).a (y.b b P (HAP.o A b o rfl));generalize l[j]=x at *;obtain⟨xp,xs,xt,xg⟩:=x;simp only at a0 a1 a2 a3;have S:(ji ep n (l.take j) n).length<20000:=by unfold ji;rw[ak rfl,fj];omega
  have HK:H (∀o,Φ prog 193 #[Y (O ⟨tb,0,J⟩),.agg #[I Q xp,I Q xs,I Q xt,Z xg]] (wr.alloc o) λe C=>e=N (Ψ #[])/\∃t,cd C tb t W need n (r+(j+1)) (ji ep n (l.take (j+1)))/\ax (bC who) w C/\∀b,bC t b->bC who b\/w.1.size<=b):=by
   intro ob;have F:=(aj _ wr).l nl ob;refine(Nq ⟨xp,xs,xt,xg⟩ (hd.a F) hx hg om om S).m ?_;rintro e C ⟨rfl,t,L,U,h3⟩;rw[hst]at L;have hz:=y.c;refine⟨rfl,t,L,(y.a (bH F _)).d U (λi hi h=>(u i h).resolve_right om),λb P=>?_⟩;rcases h3 b P with h|h
   ·exact u b h
   right;have:=F.size;omega
  go_wp2_with fail;refine(HK.o _).m ?_;rintro e w2 ⟨rfl,hex⟩;have HX:=hid hex;go_wp2;go_roundw
  case rel=>obtain⟨t,L,U,h3⟩:=HX.o;exact⟨j+1,t,om,by go_num,L,U,h3⟩
  simp[intOf];omega
 have hjj:j=k:=om;subst hjj;have hI:¬(j:Int)<j:=om;obtain⟨mb,m,D,tr,sp,d⟩:=hd.c;have c2:=d.s;have f2:=d.ο 2;have htk:l.take j=l:=(by rw[HN.o];exact eL);rw[htk]at d;have HF:H (∃q,cd (wr.setCell ⟨tb,2,J⟩ (I Q ((n:Int)+1))) tb q W need (n+1) (r+j) (ji ep n l)/\ax (bC who) w (wr.setCell ⟨tb,2,J⟩ (I Q ((n:Int)+1)))/\∀b,bC q b->bC who b\/w.1.size<=b):=(by refine⟨q,⟨mb,m,D,tr,sp,d.π sm⟩,y.a (ko _ _ _ ?_),u⟩;exact(u tb d.θ).resolve_right (by have:=HD.o.f;omega));have hnI:(n:Int)<=1000:=om;go_wp2;go_ret;exact⟨rfl,HF.o⟩
end
end
section
open Go.RowKit Go.Maps
def yf(zd:DataW Value)(p:ByteArray):DataW Value:=if p=⟨#[]⟩ then zd else .held (.agg #[Z p])
structure je (w:Ω) (b:Nat) (r:Nat) (pf:ByteArray->ByteArray):Prop where
 c:∃(m:Nat) (D:DataW Value),w.ownsMap prog 9 cB b m D/\m<=r/\∀(g:ByteArray)(zd:DataW Value),D.atKey (.string g.1.toList) zd=yf zd (pf g)
theorem je.a{w w':Ω}{b r:Nat}{pf:ByteArray->ByteArray}(h:je w b r pf)(e:w'.1[b]?=w.1[b]?):je w' b r pf:=by obtain⟨m,D,f,g,d⟩:=h.c;exact⟨m,D,ki f e,g,d⟩
theorem je.d{w:Ω}{b r:Nat}{pf:ByteArray->ByteArray}(h:je w b r pf):b<w.1.size:=by obtain⟨m,D,a,f,e⟩:=h.c;exact a.lt
theorem je.h{w:Ω}{b r:Nat}{pf:ByteArray->ByteArray}(h:je w b r pf):∀c t f,w.1[b]?≠O (Δ c t f):=λc t f e=>by obtain⟨m,D,⟨j,a,d,_⟩,i,g⟩:=h.c;rw[d]at e;simp at e
theorem je.j(w:Ω):je (w.alloc (.map #[] 0)) w.1.size 0 (λ_=>⟨#[]⟩):=
 ⟨0,.map [],oU w prog 9 cB,aa _,λg a=>by unfold yf;rw[ak rfl];rfl⟩
theorem je.i{w:Ω}{b r:Nat}{pf:ByteArray->ByteArray}(h:je w b r pf)(g:ByteArray)(o:g.size<=100000):(Instr.lookup 274 (.map (O b)) (Z g) false).run prog w=.ok (.agg #[Z (pf g)]) w:=by
 obtain⟨m,D,k,n,j⟩:=h.c;obtain⟨u,l,d,a⟩:=k.lookup ju underlying274 (show (zeroValue 284).run prog w=.ok (.agg #[Z ⟨#[]⟩]) w by kernel_rfl) (zd:=.held (.agg #[Z ⟨#[]⟩])) (zp:=[]) rfl (lM (g:=g) (by unfold maxLen;omega));rw[j]at a;unfold cB at a;simp at a
 have e:u=.agg #[Z (pf g)]:=by
  unfold yf at a;by_cases f:pf g=⟨#[]⟩
  ·rw[ak f]at a;rw[f];simpa using a.1
  rw[ag f]at a;simpa using a.1
 rw[<-e];exact d
theorem Ny(g:ByteArray)(w:Ω)(a:g.size<=100000):(Instr.lookup 274 (.map J) (Z g) false).run prog w=.ok (.agg #[Z ⟨#[]⟩]) w:=by
 kernel_rfl
theorem je.e{w:Ω}{b r:Nat}{pf:ByteArray->ByteArray}(h:je w b r pf)(g p:ByteArray)(u:g.size<=100000)(n:p≠⟨#[]⟩)(t:r<=100000):
  ∃f,(Instr.mapUpdate 274 (.map (O b)) (Z g) (.agg #[Z p])).run prog w=.ok () f/\je f b (r+1) (λx=>if x=g then p else pf x)/\w.grownBy f (O b):=by
 obtain⟨m,D,j,s,l⟩:=h.c;obtain⟨f,a,o,i⟩:=j.update (val:=.agg #[Z p]) (d:=.held (.agg #[Z p])) (ps:=[]) ju underlying274 (by unfold maxLen;omega) (lM (g:=g) (by unfold maxLen;omega)) rfl;refine⟨f,a,⟨m+1,_,o,om,λx q=>?_⟩,i⟩;by_cases e:x=g
 ·subst e;rw[rL j.isMap (uw _),ak rfl];unfold yf;rw[ag n]
 rw[qV (λk=>e (pW (by simpa using k))),l,ag e]
structure lO (w:Ω) (xb tb:Nat) (v:Value) (ms:List Nat) (F:Nat->Prop) (span score k:Nat) (f:Nat->ByteArray->ByteArray):Prop where
 c:w.1[xb]?=O (Δ #[Y (O ⟨tb,0,J⟩),I Q (span:Int),I Q (score:Int),v] 224)
 g:ms.length=k
 d:w.ownsRow 0 274 1 v k (ms.map (λb=>Value.map (O b)))
 i:∀(e b:Nat),ms[e]?=O b->je w b 80000 (f e)
 l:F xb
 n:∀b,v.ownBlock=O b->F b
 q:∀b,b∈ms->F b
 o:∀b,F b->b<w.1.size
structure ga (w:Ω) (xb tb:Nat) (F:Nat->Prop) (span score k:Nat) (f:Nat->ByteArray->ByteArray):Prop where
 b:∃(v:Value) (ms:List Nat),lO w xb tb v ms F span score k f
section
variable {w w':Ω}{xb tb:Nat}{v:Value}{ms:List Nat}{F:Nat->Prop}{span score k:Nat}{f:Nat->ByteArray->ByteArray}
theorem lO.j(d:lO w xb tb v ms F span score k f):w.cell? ⟨xb,0,J⟩=O (Y (O ⟨tb,0,J⟩)):=by simp[World.cell?,d.c]
theorem lO.s(d:lO w xb tb v ms F span score k f):w.cell? ⟨xb,1,J⟩=O (I Q (span:Int)):=by simp[World.cell?,d.c]
theorem lO.t(d:lO w xb tb v ms F span score k f):w.cell? ⟨xb,2,J⟩=O (I Q (score:Int)):=by simp[World.cell?,d.c]
theorem lO.h(d:lO w xb tb v ms F span score k f):w.cell? ⟨xb,3,J⟩=O v:=by simp[World.cell?,d.c]
theorem lO.a(d:lO w xb tb v ms F span score k f):xb<w.1.size:=d.o _ d.l
theorem lO.p(d:lO w xb tb v ms F span score k f){b:Nat}(l:v.ownBlock=O b):b≠xb/\b∉ms:=by
 obtain⟨g,a⟩:=lK d.d l;constructor
 ·rintro rfl;rw[d.c]at a;simp at a
 intro m;obtain⟨e,j⟩:=List.mem_iff_getElem?.1 m;exact(d.i e b j).h _ _ _ a
theorem lO.u(d:lO w xb tb v ms F span score k f)(p:w.1.size<=w'.1.size)(m:∀b,b<w.1.size->F b->w'.1[b]?=w.1[b]?):lO w' xb tb v ms F span score k f where
 c:=by rw[m xb d.a d.l];exact d.c
 g:=d.g
 d:=aS d.d (λb j=>m b (aU d.d j) (d.n b j))
 i:=λe b h=>(d.i e b h).a (m b (d.i e b h).d (d.q b (iW h)))
 l:=d.l
 n:=d.n
 q:=d.q
 o:=λb j=>bg (d.o b j) p
theorem ga.a(d:ga w xb tb F span score k f)(g:w.1.size<=w'.1.size)(c:∀b,b<w.1.size->F b->w'.1[b]?=w.1[b]?):ga w' xb tb F span score k f:=by obtain⟨v,e,d⟩:=d.b;exact⟨v,e,d.u g c⟩
theorem ga.c(d:ga w xb tb F span score k f)(e:B w.1.size w w'):ga w' xb tb F span score k f:=d.a e.size (λb h _=>e.block b h)
theorem ga.d(d:ga w xb tb F span score k f){b:Nat}(h:F b):b<w.1.size:=by obtain⟨v,a,d⟩:=d.b;exact d.o b h
theorem lO.m(d:lO w xb tb v ms F span score k f):∃p a,v=M p k a/\∀e b,ms[e]?=O b->∃g,p=O ⟨g,0,J⟩/\w.cell? ⟨g,e,J⟩=O (.map (O b)):=by
 have j:=d.g;have c:=d.d;rcases Nat.eq_zero_or_pos k with h0|h0
 ·have:ms=[]:=iG.1 om;subst this;subst h0;rcases c.2 with ⟨rfl,_⟩|⟨g,a,cur,hv,_⟩
  ·exact⟨J,0,rfl,λe b h=>by simp at h⟩
  exact⟨_,a,hv,λe b h=>by simp at h⟩
 obtain⟨g,a,rfl,_,_⟩:=c.form h0;refine⟨O ⟨g,0,J⟩,a,rfl,λe b i=>⟨g,rfl,?_⟩⟩;have:=c.cells (g:=g) rfl e (.map (O b)) (by simp[i]);rw[dD]at this;exact this
theorem lO.r{V3 E:Ω}{g cap mb:Nat}{pf:ByteArray->ByteArray}(d:lO w xb tb v ms F span score k f)(s:B w.1.size w w')(hmb:w.1.size<=mb)(hm:je w' mb 80000 pf)
  (D:V3.ownsRow w.1.size 274 1 (M (O ⟨g,0,J⟩) (k+1) cap) (k+1) ((ms.map (λb=>Value.map (O b)))++[.map (O mb)])\/V3.ownsRow 0 274 1 (M (O ⟨g,0,J⟩) (k+1) cap) (k+1) ((ms.map (λb=>Value.map (O b)))++[.map (O mb)]))
  (y:w'.grownBy V3 v.ownBlock)(z:v.ownBlock=O g\/w'.1.size<=g)(m:E=V3.setCell ⟨xb,3,J⟩ (M (O ⟨g,0,J⟩) (k+1) cap)):
  lO E xb tb (M (O ⟨g,0,J⟩) (k+1) cap) (ms++[mb]) (λb=>F b\/(w.1.size<=b/\b<V3.1.size)) span score (k+1) (mU f k pf)/\ax F w E:=by
 have C:V3.ownsRow 0 274 1 (M (O ⟨g,0,J⟩) (k+1) cap) (k+1) ((ms.map (λb=>Value.map (O b)))++[.map (O mb)]):=by
  rcases D with D|D
  ·exact sk D (aX _)
  exact D
 have A:v.ownBlock≠O xb:=λe=>(d.p e).1 rfl
 have hgx:g≠xb:=by
  rcases z with h|h
  ·exact(d.p h).1
  have:=d.a;have:=s.size;omega
 have V:V3.1[xb]?=O (Δ #[Y (O ⟨tb,0,J⟩),I Q (span:Int),I Q (score:Int),v] 224):=by rw[y.block xb (bg d.a s.size) (λe=>A e.symm),s.block xb d.a];exact d.c
 have t:∀b,b≠xb->E.1[b]?=V3.1[b]?:=λb R=>by rw[m];exact bN _ _ _ _ R
 have K:E.1.size=V3.1.size:=by rw[m];simp[World.setCell]
 have hsz:=y.size;have P:=s.size;have G:=hm.d;refine⟨⟨?_,by simp[d.g],?_,?_,af d.l,?_,?_,?_⟩,?_⟩
 ·rw[m];simp[World.setCell,dU,V]
 ·rw[iY];exact aS C (λb j=>t b (by simp[Value.ownBlock]at j;omega))
 ·intro e b h;have T:v.ownBlock≠O mb:=λe=>by have:=aU d.d e;omega
  by_cases he:e<ms.length
  ·rw[gO he]at h;have u:=d.i e b h;have L:mU f k pf e=f e:=(by funext x;unfold mU;rw[ag (by have:=d.g;omega)]);rw[L];refine u.a ?_;rw[t b ?_,y.block b (bg u.d P) (λW=>(d.p W.symm).2 (iW h)),s.block b u.d];rintro rfl;exact u.h _ _ _ d.c
  have U:e=ms.length:=(by have:=(gD.1 h).1;simp at this;omega);subst U;have:b=mb:=(by simpa using h.symm);subst this;have L:mU f k pf ms.length=pf:=(by funext x;unfold mU;rw[ak d.g]);rw[L];refine hm.a ?_;rw[t b (by have:=d.a;omega),y.block b G (λW=>T W.symm)]
 ·intro b j;simp[Value.ownBlock]at j;subst j;rcases z with h|h
  ·exact af (d.n _ h)
  exact ah ⟨om,(C.lt g rfl).2⟩
 ·intro b j;rcases dP.1 j with h|h
  ·exact af (d.q b h)
  have:b=mb:=(by simpa using h);exact ah ⟨om,om⟩
 ·intro b j;rw[K];rcases j with h|h
  ·have:=d.o b h;omega
  exact h.2
 refine⟨?_,?_,?_,om,λb S X=>?_⟩
 ·rw[m];exact y.os.trans s.os
 ·rw[m];exact y.tape.trans s.tape
 ·rw[m];exact y.output.trans s.output
 rw[t b (λe=>X (e ▸ d.l)),y.block b om (λe=>X (d.n b e.symm)),s.block b S]
end
end
section
open Go.RowKit Go.Maps
structure vZ (w:Ω) (a:Option Addr) (E:List (List ai)):Prop where
 c:E≠[]->∃b o,a=O ⟨b,o,J⟩/\b<w.1.size/\∀k l,E[k]?=O l->∃p cap,w.cell? ⟨b,o+k,J⟩=O (M p l.length cap)/\cZ w p l
theorem vZ.d{w w':Ω}{a:Option Addr}{E:List (List ai)}(h:vZ w a E)(i:B w.1.size w w'):vZ w' a E where
 c:=λg=>by obtain⟨b,o,rfl,f,n⟩:=h.c g;refine⟨b,o,rfl,bg f i.size,λk l m=>?_⟩;obtain⟨p,j,q,r⟩:=n k l m;exact⟨p,j,by rw[i.cell f];exact q,r.e i⟩
def nF(l:List ai):Bool:=decide (l.length<=20000)&&l.all (λx=>decide (x.a.size<=20))
def sP(E:List (List ai)):Bool:=decide (E.length<=1000)&&E.all nF
theorem pb{l:List ai}:nF l=true↔l.length<=20000/\∀x,x∈l->x.a.size<=20:=by simp[nF]
theorem kY{E:List (List ai)}:sP E=true↔E.length<=1000/\∀l,l∈E->nF l=true:=by simp[sP]
end
section
open Go.RowKit Go.Maps
theorem En(a b:ByteArray):(a.toList == b.toList)=true↔a=b:=by rw[beq_iff_eq,cY,cY];exact⟨λh=>pW h,λh=>by rw[h]⟩
theorem pd{a b:ByteArray}(h:a=b):(a.toList == b.toList)=true:=(En a b).2 h
theorem o9{a b:ByteArray}(h:¬a=b):(a.toList == b.toList)=false:=by
 cases h':(a.toList == b.toList)
 ·rfl
 exact absurd ((En a b).1 h') h
structure mB (w:Ω) (rb:Nat) (W need:Nat) (p:Option Addr) (cap:Nat) (E:List (List ai)):Prop where
 f:w.cell? ⟨rb,0,J⟩=O (I Q (W:Int))
 g:w.cell? ⟨rb,1,J⟩=O (I Q (need:Int))
 a:w.cell? ⟨rb,2,J⟩=O (M p E.length cap)
 d:vZ w p E
 b:rb<w.1.size
 c:sP E=true
 h:∀l,l∈E->l.all dm=true
theorem mB.e{w w':Ω}{rb W i:Nat}{p:Option Addr}{cap:Nat}{E:List (List ai)}(h:mB w rb W i p cap E)(j:B w.1.size w w'):mB w' rb W i p cap E where
 f:=by rw[j.cell h.b];exact h.f
 g:=by rw[j.cell h.b];exact h.g
 a:=by rw[j.cell h.b];exact h.a
 d:=h.d.d j
 b:=bg h.b j.size
 c:=h.c
 h:=h.h
section
variable {w:Ω}{rb W need:Nat}{p:Option Addr}{cap:Nat}{E:List (List ai)}
theorem DD{g:ByteArray}{E:List (List ai)}{k:Nat}(a:k<E.length):aG g (E.take (k+1))=(aG g (E.take k)||bz g E[k]):=by unfold aG;rw[jL,bc a,List.any_append];simp
theorem DC{g:ByteArray}{l:List ai}{k:Nat}(b:k<l.length):bz g (l.take (k+1))=(bz g (l.take k)||decide (l[k].a=g)):=by rw[jL,bc b];exact vg g _ _
theorem Nz(g:ByteArray)(d:mB w rb W need p cap E):
  Φ prog 60 #[Y (O ⟨rb,0,J⟩),Z g,I Q (E.length:Int)] w λe w'=>e=N (.bool (aG g E))/\w'=w:=by
 obtain⟨f,U⟩:∃f,f=E.length:=⟨_,rfl⟩;obtain⟨r,hr⟩:∃r,r=aG g E:=⟨_,rfl⟩;have HN:H (f=E.length):=U;have HR:H (r=aG g E):=hr;have HE:H (vZ w p E):=d.d;have c2:=d.a;obtain⟨F,G⟩:=kY.1 d.c;have a0:H (∀l,l∈E->nF l=true):=G;rw[<-U]at F c2⊢;rw[<-hr];clear U hr d G;go_enter func60,ntmps60;go_wp2;go_loopw [7,8] (λi _ V=>∃k:Nat,k<=f/\i=I Q (k:Int)/\V=w/\aG g (E.take k)=false) (λi _ _=>f-(intOf i).toNat)
 case atStart=>exact⟨0,aX _,rfl,rfl,rfl⟩
 obtain⟨k,hk,rfl,rfl,n⟩:=hrel;by_cases C:k<f
 case neg=>have a1:k=f:=om;subst a1;have hrt:r=false:=(by rw[HR.o];rw[HN.o,eL]at n;exact n);have X:¬(k:Int)<k:=om;clear n C;go_wp2;go_ret;exact⟨rfl,rfl⟩
 have hkI:(k:Int)<f:=om;have hkI2:(k:Int)<=f:=om;have u:k<E.length:=(by rw[<-HN.o];exact C);obtain⟨b,o,rfl,hbl,hc⟩:=HE.o.c (by intro e;rw[e]at u;simp at u);obtain⟨q,cp,c0,hs⟩:=hc k _ (bc u);have s:=eG u;obtain⟨D,y⟩:=pb.1 (a0.o _ s);have HA:H (bz g E[k]=false->aG g (E.take (k+1))=false):=λh=>(by rw[DD u,n,h];rfl);have HF:H (bz g E[k]=true->r=true):=λh=>(by rw[HR.o];exact List.any_eq_true.2 ⟨_,s,h⟩);generalize E[k]=l at *;obtain⟨m,hm⟩:∃m,m=l.length:=⟨_,rfl⟩;have HM:H (m=l.length):=hm;rw[<-hm]at c0 D;have HS:H (cZ wr q l):=hs;have S:H (∀x,x∈l->x.a.size<=20):=y;clear hc s n hm hs y;go_wp2;go_loopw [8] (λi V=>∃j:Nat,j<=m/\i=I Q (j:Int)/\V=wr/\bz g (l.take j)=false) (λi _=>m-(intOf i).toNat)
 case atStart=>exact⟨0,aX _,rfl,rfl,rfl⟩
 obtain⟨j,hj,rfl,rfl,v⟩:=hrel;by_cases A:j<m
 case neg=>have hjj:j=m:=om;subst hjj;have X:¬(j:Int)<j:=om;have HG:H (bz g l=false):=(by rw[HM.o,eL]at v;exact v);clear v A;go_wp2;refine⟨⟨k+1,om,by go_num,aN,HA.o HG.o⟩,by simp[intOf];omega⟩
 have hjI:(j:Int)<m:=om;have t:j<l.length:=(by rw[<-HM.o];exact A);obtain⟨b',o',rfl,hbl',K⟩:=HS.o.a (by intro e;rw[e]at t;simp at t);have a3:=(K j _ (bc t)).c;have z:=eG t;have hgb:=S.o _ z;have HA2:H (¬l[j].a=g->bz g (l.take (j+1))=false):=λh=>(by rw[DC t,v];simp[h]);have R:H (l[j].a=g->r=true):=λh=>HF.o (re.2 ⟨_,z,h⟩);generalize l[j]=x at *;obtain⟨xp,xs,xt,xg⟩:=x;simp only at a3 hgb;clear K z v;by_cases L:xg=g
 ·have P:=pd L;have T:H (r=true):=R.o L;go_wp2;go_ret;exact⟨congrArg (λx=>Ending.returned (.bool x)) T.o.symm,rfl⟩
 have P:=o9 L;go_wp2;go_roundw
 case rel=>exact⟨j+1,om,by go_num,aN,HA2.o L⟩
 simp[intOf];omega
end
end
section
open Go.RowKit Go.Maps
theorem PX{E:List (List ai)}{e:Nat}(h:e<E.length):al E e=E[e]:=by unfold al;rw[en,bc h];rfl
theorem Jm{g:ByteArray}{p:Int}{l:List ai}{k:Nat}(a:k<l.length):dl g p (l.take (k+1))=(dl g p (l.take k)||fC g p l[k]):=by rw[jL,bc a];exact wB g p _ _
theorem Kb{g:ByteArray}{p:Int}{l:List ai}{k:Nat}(a:k<l.length):cA g p (l.take (k+1))=cA g p (l.take k)+(if fC g p l[k]=true then l[k].b else 0):=by rw[jL,bc a];exact uZ g p _ _
section
variable {w:Ω}{rb W need:Nat}{p:Option Addr}{cap:Nat}{E:List (List ai)}
theorem mB.j(d:mB w rb W need p cap E):∀e x,x∈al E e->0<=x.b/\x.b<=255:=λe x a=>by
 by_cases h:e<E.length
 ·exact(km.1 (kQ.1 (d.h _ (zQ h)) x a)).2
 rw[wU E om]at a;simp at a
theorem mB.i(d:mB w rb W need p cap E):∀e,(al E e).length<=20000:=λe=>by
 by_cases h:e<E.length
 ·exact(pb.1 ((kY.1 d.c).2 _ (zQ h))).1
 rw[wU E om];simp
theorem Ka(g:ByteArray)(r e:Nat)(d:mB w rb W need p cap E)(he:e<E.length)(hW:W<=8):
  Φ prog 117 #[Y (O ⟨rb,0,J⟩),Z g,I Q (r:Int),I Q (e:Int)] w λx w'=>x=N (Ψ #[I Q (kL g (al E) W e r:Int),I Q (lx g (al E) W e r)])/\B w.1.size w w':=by
 have HSM:H (∀L k,0<=fE g (r:Int) (al E) L k/\fE g (r:Int) (al E) L k<=5100000*(k:Int)):=λL k=>zS g (r:Int) (al E) L d.i d.j k
 have HSB:H (∀e k,0<=cA g (r:Int) ((al E e).take k)/\cA g (r:Int) ((al E e).take k)<=5100000):=λe k=>by
  have h1:=rS g (r:Int) ((al E e).take k) (λx hx=>d.j e x (List.mem_of_mem_take hx));have h2:=d.i e;have h3:((al E e).take k).length<=20000:=by rw[fj];omega
  omega
 have HOK:H (∀e x,x∈al E e->0<=x.b/\x.b<=255):=d.j;have HD:H (mB w rb W need p cap E):=d;obtain⟨hn25,_⟩:=kY.1 d.c;obtain⟨n,hN⟩:∃n,n=E.length:=⟨_,rfl⟩;have HN:H (n=E.length):=hN;rw[<-hN]at he hn25;have c0:=d.f;have hWI:(W:Int)<=8:=om;have heI:(e:Int)<=1000:=om;have hml:=@xP W e;obtain⟨L,hL⟩:∃L,L=cu W e:=⟨_,rfl⟩;have hL1:L<=e+1:=by rw[hL];unfold cu;omega
 have hL8:e+1-L<=8:=by rw[hL];unfold cu;omega
 have HC:H (kL g (al E) W e r=gy g (r:Int) (al E) L (e+1-L)/\lx g (al E) W e r=fE g (r:Int) (al E) L (e+1-L)):=by rw[hL];exact⟨rfl,rfl⟩
 rw[<-hL]at hml;clear hL d hN;go_enter func117,ntmps117;go_wp2;clear c0 hml;go_loopw [10,11,12,13,14,15] (λa b c _ _ _ V=>∃j:Nat,j<=e+1-L/\c=I Q ((L+j:Nat):Int)/\a=I Q (gy g (r:Int) (al E) L j:Int)/\b=I Q (fE g (r:Int) (al E) L j)/\B w.1.size w V) (λ_ _ c _ _ _ _=>e+1-(intOf c).toNat)
 case atStart=>exact⟨0,aX _,rfl,rfl,rfl,aj _ _⟩
 obtain⟨j,hj,rfl,rfl,rfl,u⟩:=hrel;by_cases hlt:L+j<=e
 case neg=>have hjj:j=e+1-L:=om;have hI:¬((L+j:Nat):Int)<=e:=om;have HB:H (B w.1.size w wr):=u;subst hjj;obtain⟨S,A⟩:∃S,S=gy g (r:Int) (al E) L (e+1-L):=⟨_,rfl⟩;obtain⟨z,v⟩:∃z,z=fE g (r:Int) (al E) L (e+1-L):=⟨_,rfl⟩;have HC2:H (S=kL g (al E) W e r/\z=lx g (al E) W e r):=(by show _/\_;rw[HC.o.1,HC.o.2];exact⟨A,v⟩);rw[<-A,<-v];clear u A v;go_wp2;go_ret2;exact⟨by rw[<-HC2.o.1,<-HC2.o.2];rfl,HB.o⟩
 have hI:((L+j:Nat):Int)<=e:=om;obtain⟨K,hK⟩:∃K,K=L+j:=⟨_,rfl⟩;rw[<-hK]at hI⊢;have HK:H (K=L+j):=hK;have hK9:(K:Int)<=1000:=om;have hKN:(K:Int)<n:=om;have hj':j<e+1-L:=om;have U:K<E.length:=(by rw[<-HN.o];omega);clear hK hlt hj;have HB:H (B w.1.size w wr):=u;have hd:=HD.o.e u;obtain⟨b,o,rfl,hb,hc⟩:=hd.d.c (by intro e;rw[e]at U;simp at U);obtain⟨q,cp,k0,hs⟩:=hc K _ (bc U);rw[<-PX U]at k0 hs;obtain⟨l,hl⟩:∃l,l=al E K:=⟨_,rfl⟩;rw[<-hl]at k0 hs;obtain⟨m,hm⟩:∃m,m=l.length:=⟨_,rfl⟩;rw[<-hm]at k0;have hm25:m<=20000:=(by rw[hm,hl];exact hd.i K);have HM:H (m=l.length):=hm;have HL:H (l=al E K):=hl;have HS:H (cZ wr q l):=hs;obtain⟨S,A⟩:∃S,S=gy g (r:Int) (al E) L j:=⟨_,rfl⟩;obtain⟨z,v⟩:∃z,z=fE g (r:Int) (al E) L j:=⟨_,rfl⟩;have hcc8:(S:Int)<=8:=(by have:=AU g (r:Int) (al E) L j;omega);have hsc0:0<=z:=(by rw[v];exact(HSM.o L j).1);have hsc1:z<=40800000:=(by have:=(HSM.o L j).2;omega);have a4:H (S=gy g (r:Int) (al E) L j/\z=fE g (r:Int) (al E) L j):=⟨A,v⟩;rw[<-A,<-v];have k2:=hd.a;rw[<-HN.o]at k2;have hrb:=hd.b;have HK0:H (∀V,B wr.1.size wr V->V.cell? ⟨b,o+K,J⟩=O (M q m cp)/\V.cell? ⟨rb,2,J⟩=O (M (O ⟨b,o,J⟩) n cap)):=λV hV=>⟨by rw[hV.cell hb];exact k0,by rw[hV.cell hrb];exact k2⟩;clear hc hd u hs hl hm A v k0 k2;obtain⟨V1,hV1⟩:∃V1,V1=wr:=⟨_,rfl⟩;rw[<-hV1]at HB HS HK0 hb hrb⊢;clear hV1;go_wp2;go_loopw [11,13,14,15] (λa s i _ V=>∃(k:Nat) (T:Bool) (F:Int),k<=m/\i=I Q (k:Int)/\s=.bool T/\a=I Q F/\T=dl g (r:Int) (l.take k)/\F=z+cA g (r:Int) (l.take k)/\B V1.1.size V1 V) (λ_ _ i _ _=>m-(intOf i).toNat)
 case atStart=>exact⟨0,false,z,aX _,rfl,rfl,rfl,rfl,by simp[cA],aj _ _⟩
 obtain⟨k,T,F,hk,rfl,rfl,rfl,C,D,u⟩:=hrel;obtain⟨k0,k2⟩:=HK0.o wr u;by_cases hlk:k<m
 case neg=>
  have hkk:k=m:=om;subst hkk;have hII:¬(k:Int)<k:=om;rw[HM.o,eL]at C D;have HBW:H (B w.1.size w wr):=HB.o.t (u.m HB.o.size);cases T with
 |false=>
   have y:H ((S:Int)=(gy g (r:Int) (al E) L (j+1):Int)/\F=fE g (r:Int) (al E) L (j+1)):=(by show _/\_;rw[ye,yj,<-HK.o,<-HL.o,<-C,D,a4.o.1,a4.o.2];simp);clear C D u hlk;go_wp2;exact⟨⟨j+1,om,by rw[HK.o];congr 1,by rw[y.o.1],by rw[y.o.2],HBW.o⟩,by simp[intOf];omega⟩
 |true=>
   have y:H ((S:Int)+1=(gy g (r:Int) (al E) L (j+1):Int)/\F=fE g (r:Int) (al E) L (j+1)):=(by show _/\_;rw[ye,yj,<-HK.o,<-HL.o,<-C,D,a4.o.1,a4.o.2];simp);clear C D u hlk;go_wp2;exact⟨⟨j+1,om,by rw[HK.o];congr 1,by rw[y.o.1],by rw[y.o.2],HBW.o⟩,by simp[intOf];omega⟩
 have hkI:(k:Int)<m:=om;have G:k<l.length:=(by rw[<-HM.o];exact hlk);obtain⟨b',o',rfl,hb',hc'⟩:=HS.o.a (by intro e;rw[e]at G;simp at G);obtain⟨a0,a1,a2,a3⟩:=(hc' k _ (bc G)).a (u.block b' hb');have hxs:=HOK.o K l[k] (by rw[<-HL.o];exact eG G);have hsvb:0<=F/\F<=50000000:=(by have:=HSB.o K k;rw[<-HL.o]at this;omega);have hS1:∀b,fC g (r:Int) l[k]=b->dl g (r:Int) (l.take (k+1))=(T||b):=λb h=>(by rw[Jm G,h,C]);have hS2:∀b,fC g (r:Int) l[k]=b->z+cA g (r:Int) (l.take (k+1))=F+(if b=true then l[k].b else 0):=λb h=>(by rw[Kb G,h,D];omega);have HS1:H (∀b,fC g (r:Int) l[k]=b->dl g (r:Int) (l.take (k+1))=(T||b)):=hS1;have X:H (∀b,fC g (r:Int) l[k]=b->z+cA g (r:Int) (l.take (k+1))=F+(if b=true then l[k].b else 0)):=hS2;clear hS1 hS2 hc' C D;generalize l[k]=x at *;obtain⟨xp,xs,xt,xg⟩:=x;simp only at a0 a1 a2 a3 hxs X;obtain⟨hxs0,hxs1⟩:=hxs;obtain⟨hsv0,hsv1⟩:=hsvb;have P:H (B V1.1.size V1 wr):=u;clear u;by_cases hq:xg=g
 ·have hqb:=pd hq;by_cases hp:xp=(r:Int)
  ·have hpb:(xp == (r:Int))=true:=(by simpa using hp);have R:fC g (r:Int) ⟨xp,xs,xt,xg⟩=true:=xC.2 ⟨hq,hp⟩;have HR:H (dl g (r:Int) (l.take (k+1))=true/\z+cA g (r:Int) (l.take (k+1))=F+xs):=⟨by rw[HS1.o _ R];simp,by rw[X.o _ R];simp⟩;clear R hp hq;go_wp2;go_roundw
   case rel=>exact⟨k+1,true,F+xs,om,by go_num,rfl,by go_num,HR.o.1.symm,HR.o.2.symm,P.o.l P.o.size _⟩
   simp[intOf];omega
  have hpb:(xp == (r:Int))=false:=(by simpa using hp);have R:fC g (r:Int) ⟨xp,xs,xt,xg⟩=false:=(by simp[fC,hp]);have HR:H (dl g (r:Int) (l.take (k+1))=T/\z+cA g (r:Int) (l.take (k+1))=F):=⟨by rw[HS1.o _ R];simp,by rw[X.o _ R];simp⟩;clear R hp hq;go_wp2;go_roundw
  case rel=>exact⟨k+1,T,F,om,by go_num,rfl,rfl,HR.o.1.symm,HR.o.2.symm,P.o.l P.o.size _⟩
  simp[intOf];omega
 have hqb:=o9 hq;have R:fC g (r:Int) ⟨xp,xs,xt,xg⟩=false:=(by simp[fC,hq]);have HR:H (dl g (r:Int) (l.take (k+1))=T/\z+cA g (r:Int) (l.take (k+1))=F):=⟨by rw[HS1.o _ R];simp,by rw[X.o _ R];simp⟩;clear R hq;go_wp2;go_roundw
 case rel=>exact⟨k+1,T,F,om,by go_num,rfl,rfl,HR.o.1.symm,HR.o.2.symm,P.o.l P.o.size _⟩
 simp[intOf];omega
end
end
section
open Go.RowKit Go.Maps
theorem NV(n b c:Int)(w:Ω):
  Φ prog 134 #[I Q n,I Q b,I Q c] w λe f=>e=N (.bool (dw n b c))/\f=w:=by
 by_cases d:b<=n
 ·by_cases g:n<=c
  ·have a:dw n b c=true:=(by simp[dw,d,g]);rw[a];clear a;go_enter func134,ntmps134;go_wp2;go_ret;exact⟨rfl,rfl⟩
  have a:dw n b c=false:=(by simp[dw];omega);rw[a];clear a;go_enter func134,ntmps134;go_wp2;go_ret;exact⟨by simp,rfl⟩
 have a:dw n b c=false:=by simp[dw];omega
 rw[a];clear a;have h:decide (b<=n)=false:=by simpa using d
 go_enter func134,ntmps134;go_wp2;go_ret;exact⟨rfl,rfl⟩
theorem sD{n b a:Int}{r:Bool}(h:dw n b a=r)(w:Ω):
  Φ prog 134 #[I Q n,I Q b,I Q a] w λe c=>e=N (.bool r)/\c=w:=h ▸ NV n b a w
theorem Rv(x:ByteArray)(w:Ω):(Instr.field 284 (.agg #[Z x]) 0).run prog w=.ok (Z x) w:=kr
theorem SF(w:Ω)(d c a:Nat):ga (w.alloc (Δ #[Y (O ⟨d,0,J⟩),I Q (c:Int),I Q (a:Int),M J 0 0] 224)) w.1.size d (λb=>b=w.1.size) c a 0 (λ_ _=>⟨#[]⟩):=by refine⟨M J 0 0,[],?_,rfl,fH _ _ _ _,λe b h=>by simp at h,rfl,λb h=>by simp[Value.ownBlock]at h,λb h=>absurd h nj,λb h=>by rw[h];simp⟩;exact bn w _
theorem Ai(f c a:Nat)(w:Ω)(j:1<=c)(l:c<=8)(n:1<=a)(k:a<=c):
  Φ prog 97 #[Y (O ⟨f,0,J⟩),I Q (c:Int),I Q (a:Int)] w λe d=>e=N (Ψ #[Y (O ⟨w.1.size,0,J⟩),.nilIface])/\d.1.size=w.1.size+1/\ga d w.1.size f (λb=>b=w.1.size) c a 0 (λ_ _=>⟨#[]⟩)/\B w.1.size w d:=by
 have i:dw (c:Int) 1 8=true:=by simp[dw];omega
 have g:dw (a:Int) 1 c=true:=by simp[dw];omega
 have h:H _:=SF w f c a;go_enter func97,ntmps97;go_wp2_with fail;refine(sD i _).m ?_;rintro e d ⟨rfl,rfl⟩;go_wp2_with fail;refine(sD g _).m ?_;rintro e d ⟨rfl,rfl⟩;go_wp2;go_ret2;exact⟨rfl,by simp,h.o,ba⟩
theorem LT(f:Nat)(a b:Int)(w:Ω)(h:¬(1<=a/\a<=8/\1<=b/\b<=a)):
  Φ prog 97 #[Y (O ⟨f,0,J⟩),I Q a,I Q b] w λe c=>e=N (Ψ #[Y J,.iface 57 (I Q 1)])/\c=w:=by
 cases b1:dw a 1 8 with
 |false=>
  go_enter func97,ntmps97;go_wp2_with fail;refine(sD b1 _).m ?_;rintro e c ⟨rfl,rfl⟩;go_wp2;go_ret2;exact⟨rfl,rfl⟩
 |true=>
  have d:dw b 1 a=false:=by simp[dw]at b1⊢;omega
  go_enter func97,ntmps97;go_wp2_with fail;refine(sD b1 _).m ?_;rintro e c ⟨rfl,rfl⟩;go_wp2_with fail;refine(sD d _).m ?_;rintro e c ⟨rfl,rfl⟩;go_wp2;go_ret2;exact⟨rfl,rfl⟩
section
variable {w:Ω}{xb tb:Nat}{F:Nat->Prop}{span score k:Nat}{f:Nat->ByteArray->ByteArray}
theorem LU(s:ByteArray)(e:Nat)(d:ga w xb tb F span score k f)(D:k<=1000)(o:e<k)(q:s.size<=100000):
  Φ prog 153 #[Y (O ⟨xb,0,J⟩),Z s,I Q (e:Int)] w λx j=>x=N (Ψ #[Z (f e s),.nilIface])/\j=w:=by
 obtain⟨v,l,d⟩:=d.b;obtain⟨p,t,rfl,n⟩:=d.m;have A:=d.h;have a:e<l.length:=by rw[d.g];exact o
 obtain⟨g,rfl,C⟩:=n e _ (bc a);have c:=(d.i e _ (bc a)).i s q;generalize l[e]=mb at *;have r:(k:Int)<=1000:=om;have u:(e:Int)<k:=om;have z:dw (e:Int) 0 ((k:Int)-1)=true:=by simp[dw];omega
 clear d n;have y:=Rv;go_enter func153,ntmps153;go_wp2_with fail;refine(sD z _).m ?_;rintro x j ⟨rfl,rfl⟩;go_wp2;go_ret2;exact⟨rfl,rfl⟩
end
end
section
open Go.RowKit Go.Maps
structure oA (w:Ω) (p:Option Addr) (u:Nat->Int) (L n:Nat):Prop where
 c:∀j,j<n->∃b,p=O ⟨b,0,J⟩/\b<w.1.size/\w.cell? ⟨b,j,J⟩=O (I Q (u (L+j)))
theorem oA.a{w w':Ω}{p:Option Addr}{u:Nat->Int}{L n:Nat}(h:oA w p u L n)(e:B w.1.size w w'):oA w' p u L n where
 c:=λj i=>by obtain⟨b,g,d,f⟩:=h.c j i;exact⟨b,g,bg d e.size,by rw[e.cell d];exact f⟩
theorem IU(g h:ByteArray)(S P:Int)(p q:Option Addr)(R t:Nat)(u v:Nat->Int)(L n:Nat)(w:Ω)(T:oA w p u L n)(U:oA w q v L n)(hn:n<=8):
  Φ prog 237 #[.agg #[Z g,I Q S,M p n R],.agg #[Z h,I Q P,M q n t]] w λe w'=>e=N (I Q (dX u v L n:Nat))/\B w.1.size w w':=by
 have HP:H (oA w p u L n):=T;have HQ:H (oA w q v L n):=U;have hnI:(n:Int)<=8:=om;clear T U;have A:H (B w.1.size w ((w.alloc (Δ #[Z g,I Q S,M p n R] 279)).alloc (Δ #[Z h,I Q P,M q n t] 279))):=((aj _ w).l nl _).l sm _;go_enter func237,ntmps237;go_wp2;go_loopw [5,6,7,11] (λc _ _ i V=>∃k:Nat,k<=n/\i=I Q (k:Int)/\c=I Q (dX u v L k:Nat)/\B w.1.size w V/\V.cell? ⟨w.1.size+1,2,J⟩=O (M q n t)) (λ_ _ _ i _=>n-(intOf i).toNat)
 case atStart=>exact⟨0,aX _,rfl,rfl,A.o,by go_simp⟩
 obtain⟨k,hk,rfl,rfl,K,G⟩:=hrel;have f:H (B w.1.size w wr):=K;clear K;by_cases m:k<n
 case neg=>have E:k=n:=om;subst E;have hII:¬(k:Int)<k:=om;go_wp2;go_ret;exact⟨rfl,f.o⟩
 have X:(k:Int)<n:=om;obtain⟨b1,rfl,D,c1⟩:=(HP.o.a f.o).c k m;obtain⟨b2,rfl,z,c2⟩:=(HQ.o.a f.o).c k m;have htl:=vW u v L k;have htI:((dX u v L k:Nat):Int)<=8:=om;obtain⟨x,r⟩:∃x,x=u (L+k):=⟨_,rfl⟩;obtain⟨y,j⟩:∃y,y=v (L+k):=⟨_,rfl⟩;rw[<-r]at c1;rw[<-j]at c2;have HX:H (x=u (L+k)/\y=v (L+k)):=⟨r,j⟩
 have F:H (dX u v L (k+1)=if 0<=x/\x=y then dX u v L k+1 else dX u v L k):=by
  show _=_;by_cases b:0<=x/\x=y
  ·rw[ak b];exact FW (by rw[<-r,<-j];exact b)
  rw[ag b];exact Bq (by rw[<-r,<-j];exact b)
 clear r j D z;by_cases s:0<=x
 ·have C:decide (0<=x)=true:=(by simpa using s);by_cases b:x=y
  ·have W:(x == y)=true:=(by simpa using b);have d:H (dX u v L (k+1)=dX u v L k+1):=(by have:=F.o;rw[ak ⟨s,b⟩]at this;exact this);clear b;go_wp2;go_roundw
   case rel=>exact⟨k+1,om,by go_num,by rw[d.o];go_num,f.o,G⟩
   simp[intOf];omega
  have W:(x == y)=false:=(by simpa using b);have d:H (dX u v L (k+1)=dX u v L k):=(by have:=F.o;rw[ag (λh=>b h.2)]at this;exact this);clear b;go_wp2;go_roundw
  case rel=>exact⟨k+1,om,by go_num,by rw[d.o],f.o,G⟩
  simp[intOf];omega
 have C:decide (0<=x)=false:=(by simpa using s);have d:H (dX u v L (k+1)=dX u v L k):=(by have:=F.o;rw[ag (λh=>s h.1)]at this;exact this);go_wp2;go_roundw
 case rel=>exact⟨k+1,om,by go_num,by rw[d.o],f.o,G⟩
 simp[intOf];omega
theorem C5(c a:Nat)(b d:Bool)(x1 x2:ByteArray)(w:Ω):
  Φ prog 238 #[.agg #[Z x1,I Q (c:Int),.bool b],.agg #[Z x2,I Q (a:Int),.bool d]] w λe j=>e=N (.bool (lU c b x1 a d x2))/\B w.1.size w j:=by
 have f:H (B w.1.size w ((w.alloc (Δ #[Z x1,I Q (c:Int),.bool b] 281)).alloc (Δ #[Z x2,I Q (a:Int),.bool d] 281))):=((aj _ w).l nl _).l sm _;by_cases g:c=a
 ·have i:((c:Int) != a)=false:=by simp;omega
  by_cases h:b=d
  ·have k:(!b == d)=false:=(by simpa using h);have e:lU c b x1 a d x2=Op.bytesLess x1.toList x2.toList:=(by unfold lU;rw[ak g,ak h]);rw[e];clear g h e;go_enter func238,ntmps238;go_wp2;go_ret;exact⟨rfl,f.o⟩
  have k:(!b == d)=true:=(by simpa using h);have e:lU c b x1 a d x2=b:=(by unfold lU;rw[ak g,ag h]);rw[e];clear g h e;go_enter func238,ntmps238;go_wp2;go_ret;exact⟨rfl,f.o⟩
 have i:((c:Int) != a)=true:=by simp;omega
 have e:lU c b x1 a d x2=decide (a<c):=by unfold lU;rw[ag g]
 rw[e];clear g e;go_enter func238,ntmps238;go_wp2;go_ret;exact⟨rfl,f.o⟩
end
section
open Go.RowKit Go.Maps
theorem SP:(prog.info? 3).map (λi=>(i.zero,i.size,i.bytes))=O (O (I Q 0),1,8):=kr
def j5(u:Nat->Int)(L j:Nat):List Value:=(List.range j).map (λi=>I Q (u (L+i)))
theorem OG(u:Nat->Int)(L j:Nat):j5 u L (j+1)=j5 u L j++[I Q (u (L+j))]:=by simp[j5,l8]
theorem RP{u:Nat->Int}{L j i:Nat}(h:i<j):(j5 u L j)[i]?=O (I Q (u (L+i))):=by simp[j5,h]
theorem SQ{V:Ω}{a:Nat}{v:Value}{u:Nat->Int}{L j:Nat}(h:V.ownsRow a 3 1 v j (j5 u L j)):∃p b,v=M p j b/\oA V p u L j:=by
 rcases Nat.eq_zero_or_pos j with h0|h0
 ·subst h0;rcases h.2 with ⟨rfl,_⟩|⟨g,b,cur,hv,_⟩
  ·exact⟨J,0,rfl,⟨λj e=>by omega⟩⟩
  exact⟨_,b,hv,⟨λj e=>by omega⟩⟩
 obtain⟨g,b,rfl,_,c⟩:=h.form h0;refine⟨O ⟨g,0,J⟩,b,rfl,⟨λi d=>⟨g,rfl,c,?_⟩⟩⟩;have:=h.cells (g:=g) rfl i _ (RP d);rw[dD]at this;exact this
section
variable {w:Ω}{tb xb:Nat}{who:Nat->Nat×ByteArray×Nat}{F:Nat->Prop}{W need n r span score k:Nat}{ep:Nat->List ai}{f:Nat->ByteArray->ByteArray}
theorem Kz(s:ByteArray)(e:Nat)(d:cd w tb who W need n r ep)(x:ga w xb tb F span score k f)(hW:W<=8)(hn:n<=1000)(he:e<n)(hs:s.size<=100000)(ht:∃e,bz s (ep e)=true)(h8:span<=8):
  Φ prog 236 #[Y (O ⟨xb,0,J⟩),Z s,I Q (e:Int)] w λx w'=>∃p h,x=N (M p (e+1-cu span e) h)/\w'.ownsRow w.1.size 3 1 (M p (e+1-cu span e) h) (e+1-cu span e) (j5 (aI s ep W need) (cu span e) (e+1-cu span e))/\B w.1.size w w':=by
 obtain⟨i3,hi3,hz3,hs3,hb3⟩:=eb SP;have HD:=hid d;have HT:=hid ht;obtain⟨xv,ms,x⟩:=x.b;have c1:=x.s;have c0:=x.j;have HX:H (w.cell? ⟨xb,0,J⟩=O (Y (O ⟨tb,0,J⟩))/\xb<w.1.size):=⟨x.j,x.a⟩;clear d x ht;have hSI:(span:Int)<=8:=om;have heI:(e:Int)<=1000:=om;have hml:=@xP span e;obtain⟨L,hL⟩:∃L,L=cu span e:=⟨_,rfl⟩;have hL1:L<=e+1:=by rw[hL];unfold cu;omega
 have HL:=hid hL;rw[<-hL]at hml⊢;obtain⟨c,hN⟩:∃c,c=e+1-L:=⟨_,rfl⟩;have HN:=hid hN;rw[<-hN];clear hL hN;go_enter func236,ntmps236;go_wp2;clear c1 c0;go_loopw [7,8,9,10] (λv i _ _ V=>∃(j:Nat) (p:Option Addr) (h:Nat),j<=c/\i=I Q ((L+j:Nat):Int)/\v=M p j h/\V.ownsRow w.1.size 3 1 (M p j h) j (j5 (aI s ep W need) L j)/\B w.1.size w V) (λ_ i _ _ _=>c-((intOf i).toNat-L))
 case atStart=>exact⟨0,J,0,aX _,rfl,rfl,fH _ _ _ _,aj _ _⟩
 obtain⟨j,p,h,hj,rfl,rfl,z,A⟩:=hrel;by_cases hlt:L+j<=e
 case neg=>have hjj:j=c:=(by have:=HN.o;omega);have hI:¬((L+j:Nat):Int)<=e:=om;subst hjj;have HF:H (wr.ownsRow w.1.size 3 1 (M p j h) j (j5 (aI s ep W need) L j)/\B w.1.size w wr):=⟨z,A⟩;clear z A;go_wp2;go_ret;exact⟨p,h,rfl,HF.o⟩
 have hI:((L+j:Nat):Int)<=e:=om;obtain⟨E,X⟩:∃E,E=L+j:=⟨_,rfl⟩;rw[<-X]at hI⊢;have hEe:E<n:=om;have hE9:(E:Int)<=1000:=om;obtain⟨y,hy⟩:∃y,y=aI s ep W need E:=⟨_,rfl⟩;have HC:H (Φ prog 152 #[Y (O ⟨tb,0,J⟩),Z s,I Q (E:Int)] wr λx w'=>x=N (Ψ #[I Q y,.nilIface])/\B wr.1.size wr w'):=(by have:=CZ s E (HD.o.a A) hW hn hEe hs HT.o;rw[<-hy]at this;exact this);have HY:H (j5 (aI s ep W need) L (j+1)=j5 (aI s ep W need) L j++[I Q y]):=(by rw[hy,X];exact OG _ _ _);have HE:=hid X;have c0:wr.cell? ⟨xb,0,J⟩=O (Y (O ⟨tb,0,J⟩)):=(by rw[A.cell HX.o.2];exact HX.o.1);have C:=hid z;have K:=hid A;clear z A hy X;go_wp2_with fail;refine HC.o.m ?_;rintro x w1 ⟨rfl,G⟩;have q:=aS C.o (V':=w1) (λb hb=>G.block b (aU C.o hb));have R:=q.alloc (Δ #[I Q y] 3);have P:=hid (K.o.t (G.m K.o.size));have hs1:=P.o.size;clear G HC C K c0;go_wp2_with (at_builtin;refine iB _ rfl _ _ 277 rfl w.1.size 3 i3 (I Q 0) 1 8 underlying277 hi3 hz3 hs3 hb3 rfl dc _ _ _ rfl R ⟨w1.1.size,0,J⟩ 1 1 [I Q y] rfl rfl ?q1 ?q2 om ?q3 ?q4 ?q5 (w1.1.size+1) ?q6 ?_)
 try case q1=>
  intro i u U
  match i,U with
 |0,U=>simp at U;subst U;simp[Addr.add]
 try case q2=>first|rfl|(intro u hu;simp at hu;subst hu;rfl)
 try case q3=>unfold maxLen;omega
 try case q4=>omega
 try case q5=>simp;omega
 try case q6=>simp
 intro g3 cv3 V3 D g S T;have HO3:H (V3.ownsRow w.1.size 3 1 (M (O ⟨g3,0,J⟩) (j+1) cv3) (j+1) (j5 (aI s ep W need) L (j+1))):=(by rw[HY.o];exact D);have HB3:=hid ((P.o.l hs1 _).t ⟨g.os,g.tape,g.output,g.size,λb hb=>g.block b (by simp;omega) (λe=>by have:=(q.lt b e.symm).1;omega)⟩);clear D g S T R q;go_wp2;go_roundw
 case rel=>exact⟨j+1,_,_,by have:=HN.o;omega,by rw[HE.o];go_num,rfl,HO3.o,HB3.o⟩
 have h1:=HE.o;have h2:=HN.o;simp[intOf];omega
end
end
end Go.Proofs.YtlaodjjfmhipnaaGreatDoor
