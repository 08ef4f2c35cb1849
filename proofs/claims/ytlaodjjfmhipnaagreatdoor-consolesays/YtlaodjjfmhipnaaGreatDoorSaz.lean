/-
  Part of it.
-/
import Derived.Test.YtlaodjjfmhipnaaGreatDoorSay
set_option maxRecDepth 100000
set_option maxHeartbeats 8000000
set_option linter.all false
namespace Go.Proofs.YtlaodjjfmhipnaaGreatDoor
open Go.Proofs.Tryz
open Value renaming int→I,string→Z,pointer→Y,slice→M,tuple→Ψ
open Ending renaming returned→N
open Obj renaming cells→Δ
open Go renaming World→Ω,Calls→Φ
open IntKind renaming i64→Q
open Option renaming some→O,none→J
open RowKit renaming Below→B,Hid→H
section
open Go.RowKit Go.Maps
section
variable {w w' V:Ω}{sb wb:Nat}{F:Nat->Prop}{S:bY}{W:fP}{rv:Value}{oa oa':Nat->Nat}{s':ay}
theorem KD(l:List UInt8)(w:Ω)(a:l.length<=400)(h:¬js l):
  Φ prog 102 #[Z (ae l)] w λe b=>e=N (Ψ #[Z ⟨#[]⟩,.bool false])/\B w.1.size w b:=by
 by_cases c:l.length%2=0
 ·exact(B6 l w a c).m λe b ⟨d,f⟩=>⟨d.elim (λk=>absurd k.1 h) (λk=>k.2),f⟩
 exact IZ l w a c
theorem Jw(l:List UInt8)(w:Ω)(b:l.length<=400)(h:js l):
  Φ prog 102 #[Z (ae l)] w λe a=>e=N (Ψ #[Z (ae (fS l)),.bool true])/\B w.1.size w a:=
 (B6 l w b h.1).m λe a ⟨c,d⟩=>⟨c.elim (λk=>k.2) (λk=>absurd h k.1),d⟩
structure pJ (w:Ω) (sb:Nat) (F:Nat->Prop) (S:bY) (W:fP) (s':ay) (w':Ω):Prop where
 c:fU w' sb F { S with c:=O ⟨W.b,W.d,s'⟩ }
 b:ax F w w'
theorem pJ.a(h:pJ w sb F S W s' V)(d:B V.1.size V w'):pJ w sb F S W s' w':=⟨h.c.a d,h.b.a (bH d F)⟩
theorem eu.f(h:eu w sb F S W rv wb oa)(g:B w.1.size w w'):pJ w sb F S W W.a w':=by
 refine⟨?_,bH g F⟩;have:=(h.a g).m;have e:S={ S with c:=O ⟨W.b,W.d,W.a⟩ }:=by have:=h.l;cases S;simp_all
 rw[e]at this;exact this
theorem eu.j(h:eu w sb F S W rv wb oa)(c:B w.1.size w V)(i:cQ w F)(l:jy w' wb oa' W.b W.d s')(k:cD V w' oa oa'):pJ w sb F S W s' w':=by have g:=(h.a c).n (λb e=>i.f b (aP c.size e)) l k;exact⟨g.1.m,(bH c F).a g.2⟩
theorem eu.i(h:eu w sb F S W rv wb oa)(p:B w.1.size w V)(j:cQ w F)(y:jy w' wb oa' W.b W.d s')(u:cD V w' oa oa'):w'.cell? ⟨sb,23,J⟩=O (Y (O ⟨wb,0,J⟩))/\(∀g i,w.1.size<=g->g<V.1.size->w'.cell? ⟨g,i,J⟩=V.cell? ⟨g,i,J⟩)/\cQ w' F:=by
 have s:∀b,V.1.size<=b->F b:=λb l=>j.f b (aP p.size l);have r:=(h.a p).n s y u;refine⟨r.1.e,λg i v x=>?_,?_⟩
 ·have:oa g=0:=by
   by_cases e:oa g=0
   ·exact e
   have:=GD h.d e;omega
  have e:=u.a.b g x (λe=>e this);simp only[World.cell?,e]
 have o:B 11 w w':=by have v:B 11 V w':=r.2.i (by have:=j.a.b;have:=p.size;omega) (λk z q=>by have:=j.e k q;omega);exact(p.m j.a.b).t v
 exact⟨j.a.c o nl,j.d.b o dc,λb l=>s b (aP r.2.c l),j.e⟩
theorem O1(c:cj)(w:Ω)(h:¬js c.a)(i:c.a.length<=400):
  Φ prog 70 #[Y (O ⟨sb,0,J⟩),.agg (aY c.b c.c c.a)] w λe f=>e=N (Ψ #[Z ⟨#[]⟩,bB 4])/\B w.1.size w f:=by
 have d:H (∀V,Φ prog 102 #[Z (ae c.a)] V λe f=>e=N (Ψ #[Z ⟨#[]⟩,.bool false])/\B V.1.size V f):=λV=>KD _ V i h;unfold aY;clear h i;go_enter func70,ntmps70;go_wp2_with (go_at_call 102;refine(d.o _).m ?_;rintro e j ⟨rfl,g⟩);go_ret2;exact⟨rfl,bQ ba g⟩
theorem nN{w V:Ω}{v:Value}{b t i:Nat}{C:Array Value}(h:w.1[b]?=O (Δ C t))(a:C[i]?=O v)(c:B w.1.size w V):V.cell? ⟨b,i,J⟩=O v:=by have:=c.block b (bP.1 h).1;simp only[World.cell?,this,h];exact a
theorem cz{w V:Ω}{v:Value}{b i:Nat}(c:B w.1.size w V)(h:w.cell? ⟨b,i,J⟩=O v):V.cell? ⟨b,i,J⟩=O v:=by
 have a:b<w.1.size:=by
  by_cases a:b<w.1.size
  ·exact a
  simp only[World.cell?,j8 (Nat.le_of_not_lt a)]at h;cases h
 have:=c.block b a;simp only[World.cell?,this]at h⊢;exact h
theorem x9(r:Int)(b:ByteArray)(s:ay)(h:s.d+b.size<=100000): 0<=(bS r b s).1/\(bS r b s).1<=1000000000:=by
 unfold bS;split
 ·rename_i hr;split
  ·have a:=zD (s.f r.toNat++b.1.toList);rw[bU,Ar]at a;have c:(s.f r.toNat).length<=s.d:=by unfold ay.d;have:r.toNat=0\/r.toNat=1\/r.toNat=2\/r.toNat=3:=om;rcases this with e|e|e|e<;>rw[e]<;>omega
   dsimp only;omega
  exact⟨Int.le_refl _,dc⟩
 exact⟨Int.le_refl _,dc⟩
theorem O3(c:cj)(h:eu w sb F S W rv wb oa)(D:cQ w F)(hx:js c.a)(hl:c.a.length<=400)(hu:W.a.d+200<=20000):
  Φ prog 70 #[Y (O ⟨sb,0,J⟩),.agg (aY c.b c.c c.a)] w λe t=>e=N (Ψ #[Z (ae (fM (bS (c.n 0) (ae (fS c.a)) W.a).1 (bS (c.n 0) (ae (fS c.a)) W.a).2)),bB (bS (c.n 0) (ae (fS c.a)) W.a).2])/\pJ w sb F S W (d9 W.b (c.n 0) (ae (fS c.a)) W.a) t:=by
 have hz:(ae (fS c.a)).size<=200:=by rw[aV];unfold fS;simp;omega
 have HX:H (∀V,Φ prog 102 #[Z (ae c.a)] V λe t=>e=N (Ψ #[Z (ae (fS c.a)),.bool true])/\B V.1.size V t):=λV=>Jw _ V hl hx;have z:H (B w.1.size w (w.alloc (Δ (aY c.b c.c c.a) 112))):=ba;have HN:H ((w.alloc (Δ (aY c.b c.c c.a) 112)).1[w.1.size]?=O (Δ (aY c.b c.c c.a) 112)):=by exact bn _ _
 unfold cj.n;unfold aY at z HN⊢;generalize c.c.getD 0 0=n0 at *;generalize fS c.a=X at *;have L:H (∀V,B w.1.size w V->Φ prog 103 #[Y (O ⟨wb,0,J⟩),I Q n0,Z (ae X)] V λe t=>e=N (Ψ #[I Q (bS n0 (ae X) W.a).1,bB (bS n0 (ae X) W.a).2])/\∃v,jy t wb v W.b W.d (d9 W.b n0 (ae X) W.a)/\cD V t oa v):=λV G=>GP n0 (ae X) (h.a G).d (D.c G).d.a (h.k D) om (λ_=>by omega);have P:H (∀V,cQ V F->Φ prog 72 #[I Q (bS n0 (ae X) W.a).1,bB (bS n0 (ae X) W.a).2] V λe t=>e=N (Ψ #[Z (ae (fM (bS n0 (ae X) W.a).1 (bS n0 (ae X) W.a).2)),bB (bS n0 (ae X) W.a).2])/\B V.1.size V t):=λV G=>by have hb:=x9 n0 (ae X) W.a om;exact wM _ _ V G.a om om
 have f:H (eu w sb F S W rv wb oa):=h;have HC:H (cQ w F):=D;generalize (bS n0 (ae X) W.a).1=m at *;generalize (bS n0 (ae X) W.a).2=n at *;generalize hE:bB n=E at *;clear h D hx hl hu hz hE;go_enter func70,ntmps70;go_wp2_with (go_at_call 102;refine(HX.o _).m ?_;rintro e A ⟨rfl,q⟩);have r:H (B w.1.size w A):=bQ z.o q;have c0:A.cell? ⟨w.1.size,1,J⟩=O (I Q n0):=nN HN.o rfl q;have HL:H (w.1.size<A.1.size):=by have:=q.size;simp at this;exact this
 clear q;have g:A.drew.cell? ⟨sb,23,J⟩=O (Y (O ⟨wb,0,J⟩))/\A.drew.cell? ⟨w.1.size,1,J⟩=O (I Q n0):=⟨(f.o.a r.o).e,c0⟩;refine fG (S:=λU=>U.cell? ⟨sb,23,J⟩=O (Y (O ⟨wb,0,J⟩))/\U.cell? ⟨w.1.size,1,J⟩=O (I Q n0)) kr g (λ_=>?_);refine ar 0 17 (Y (O ⟨sb,0,J⟩)) g ?_;refine ar 1 18 (Y (O ⟨sb,0,J⟩)) g ?_;refine ar 2 19 (Y (O ⟨sb,23,J⟩)) g ?_;refine ar 3 20 (Y (O ⟨wb,0,J⟩)) g ?_ (hy:=af ⟨by rfl,λwx C=>by (try dsimp only at C);obtain⟨r0,r1⟩:=C;go_simp⟩);refine ar 4 21 (Y (O ⟨w.1.size,1,J⟩)) g ?_;refine ar 5 22 (Y (O ⟨w.1.size,1,J⟩)) g ?_;refine ar 6 23 (I Q n0) g ?_ (hy:=af ⟨by rfl,λwx C=>by (try dsimp only at C);obtain⟨r0,r1⟩:=C;go_simp⟩);refine ar 7 24 (Z (ae X)) g ?_;refine a9 (rs:=[8]) kr sm ?_;refine aQ rfl (λK x=>?_) aZ;go_simp;refine(L.o _ r.o.drew).m ?_;rintro e T ⟨rfl,v,u,R⟩;obtain⟨d0,d1,y⟩:=f.o.i r.o.drew HC.o u R;have HT:H _:=f.o.j r.o.drew HC.o u R;have l:T.cell? ⟨sb,23,J⟩=O (Y (O ⟨wb,0,J⟩))/\T.cell? ⟨w.1.size,1,J⟩=O (I Q n0):=⟨d0,(d1 _ 1 nl HL.o).trans c0⟩;clear d0 d1 u R;go_wp2_with fail;refine x.out _ _ l (λ_=>?_);clear x K;refine ar 9 26 (I Q m) l ?_;refine ar 10 27 E l ?_;refine a9 (rs:=[11]) kr sm ?_;refine aQ rfl (λK x=>?_) aZ;go_simp;refine(P.o _ y).m ?_;rintro e w3 ⟨rfl,s⟩;have HF:H _:=HT.o.a s;have p:w3.cell? ⟨sb,23,J⟩=O (Y (O ⟨wb,0,J⟩))/\w3.cell? ⟨w.1.size,1,J⟩=O (I Q n0):=⟨(cz s l.1),(cz s l.2)⟩;clear s y;go_wp2_with fail;refine x.out _ _ p (λ_=>?_);clear x K;refine ar 12 29 (Z (ae (fM m n))) p ?_;refine ar 13 30 E p ?_;refine ar 14 4 (Z (ae (fM m n))) p ?_;refine ar 15 5 E p ?_;refine ea kr ?_ _;clear g l p;go_wp2;go_ret2;exact⟨rfl,HF.o⟩
end
end
section
open Go.RowKit Go.Maps
section
variable {w w' V:Ω}{sb wb:Nat}{F:Nat->Prop}{S:bY}{W:fP}{rv:Value}{oa oa':Nat->Nat}{s':ay}
theorem O4(c:cj)(w:Ω)(j:cN w)(h:jQ (ae c.a))(i:c.a.length<=400):
  Φ prog 71 #[Y (O ⟨sb,0,J⟩),.agg (aY c.b c.c c.a)] w λe f=>e=N (Ψ #[Z ⟨#[]⟩,bB 4])/\B w.1.size w f:=by
 have d:H (∀V,cN V->Φ prog 104 #[Z (ae c.a)] V λe f=>e=N (Ψ #[Z ⟨#[]⟩,.iface 57 (I Q 4)])/\B V.1.size V f):=λV l=>z8 _ V l h (by rw[aV];exact i);have k:H (cN w):=j;unfold aY;clear h i j;go_enter func71,ntmps71;go_wp2_with (go_at_call 104;refine(d.o _ (jr _ k.o)).m ?_;rintro e n ⟨rfl,g⟩);go_ret2;exact⟨rfl,bQ ba g⟩
def fe(c:cj)(b:ByteArray):bf:=⟨1,[⟨c.n 1,c.n 2,c.n 3,b⟩],0⟩
def dN(c:cj)(b:ByteArray):ByteArray:=aM (aJ (fe c b))
theorem qu{s b:ByteArray}(h:gA s b):b.size=8:=by obtain⟨K,F,P,C,R,S,_,_,rfl⟩:=h.a;unfold oj;rw[zq]
theorem Au{c:cj}{b:ByteArray}(h:b.size=8):(dN c b).size<=15:=by unfold dN fe;rw[nA,jc,cr,bU,tN (by simpa using h)];simp
theorem Gi(V:Ω)(a s g:Int){b:ByteArray}(h:b.size=8):de (V.alloc (Δ #[I Q a,I Q s,I Q g,Z b] 102)) (O ⟨V.1.size,0,J⟩) [⟨a,s,g,b⟩] where
 d:=by intro r j;simp at j;subst j;rw[h];decide
 c:=λ_=>⟨V.1.size,0,rfl,by simp,λk r f=>by
  have i:k=0:=by have:=(gD.1 f).1;simp at this;exact this
  subst i;simp at f;subst f;have e:=(ck (bn V (Δ #[I Q a,I Q s,I Q g,Z b] 102))).1;exact⟨e 0 _ rfl,e 1 _ rfl,e 2 _ rfl,e 3 _ rfl⟩⟩
def s9(c:cj)(W:fP)(b:ByteArray)(t:List UInt8)(n:Nat)(s':ay):Prop:=(ch (fe c b)≠0/\t=[]/\n=ch (fe c b)/\s'=W.a)\/(ch (fe c b)=0/\t=fM (bS (c.n 0) (dN c b) W.a).1 (bS (c.n 0) (dN c b) W.a).2/\n=(bS (c.n 0) (dN c b) W.a).2/\s'=d9 W.b (c.n 0) (dN c b) W.a)
theorem O5(c:cj){b:ByteArray}(h:eu w sb F S W rv wb oa)(hc:cQ w F)(hg:gA (ae c.a) b)(hl:c.a.length<=400)(hu:W.a.d+200<=20000):
  Φ prog 71 #[Y (O ⟨sb,0,J⟩),.agg (aY c.b c.c c.a)] w λe x=>∃t n s',e=N (Ψ #[Z (ae t),bB n])/\s9 c W b t n s'/\pJ w sb F S W s' x:=by
 have hz:=qu hg;have hz2:=Au (c:=c) hz;have HG:H (∀V,cN V->Φ prog 104 #[Z (ae c.a)] V λe x=>e=N (Ψ #[Z b,.nilIface])/\B V.1.size V x):=λV T=>zA _ b V T hg (by rw[aV];exact hl);have HT:H (cN w):=hc.d;have HB:H (∀(V:Ω)(q:Nat),V.1.size=q->Φ prog 105 #[.agg #[I Q 1,M (O ⟨q,0,J⟩) 1 1,I Q 0]] (V.alloc (Δ #[I Q (c.n 1),I Q (c.n 2),I Q (c.n 3),Z b] 102)) λe x=>e=N (Ψ #[Z (mg (fe c b)),k9 (ch (fe c b))])/\B V.1.size V x):=λV q hq=>by rw[<-hq];exact(CX (fe c b) _ 1 _ (Gi V _ _ _ hz)).m λe x ⟨he,hb⟩=>⟨he,bQ ba hb⟩
 have HR:H ((ch (fe c b)≠0->s9 c W b [] (ch (fe c b)) W.a)/\(ch (fe c b)=0->s9 c W b (fM (bS (c.n 0) (dN c b) W.a).1 (bS (c.n 0) (dN c b) W.a).2) (bS (c.n 0) (dN c b) W.a).2 (d9 W.b (c.n 0) (dN c b) W.a))):=⟨λh=>af ⟨h,rfl,rfl,rfl⟩,λh=>ah ⟨h,rfl,rfl,rfl⟩⟩
 have HE:H ((ch (fe c b)≠0/\mg (fe c b)=⟨#[]⟩/\k9 (ch (fe c b))=.iface 57 (I Q (ch (fe c b):Int))/\bB (ch (fe c b))=.iface 57 (I Q (ch (fe c b):Int)))\/(ch (fe c b)=0/\mg (fe c b)=dN c b/\k9 (ch (fe c b))=.nilIface)):=by
  by_cases D:ch (fe c b)=0
  ·exact ah ⟨D,by unfold mg;rw[ak D];rfl,by rw[D];rfl⟩
  exact af ⟨D,by unfold mg;rw[ag D],xc D,pi D⟩
 have X:H (∀V,B w.1.size w V->Φ prog 103 #[Y (O ⟨wb,0,J⟩),I Q (c.n 0),Z (dN c b)] V λe x=>e=N (Ψ #[I Q (bS (c.n 0) (dN c b) W.a).1,bB (bS (c.n 0) (dN c b) W.a).2])/\∃P,jy x wb P W.b W.d (d9 W.b (c.n 0) (dN c b) W.a)/\cD V x oa P):=λV T=>GP _ _ (h.a T).d (hc.c T).d.a (h.k hc) om (λ_=>by omega);have HNu:H (∀V,cQ V F->Φ prog 72 #[I Q (bS (c.n 0) (dN c b) W.a).1,bB (bS (c.n 0) (dN c b) W.a).2] V λe x=>e=N (Ψ #[Z (ae (fM (bS (c.n 0) (dN c b) W.a).1 (bS (c.n 0) (dN c b) W.a).2)),bB (bS (c.n 0) (dN c b) W.a).2])/\B V.1.size V x):=λV T=>by have hb:=x9 (c.n 0) (dN c b) W.a om;exact wM _ _ V T.a om om
 have g:H (eu w sb F S W rv wb oa):=h;have HC:H (cQ w F):=hc;generalize s9 c W b=RR at *;generalize d9 W.b (c.n 0) (dN c b) W.a=s1 at *;generalize (bS (c.n 0) (dN c b) W.a).1=m at *;generalize (bS (c.n 0) (dN c b) W.a).2=n at *;generalize ch (fe c b)=fl at *;generalize mg (fe c b)=B0 at *;generalize dN c b=B1 at *;generalize k9 fl=E0 at *;generalize hE:bB n=E at *;have HEn:H (bB n=E):=hE;unfold cj.n at HB X;unfold aY;generalize c.c.getD 0 0=n0 at *;generalize c.c.getD 1 0=n1 at *;generalize c.c.getD 2 0=n2 at *;generalize c.c.getD 3 0=n3 at *;generalize c.c.getD 4 0=n4 at *;generalize c.c.getD 5 0=n5 at *;clear h hc hg hl hu hz hz2 hE;go_enter func71,ntmps71;go_wp2_with fail;refine(HG.o _ (jr _ HT.o)).m ?_;rintro e y ⟨rfl,p⟩;have d1:=nN (i:=1) (v:=I Q n0) (by exact bn _ _) rfl p;have d2:=nN (i:=2) (v:=I Q n1) (by exact bn _ _) rfl p;have d3:=nN (i:=3) (v:=I Q n2) (by exact bn _ _) rfl p;have d4:=nN (i:=4) (v:=I Q n3) (by exact bn _ _) rfl p;have d5:=nN (i:=5) (v:=I Q n4) (by exact bn _ _) rfl p;have d6:=nN (i:=6) (v:=I Q n5) (by exact bn _ _) rfl p;have HB1:H (B w.1.size w y):=bQ ba p;have HB2:H (B w.1.size w (y.alloc (Δ #[I Q n0,I Q n1,I Q n2,I Q n3,I Q n4,I Q n5] 71))):=l9 _ HB1.o;have HL1:H (w.1.size<=y.1.size):=HB1.o.size;clear p;go_wp2_with fail;clear d1 d2 d3 d4 d5 d6;refine(HB.o _ _ sm).m ?_;rintro e R ⟨rfl,A⟩;have c0:R.cell? ⟨y.1.size,0,J⟩=O (I Q n0):=nN (by exact bn _ _) rfl (by simpa using A);have u:H (B w.1.size w R):=bQ HB2.o (by simpa using A);have HL2:H (y.1.size<R.1.size):=by have:=A.size;simp at this;exact this
 clear A HB HG;rcases HE.o with ⟨f0,f1,f2,f3⟩|⟨f0,f1,f2⟩
 ·have L:H _:=HR.o.1 f0;have HF3:H (bB fl=.iface 57 (I Q (fl:Int))):=f3;have C:H (pJ w sb F S W W.a R):=g.o.f u.o;rw[f1,f2];clear f0 f1 f2 f3 HE HR;go_wp2;go_ret2;exact⟨[],fl,W.a,by rw[HF3.o];rfl,L.o,C.o⟩
 have L:H _:=HR.o.2 f0;rw[f1,f2];clear f0 f1 f2 HE HR;go_wp2_with fail;have l:R.drew.cell? ⟨sb,23,J⟩=O (Y (O ⟨wb,0,J⟩))/\R.drew.cell? ⟨y.1.size,0,J⟩=O (I Q n0):=⟨(g.o.a u.o).e,c0⟩;refine fG (S:=λU=>U.cell? ⟨sb,23,J⟩=O (Y (O ⟨wb,0,J⟩))/\U.cell? ⟨y.1.size,0,J⟩=O (I Q n0)) kr l (λ_=>?_);refine ar 0 38 (Y (O ⟨sb,0,J⟩)) l ?_;refine ar 1 39 (Y (O ⟨sb,0,J⟩)) l ?_;refine ar 2 40 (Y (O ⟨sb,23,J⟩)) l ?_;refine ar 3 41 (Y (O ⟨wb,0,J⟩)) l ?_ (hy:=af ⟨by rfl,λwx hS=>by (try dsimp only at hS);obtain⟨r0,r1⟩:=hS;go_simp⟩);refine ar 4 42 (Y (O ⟨y.1.size,0,J⟩)) l ?_;refine ar 5 43 (I Q n0) l ?_ (hy:=af ⟨by rfl,λwx hS=>by (try dsimp only at hS);obtain⟨r0,r1⟩:=hS;go_simp⟩);refine ar 6 44 (Z B1) l ?_;refine a9 (rs:=[7]) kr sm ?_;refine aQ rfl (λK hK=>?_) aZ;go_simp;refine(X.o _ u.o.drew).m ?_;rintro e w3 ⟨rfl,P,G,hp⟩;obtain⟨e0,e1,hc2⟩:=g.o.i u.o.drew HC.o G hp;have HT:H _:=g.o.j u.o.drew HC.o G hp;have r:w3.cell? ⟨sb,23,J⟩=O (Y (O ⟨wb,0,J⟩))/\w3.cell? ⟨y.1.size,0,J⟩=O (I Q n0):=⟨e0,(e1 _ 0 HL1.o HL2.o).trans c0⟩;clear e0 e1 G hp;go_wp2_with fail;refine hK.out _ _ r (λ_=>?_);clear hK K;refine ar 8 46 (I Q m) r ?_;refine ar 9 47 E r ?_;refine a9 (rs:=[10]) kr sm ?_;refine aQ rfl (λK hK=>?_) aZ;go_simp;refine(HNu.o _ hc2).m ?_;rintro e w4 ⟨rfl,z⟩;have C:H _:=HT.o.a z;have s:w4.cell? ⟨sb,23,J⟩=O (Y (O ⟨wb,0,J⟩))/\w4.cell? ⟨y.1.size,0,J⟩=O (I Q n0):=⟨(cz z r.1),(cz z r.2)⟩;clear z hc2;go_wp2_with fail;refine hK.out _ _ s (λ_=>?_);clear hK K;refine ar 11 49 (Z (ae (fM m n))) s ?_;refine ar 12 50 E s ?_;refine ar 13 4 (Z (ae (fM m n))) s ?_;refine ar 14 5 E s ?_;refine ea kr ?_ _;clear l r s;go_wp2;go_ret2;exact⟨_,n,_,by rw[HEn.o];rfl,L.o,C.o⟩
end
end
section
open Go.RowKit Go.Maps
theorem Gj{g:ByteArray}(h:0<aD g):∃t,gA t g:=by
 rcases Iq g with ⟨K,F,P,C,R,S,h1,h2,_⟩|⟨_,h2⟩
 ·exact⟨_,⟨K,F,P,C,R,S,h1,rfl,h2⟩⟩
 unfold aD at h;split at h
 ·rename_i h3;unfold iJ at h2;rw[ak h3]at h2;simp at h2
 omega
def fW(W:fP)(g:ByteArray)(e:Int):Int×Nat:=bV (W.a.c W.b) (aG g (aC W.b W.a (W.a.c W.b))) e (aI g (al (aC W.b W.a (W.a.c W.b))) W.b.d W.b.c e.toNat)
theorem GU(W:fP)(g:ByteArray)(e:Int): -9223372036854775808<=(fW W g e).1/\(fW W g e).1<=9223372036854775807:=by
 have h:=FY g (al (aC W.b W.a (W.a.c W.b))) W.b.d W.b.c e.toNat;have f:-9223372036854775808<=aI g (al (aC W.b W.a (W.a.c W.b))) W.b.d W.b.c e.toNat/\aI g (al (aC W.b W.a (W.a.c W.b))) W.b.d W.b.c e.toNat<=9223372036854775807:=by simp[Lit.wf]at h;exact h
 unfold fW bV
 repeat' split
 all_goals first|exact f|exact⟨dc,dc⟩
section
variable {w w' V:Ω}{sb wb:Nat}{F:Nat->Prop}{S:bY}{W:fP}{rv:Value}{oa oa':Nat->Nat}{s':ay}
theorem My(c:cj)(w:Ω)(j:cN w)(h:jQ (ae c.a))(i:c.a.length<=400):
  Φ prog 74 #[Y (O ⟨sb,0,J⟩),.agg (aY c.b c.c c.a)] w λe f=>e=N (Ψ #[Z ⟨#[]⟩,bB 4])/\B w.1.size w f:=by
 have d:H (∀V,cN V->Φ prog 104 #[Z (ae c.a)] V λe f=>e=N (Ψ #[Z ⟨#[]⟩,.iface 57 (I Q 4)])/\B V.1.size V f):=λV l=>z8 _ V l h (by rw[aV];exact i);have k:H (cN w):=j;unfold aY;clear h i j;go_enter func74,ntmps74;go_wp2_with (go_at_call 104;refine(d.o _ (jr _ k.o)).m ?_;rintro e n ⟨rfl,g⟩);go_ret2;exact⟨rfl,bQ ba g⟩
theorem RZ(c:cj)(w:Ω)(j:cN w)(h:jQ (ae c.a))(i:c.a.length<=400):
  Φ prog 75 #[Y (O ⟨sb,0,J⟩),.agg (aY c.b c.c c.a)] w λe f=>e=N (Ψ #[Z ⟨#[]⟩,bB 4])/\B w.1.size w f:=by
 have d:H (∀V,cN V->Φ prog 104 #[Z (ae c.a)] V λe f=>e=N (Ψ #[Z ⟨#[]⟩,.iface 57 (I Q 4)])/\B V.1.size V f):=λV l=>z8 _ V l h (by rw[aV];exact i);have k:H (cN w):=j;unfold aY;clear h i j;go_enter func75,ntmps75;go_wp2_with (go_at_call 104;refine(d.o _ (jr _ k.o)).m ?_;rintro e n ⟨rfl,g⟩);go_ret2;exact⟨rfl,bQ ba g⟩
def yk(q:Int×Nat)(t:List UInt8)(n:Nat):Prop:=n=q.2/\((q.2≠0/\t=[])\/(q.2=0/\q.1=-1/\t=[45])\/(q.2=0/\q.1≠-1/\t=Lib.itoa q.1))
def BC(f:Nat)(q:ByteArray)(t:List UInt8)(n:Nat):Prop:=n=f/\((f≠0/\t=[])\/(f=0/\q=⟨#[]⟩/\t=[45])\/(f=0/\q≠⟨#[]⟩/\gA (ae t) q))
theorem Mz(c:cj){b:ByteArray}(h:eu w sb F S W rv wb oa)(hc:cQ w F)(R:gA (ae c.a) b)(hl:c.a.length<=400):
  Φ prog 74 #[Y (O ⟨sb,0,J⟩),.agg (aY c.b c.c c.a)] w λe p=>∃t n,e=N (Ψ #[Z (ae t),bB n])/\yk (fW W b (c.n 0)) t n/\B w.1.size w p:=by
 have hz:=qu R;have X:H (∀V,cN V->Φ prog 104 #[Z (ae c.a)] V λe p=>e=N (Ψ #[Z b,.nilIface])/\B V.1.size V p):=λV k=>zA _ b V k R (by rw[aV];exact hl);have HC:H (∀V,B w.1.size w V->cQ V F):=λV k=>hc.c k;have G:H (∀V,B w.1.size w V->V.cell? ⟨sb,23,J⟩=O (Y (O ⟨wb,0,J⟩))/\Φ prog 108 #[Y (O ⟨wb,0,J⟩),Z b,I Q (c.n 0)] V λe p=>e=N (Ψ #[I Q (fW W b (c.n 0)).1,bB (fW W b (c.n 0)).2])/\B V.1.size V p):=λV k=>⟨(h.a k).e,DF b _ (h.a k).d.a om⟩;obtain⟨A,z⟩:=GU W b (c.n 0);have HI:H (∀V,aT V->Φ prog 48 #[I Q (fW W b (c.n 0)).1] V λe p=>e=N (Z (ae (Lib.itoa (fW W b (c.n 0)).1)))/\B V.1.size V p):=λV k=>uE _ V k A z;unfold cj.n at *;unfold aY;generalize c.c.getD 0 0=n0 at *;generalize fW W b n0=q at *;obtain⟨m,n⟩:=q;dsimp only at *;have HB0:H (B w.1.size w (w.alloc (Δ (aY c.b c.c c.a) 112))):=ba;clear h hc R hl hz A z;go_enter func74,ntmps74;go_wp2_with fail;refine(X.o _ (HC.o _ ba).d).m ?_;rintro e L ⟨rfl,l⟩;have c0:=nN (i:=1) (v:=I Q n0) (by exact bn _ _) rfl l;have r:H (B w.1.size w L):=bQ ba l;clear l X;go_wp2_with fail;have f:L.drew.cell? ⟨sb,23,J⟩=O (Y (O ⟨wb,0,J⟩))/\L.drew.cell? ⟨w.1.size,1,J⟩=O (I Q n0):=⟨(G.o _ r.o).1,c0⟩;refine fG (S:=λU=>U.cell? ⟨sb,23,J⟩=O (Y (O ⟨wb,0,J⟩))/\U.cell? ⟨w.1.size,1,J⟩=O (I Q n0)) kr f (λ_=>?_);refine ar 0 19 (Y (O ⟨sb,0,J⟩)) f ?_;refine ar 1 20 (Y (O ⟨sb,0,J⟩)) f ?_;refine ar 2 21 (Y (O ⟨sb,23,J⟩)) f ?_;refine ar 3 22 (Y (O ⟨wb,0,J⟩)) f ?_ (hy:=af ⟨by rfl,λwx y=>by (try dsimp only at y);obtain⟨r0,r1⟩:=y;go_simp⟩);refine ar 4 23 (Z b) f ?_;refine ar 5 24 (Y (O ⟨w.1.size,1,J⟩)) f ?_;refine ar 6 25 (Y (O ⟨w.1.size,1,J⟩)) f ?_;refine ar 7 26 (I Q n0) f ?_ (hy:=af ⟨by rfl,λwx y=>by (try dsimp only at y);obtain⟨r0,r1⟩:=y;go_simp⟩);refine a9 (rs:=[8]) kr sm ?_;refine aQ rfl (λK hK=>?_) aZ;go_simp;refine(G.o _ r.o.drew).2.m ?_;rintro e D ⟨rfl,s⟩;have j:H (B w.1.size w D):=bQ r.o.drew s;have g:D.cell? ⟨sb,23,J⟩=O (Y (O ⟨wb,0,J⟩))/\D.cell? ⟨w.1.size,1,J⟩=O (I Q n0):=⟨(G.o _ j.o).1,cz s f.2⟩;clear s
 have T:(n≠0/\bB n=.iface 57 (I Q (n:Int)))\/(n=0/\bB n=.nilIface):=by
  by_cases u:n=0
  ·exact ah ⟨u,by rw[u];rfl⟩
  exact af ⟨u,pi u⟩
 obtain⟨E,x⟩:∃E,H (bB n=E):=⟨_,rfl⟩;rw[x.o]at T⊢;go_wp2_with fail;refine hK.out _ _ g (λ_=>?_);clear hK K;refine ar 9 18 (Ψ #[I Q m,E]) g ?_;refine ar 10 28 (I Q m) g ?_;refine ar 11 29 E g ?_;refine ar 12 8 (I Q m) g ?_;refine ar 13 7 E g ?_;refine ea kr ?_ _;clear f g c0;rcases T with ⟨u,rfl⟩|⟨rfl,rfl⟩
 ·go_wp2;go_ret2;exact⟨[],n,by rw[x.o];rfl,⟨rfl,af ⟨u,rfl⟩⟩,j.o⟩
 by_cases C:m=-1
 ·have h1:(m == -1)=true:=(by simp[C]);go_wp2;go_ret2;exact⟨[45],0,rfl,⟨rfl,ah (af ⟨rfl,C,rfl⟩)⟩,j.o⟩
 have h1:(m == -1)=false:=(by simp[C]);go_wp2_with (go_at_call 48;refine(HI.o _ (HC.o _ j.o).a).m ?_;rintro e w3 ⟨rfl,P⟩);go_ret2;exact⟨Lib.itoa m,0,rfl,⟨rfl,ah (ah ⟨rfl,C,rfl⟩)⟩,bQ j.o P⟩
theorem GR{t g:ByteArray}(h:gA t g):∃l,gA (ae l) g:=⟨t.1.toList,h⟩
theorem SX{c:aE}{j:ay}{k:Nat}{g q:ByteArray}{e:Int}(h:mC c j k g e q):q=⟨#[]⟩\/(q≠⟨#[]⟩/\∃t,gA (ae t) q):=by
 by_cases a:q=⟨#[]⟩
 ·exact af a
 refine ah ⟨a,?_⟩;unfold mC at h;split at h
 ·rename_i h0;obtain⟨f,i,rfl⟩:=h
  have b:e.toNat<k:=by
   unfold bV at h0;split at h0
   ·omega
   cases h0
  rcases i e.toNat g b with ⟨h1,_⟩|⟨⟨_,h1⟩,_⟩
  ·exact absurd h1 a
  obtain⟨t,d⟩:=Gj (nc (aX _) h1);exact GR d
 exact absurd h a
theorem R0(c:cj){b q:ByteArray}(h:eu w sb F S W rv wb oa)(hc:cQ w F)(L:gA (ae c.a) b)(X:c.a.length<=400)(u:mC W.b W.a (W.a.c W.b) b (c.n 0) q):
  Φ prog 75 #[Y (O ⟨sb,0,J⟩),.agg (aY c.b c.c c.a)] w λe x=>∃t n,e=N (Ψ #[Z (ae t),bB n])/\BC (fW W b (c.n 0)).2 q t n/\B w.1.size w x:=by
 have hz:=qu L;have R:H (∀V,cN V->Φ prog 104 #[Z (ae c.a)] V λe x=>e=N (Ψ #[Z b,.nilIface])/\B V.1.size V x):=λV s=>zA _ b V s L (by rw[aV];exact X);have HC:H (∀V,B w.1.size w V->cQ V F):=λV s=>hc.c s;have C:H (∀V,B w.1.size w V->V.cell? ⟨sb,23,J⟩=O (Y (O ⟨wb,0,J⟩))/\Φ prog 109 #[Y (O ⟨wb,0,J⟩),Z b,I Q (c.n 0)] V λe x=>e=N (Ψ #[Z q,bB (fW W b (c.n 0)).2])/\B V.1.size V x):=λV s=>⟨(h.a s).e,Kl b _ (h.a s).d.a om u⟩;have HQ:H (q=⟨#[]⟩\/(q≠⟨#[]⟩/\∃t,gA (ae t) q)):=SX u;unfold cj.n at *;unfold aY;generalize c.c.getD 0 0=n0 at *;generalize (fW W b n0).2=n at *;have HB0:H (B w.1.size w (w.alloc (Δ (aY c.b c.c c.a) 112))):=ba;clear h hc L X hz u;go_enter func75,ntmps75;go_wp2_with fail;refine(R.o _ (HC.o _ ba).d).m ?_;rintro e D ⟨rfl,k⟩;have c0:=nN (i:=1) (v:=I Q n0) (by exact bn _ _) rfl k;have l:H (B w.1.size w D):=bQ ba k;clear k R;go_wp2_with fail;have f:D.drew.cell? ⟨sb,23,J⟩=O (Y (O ⟨wb,0,J⟩))/\D.drew.cell? ⟨w.1.size,1,J⟩=O (I Q n0):=⟨(C.o _ l.o).1,c0⟩;refine fG (S:=λU=>U.cell? ⟨sb,23,J⟩=O (Y (O ⟨wb,0,J⟩))/\U.cell? ⟨w.1.size,1,J⟩=O (I Q n0)) kr f (λ_=>?_);refine ar 0 19 (Y (O ⟨sb,0,J⟩)) f ?_;refine ar 1 20 (Y (O ⟨sb,0,J⟩)) f ?_;refine ar 2 21 (Y (O ⟨sb,23,J⟩)) f ?_;refine ar 3 22 (Y (O ⟨wb,0,J⟩)) f ?_ (hy:=af ⟨by rfl,λwx z=>by (try dsimp only at z);obtain⟨r0,r1⟩:=z;go_simp⟩);refine ar 4 23 (Z b) f ?_;refine ar 5 24 (Y (O ⟨w.1.size,1,J⟩)) f ?_;refine ar 6 25 (Y (O ⟨w.1.size,1,J⟩)) f ?_;refine ar 7 26 (I Q n0) f ?_ (hy:=af ⟨by rfl,λwx z=>by (try dsimp only at z);obtain⟨r0,r1⟩:=z;go_simp⟩);refine a9 (rs:=[8]) kr sm ?_;refine aQ rfl (λK T=>?_) aZ;go_simp;refine(C.o _ l.o.drew).2.m ?_;rintro e A ⟨rfl,p⟩;have j:H (B w.1.size w A):=bQ l.o.drew p;have g:A.cell? ⟨sb,23,J⟩=O (Y (O ⟨wb,0,J⟩))/\A.cell? ⟨w.1.size,1,J⟩=O (I Q n0):=⟨(C.o _ j.o).1,cz p f.2⟩;clear p
 have P:(n≠0/\bB n=.iface 57 (I Q (n:Int)))\/(n=0/\bB n=.nilIface):=by
  by_cases r:n=0
  ·exact ah ⟨r,by rw[r];rfl⟩
  exact af ⟨r,pi r⟩
 obtain⟨E,y⟩:∃E,H (bB n=E):=⟨_,rfl⟩;rw[y.o]at P⊢;go_wp2_with fail;refine T.out _ _ g (λ_=>?_);clear T K;refine ar 9 18 (Ψ #[Z q,E]) g ?_;refine ar 10 28 (Z q) g ?_;refine ar 11 29 E g ?_;refine ar 12 8 (Z q) g ?_;refine ar 13 7 E g ?_;refine ea kr ?_ _;clear f g c0;rcases P with ⟨r,rfl⟩|⟨rfl,rfl⟩
 ·go_wp2;go_ret2;exact⟨[],n,by rw[y.o];rfl,⟨rfl,af ⟨r,rfl⟩⟩,j.o⟩
 rcases HQ.o with rfl|⟨u,t,ht⟩
 ·go_wp2;go_ret2;exact⟨[45],0,rfl,⟨rfl,ah (af ⟨rfl,rfl,rfl⟩)⟩,j.o⟩
 have h1:q.toList.isEmpty=false:=(by rw[cY,List.isEmpty_eq_false_iff];exact λh=>u (by have e:=ke (nU.1 (h.trans (Array.toList_empty).symm));exact e));go_wp2_with (go_at_call 110;refine(CS (ae t) q _ (HC.o _ j.o).d ht).m ?_;rintro e w3 ⟨rfl,G⟩);go_ret2;exact⟨t,0,rfl,⟨rfl,ah (ah ⟨rfl,u,ht⟩)⟩,bQ j.o G⟩
end
end
section
open Go.RowKit Go.Maps
def fX(l:List UInt8):Value:=Z (ae l)
structure kN (w V:Ω) (v:Value) (xs:List (List UInt8)):Prop where
 b:V.ownsRow w.1.size 9 1 v xs.length (xs.map fX)
 a:B w.1.size w V
section
variable {w V V':Ω}{v v':Value}{xs:List (List UInt8)}{x:List UInt8}
theorem kN.c(h:kN w V v xs)(d:B V.1.size V V'):kN w V' v xs:=⟨Dg h.b d,bQ h.a d⟩
theorem kN.f(h:kN w V v xs)(d:V'.ownsRow w.1.size 9 1 v' (xs.length+1) (xs.map fX++[fX x]))(c:V.grownBy V' v.ownBlock):kN w V' v' (xs++[x]):=by
 refine⟨?_,h.a.t ⟨c.os,c.tape,c.output,c.size,λj g=>c.block j (bg g h.a.size) (λe=>?_)⟩⟩
 ·rw[bU,iY];exact d
 have:=(bG h.b j e.symm).1;omega
theorem kN.e(w:Ω):kN w w (M J 0 0) []:=⟨⟨rfl,af ⟨rfl,rfl⟩⟩,aj _ _⟩
theorem kN.d{g n c:Nat}(h:kN w V (M (O ⟨g,0,J⟩) n c) xs)(a:ByteArray)(t:(Lib.join xs a.1.toList).length<=10000000)(q:xs.length<=1000000):
  Φ prog 113 #[M (O ⟨g,0,J⟩) n c,Z a] V λe r=>e=N (Z (ae (Lib.join xs a.1.toList)))/\B V.1.size V r:=by
 have s:n=xs.length/\n<=c/\g<V.1.size:=by
  rcases h.b.2 with ⟨h1,_⟩|⟨g',cap,cur,h1,_,i,k,_⟩
  ·cases h1
  cases h1;exact⟨rfl,k,(bP.1 i).1⟩
 obtain⟨rfl,i,k⟩:=s
 have f:(xs.map ae).map (·.1.toList)=xs:=by
  rw[List.map_map]
  conv=>rhs;rw[<-List.map_id xs]
  exact tw (λx _=>bX x)
 have o:=strings_Join g 0 c (xs.map ae) a V (by
  intro j x l;rw[eE]at l;obtain⟨y,m,rfl⟩:=Option.map_eq_some_iff.1 l;have p:j<xs.length:=(gD.1 m).1;rw[dj,h.b.cellAt j om,eE,m];rfl) k (by rw[jp];omega) (by rw[jp];exact i) (by rw[f];omega)
 rw[f,jp]at o;exact o
end
def lu(s:ay):List Int:=[(dE s 4:Int),(s.n:Int),(s.p:Int),(s.l:Int),(s.o:Int)]
def mZ(s:ay):List UInt8:=Lib.join ((lu s).map Lib.itoa) [32]
theorem R2(s:ay):dE s 4<=s.d:=by unfold ay.d;simp only[xy];show 0+_+_+_+_<=_;omega
theorem Bh{s:ay}(h:s.d<=20000):∀n,n∈lu s->0<=n/\n<=20000:=by
 intro n a;have c:=R2 s;have b:s.m<=s.d:=by unfold ay.d;omega
 unfold ay.m at b;simp only[lu,jN,nj,or_false]at a;rcases a with rfl|rfl|rfl|rfl|rfl<;>omega
theorem xL{k:Nat}:∀(l:List (List UInt8)) (s:List UInt8),(∀x,x∈l->x.length<=k)->(Lib.join l s).length<=l.length*(k+s.length)
 |[],s,_=>by simp[Lib.join]
 |[x],s,h=>by have:=h x sm;simp[Lib.join];omega
 |x::y::t,s,h=>by
  have b:=xL (y::t) s (λz a=>h z (by simp[a]));have c:=h x sm;have e:Lib.join (x::y::t) s=x++s++Lib.join (y::t) s:=by simp[Lib.join,List.intercalate]
  rw[e,bU,bU,eF,Nat.add_mul _ 1];omega
theorem R1{s:ay}(h:s.d<=20000):(mZ s).length<=1000:=by unfold mZ;refine aP (xL (k:=20) _ _ ?_) (by simp[lu]);intro x a;obtain⟨n,b,rfl⟩:=iH.1 a;have:=Bh h n b;exact sO _ om om
section
variable {w w' V:Ω}{sb wb:Nat}{F:Nat->Prop}{S:bY}{W:fP}{rv:Value}{oa oa':Nat->Nat}{s':ay}
theorem vY:(prog.info? 9).map (λi=>(i.zero,i.size,i.bytes))=O (O (Z ⟨#[]⟩),1,16):=kr
theorem O6(h:eu w sb F S W rv wb oa)(hc:cQ w F)(G:W.a.d<=20000):
  Φ prog 78 #[Y (O ⟨sb,0,J⟩)] w λe y=>e=N (Ψ #[Z (ae (mZ W.a)),.nilIface])/\B w.1.size w y:=by
 have HD:H (∀V,B w.1.size w V->V.cell? ⟨sb,23,J⟩=O (Y (O ⟨wb,0,J⟩))/\Φ prog 114 #[Y (O ⟨wb,0,J⟩)] V λe y=>e=N (oK W.a (dE W.a 4))/\B V.1.size V y):=λV v=>⟨(h.a v).e,L4 (h.a v).d.a⟩;have HC:H (∀V,B w.1.size w V->aT V):=λV v=>(hc.c v).a
 have HI:H (∀V (j:Nat),aT V->j<5->Φ prog 48 #[I Q ((lu W.a).getD j 0)] V λe y=>e=N (Z (ae (Lib.itoa ((lu W.a).getD j 0))))/\B V.1.size V y):=λV j v hj=>by
  have:=Bh G ((lu W.a).getD j 0) (by
   match j,hj with
  |0,_|1,_|2,_|3,_|4,_=>simp[lu])
  exact uE _ V v om om
 have HL:=R1 G;obtain⟨i9,hi9,hz9,hs9,hb9⟩:=eb vY;have hcl:=(HD.o w br).1;unfold oK at HD;clear h hc G;go_enter func78,ntmps78;go_wp2_with fail;refine(HD.o w br).2.m ?_;rintro e w1 ⟨rfl,L⟩;have HB1:H (B w.1.size w w1):=L;clear L;generalize hN:lu W.a=k at *;have D:k=[(dE W.a 4:Int),(W.a.n:Int),(W.a.p:Int),(W.a.l:Int),(W.a.o:Int)]:=hN.symm;have HT:H (mZ W.a=Lib.join (k.map Lib.itoa) [32]):=by show _=_;unfold mZ;rw[hN]
 generalize (dE W.a 4:Int)=z0 at *;generalize (W.a.n:Int)=z1 at *;generalize (W.a.p:Int)=z2 at *;generalize (W.a.l:Int)=z3 at *;generalize (W.a.o:Int)=z4 at *;have s:H (k=[z0,z1,z2,z3,z4]):=D;have HR0:H (kN w (w1.alloc (Δ #[I Q z0,I Q z1,I Q z2,I Q z3,I Q z4] 51)) (M J 0 0) []):=((kN.e w).c HB1.o).c ba
 have U:∀(j:Nat)(V:Ω),j<5->(Instr.index 200 (.agg #[I Q z0,I Q z1,I Q z2,I Q z3,I Q z4]) (I Q (j:Int))).run prog V=.ok (I Q (k.getD j 0)) V:=λj V hj=>by
  rw[D]
  match j,hj with
 |0,_|1,_|2,_|3,_|4,_=>show _=_;kernel_rfl
 clear hN D;go_wp2_with fail;go_loopw [5,7,24] (λl _ i V=>∃j:Nat,j<=5/\i=I Q (j:Int)/\kN w V l ((k.take j).map Lib.itoa)) (λ_ _ i _=>5-(intOf i).toNat)
 case atStart=>exact⟨0,om,rfl,HR0.o⟩
 obtain⟨j,hj,rfl,hr⟩:=hrel;have HR:H _:=hr;clear hr;by_cases C:j<5
 case pos=>
  have hI:(j:Int)<5:=om;have hixj:=U j wr C
  have HNx:H ((k.take (j+1)).map Lib.itoa=(k.take j).map Lib.itoa++[Lib.itoa (k.getD j 0)]):=by
   show _=_;rw[s.o]
   match j,C with
  |0,_|1,_|2,_|3,_|4,_=>rfl
  have HIj:H _:=λV v=>HI.o V j v C;have K:H (((k.take j).map Lib.itoa).length=j):=(by show _=_;rw[s.o];simp;omega);generalize k.getD j 0=z at *;generalize (k.take j).map Lib.itoa=X at *;clear U;go_wp2_with fail;refine(HIj.o _ (HC.o _ HR.o.a)).m ?_;rintro e w2 ⟨rfl,a0⟩;have E:=HR.o.c a0;have P:H _:=E.c (br.l nl (Δ #[fX (Lib.itoa z)] 9));have t:=P.o.b;have hs1:w.1.size<=w2.1.size:=E.a.size;rw[K.o]at t;clear a0 E;unfold fX at t;go_wp2_with (at_builtin;refine iB _ rfl _ _ 22 rfl w.1.size 9 i9 (Z ⟨#[]⟩) 1 16 underlying22 hi9 hz9 hs9 hb9 rfl dc _ _ _ rfl t ⟨w2.1.size,0,J⟩ 1 1 [Z (ae (Lib.itoa z))] rfl rfl ?q1 ?q2 om ?q3 ?q4 ?q5 (w2.1.size+1) ?q6 ?_)
  try case q1=>
   intro i u hi
   match i,hi with
  |0,hi=>simp at hi;subst hi;simp[Addr.add]
  try case q2=>first|rfl|(intro u G;simp at G;subst G;rfl)
  try case q3=>unfold maxLen;omega
  try case q4=>omega
  try case q5=>simp;omega
  try case q6=>simp
  intro g3 R V3 r q T a1;have HR3:H (kN w V3 (M (O ⟨g3,0,J⟩) (j+1) R) ((k.take (j+1)).map Lib.itoa)):=(by have:=P.o.f (x:=Lib.itoa z) (v':=M (O ⟨g3,0,J⟩) (j+1) R) (by rw[K.o];exact r) q;rw[HNx.o];exact this);clear r q T a1 t;go_wp2;go_roundw
  case rel=>exact⟨j+1,om,by go_num,HR3.o⟩
  simp[intOf];omega
 have hI:¬(j:Int)<5:=om;have e5:j=5:=om;subst e5;have A:H (kN w wr u5 (k.map Lib.itoa)):=by have:=HR.o;rw[s.o]at this⊢;exact this
 have hsl:∃g n c,u5=M (O ⟨g,0,J⟩) n c:=by
  rcases A.o.b.2 with ⟨_,h1⟩|⟨g',cap,cur,h1,_⟩
  ·rw[s.o]at h1;cases h1
  exact⟨_,_,_,h1⟩
 obtain⟨g,n,c,rfl⟩:=hsl;have HJ:H (Φ prog 113 #[M (O ⟨g,0,J⟩) n c,Z ⟨#[32]⟩] wr λe y=>e=N (Z (ae (mZ W.a)))/\B wr.1.size wr y):=(by rw[HT.o];exact A.o.d ⟨#[32]⟩ (by show (Lib.join _ [32]).length<=_;rw[<-HT.o];omega) (by rw[s.o];simp));go_wp2_with (go_at_call 113;refine HJ.o.m ?_;rintro e w3 ⟨rfl,hb3⟩);go_ret2;exact⟨rfl,bQ A.o.a hb3⟩
end
end
section
open Go.RowKit Go.Maps
theorem Cy{W d:Nat}{ep:Nat->List ai}{L:List ByteArray}{e:Nat}{a:dG}:∀(rs:List aq)(i:Nat),a∈jS W d ep L e rs i->i<=a.a/\a.a<i+rs.length/\a.b=e/\a.c∈L
 |[],_,h=>by cases h
 |r::rs,i,h=>by
  rcases dP.1 h with h|h
  ·unfold ei at h;obtain⟨g,j,rfl⟩:=iH.1 h;exact⟨aa _,by simp,rfl,(oW.1 j).1⟩
  obtain⟨k,l,f⟩:=Cy rs (i+1) h;exact⟨om,by simp;omega,f⟩
theorem Gk{c:aE}{rs:List aq}{s:ay}{k:Nat}{a:dG}(h:a∈bM c rs s k):a.a<rs.length/\a.b<k/\∃x,x∈s.a/\x.a=a.c:=by unfold bM at h;obtain⟨e,d,h⟩:=List.mem_flatMap.1 h;obtain⟨i,j,f,g⟩:=Cy rs 0 h;exact⟨om,by rw[f];exact List.mem_range.1 d,(xQ _ _).1 (xx g)⟩
def BE(S:bY)(a:dG)(x:List UInt8):Prop:=∃t r,S.a[a.a]?=O r/\gA (ae t) a.c/\x=r.a.1.toList++[32]++Lib.itoa (a.b:Int)++[32]++t
structure pH (S:bY) (A:List dG) (xs:List (List UInt8)):Prop where
 b:xs.length=A.length
 c:∀(i:Nat) a x,A[i]?=O a->xs[i]?=O x->BE S a x
theorem pH.e{S:bY}{A:List dG}{xs:List (List UInt8)}{j:Nat}{a:dG}{x:List UInt8}(h:pH S (A.take j) xs)(k:A[j]?=O a)(m:BE S a x):pH S (A.take (j+1)) (xs++[x]):=by
 have n:=(gD.1 k).1;have g:xs.length=j:=by rw[h.b,fj];omega
 refine⟨by rw[bU,g,fj];simp;omega,λi b y d f=>?_⟩;have l:i<j+1:=by have:=(gD.1 d).1;rw[fj]at this;omega
 rw[List.getElem?_take,ak l]at d;by_cases e:i=j
 ·subst e;rw[k]at d;cases d;rw[jb om,g]at f;simp at f;subst f;exact m
 rw[gO om]at f;exact h.c i b y (by rw[List.getElem?_take,ak om];exact d) f
theorem Bi{t b:ByteArray}(h:gA t b):t.size<=31:=by
 obtain⟨K,F,P,C,R,S,d,rfl,_⟩:=h.a;obtain⟨j,f,p,c,r,s,rfl,rfl,rfl,rfl,rfl,rfl⟩:=mL d;obtain⟨l,m,g,v,i,e,k⟩:=qF d;have q:=Fb g (iu e (lH p).1) (iu k (lI p).1) i;have u:=D8 j;unfold fR gw;rw[qW,qW];simp only[ir,Nat.add_sub_cancel];have n:(⟨#[58]⟩:ByteArray).size=1:=rfl;have o:(⟨(fN f p c r s).toArray⟩:ByteArray).size=(fN f p c r s).length:=by simp[ByteArray.size]
 omega
theorem pH.d{S:bY}{A:List dG}{xs:List (List UInt8)}(h:pH S A xs)(o:∀r,r∈S.a->r.h)(j:∀a,a∈A->a.b<=1000):∀x,x∈xs->x.length<=70:=by
 intro x l;obtain⟨i,e,rfl⟩:=List.mem_iff_getElem.1 l;have f:i<A.length:=by rw[<-h.b];exact e
 obtain⟨t,r,m,n,g⟩:=h.c i A[i] xs[i] (by simp[f]) (by simp[e]);have u:=um (o r (iW m));have k:=Bi n;have p:=j A[i] (eG _);have s:=sO (A[i].b:Int) om om;rw[g];rw[aV]at k;have q:r.a.1.toList.length=r.a.size:=Ar _;simp only[bU,List.length_singleton];omega
def BD(S:bY)(A:List dG)(t:List UInt8):Prop:=(A=[]/\t=[45])\/(A≠[]/\∃xs,pH S A xs/\t=Lib.join xs [44,32])
theorem QI(nm:ByteArray)(a t:List UInt8):nm++⟨#[32]⟩++ae a++⟨#[32]⟩++ae t=ae (nm.1.toList++[32]++a++[32]++t):=by rw[<-pq,<-pq,<-pq,<-pq];rfl
def wg(sb ab gr o:Nat)(rv:Value)(a:dG)(nm:ByteArray)(U:Ω):Prop:=U.cell? ⟨sb,22,J⟩=O rv/\U.cell? ⟨ab,0,J⟩=O (I Q (a.a:Int))/\U.cell? ⟨ab,1,J⟩=O (I Q (a.b:Int))/\U.cell? ⟨gr,o+a.a*6,J⟩=O (Z nm)
section
variable {w w' V:Ω}{sb wb:Nat}{F:Nat->Prop}{S:bY}{W:fP}{rv:Value}{oa oa':Nat->Nat}{s':ay}
theorem MA(h:eu w sb F S W rv wb oa)(hc:cQ w F):
  Φ prog 77 #[Y (O ⟨sb,0,J⟩)] w λe w'=>∃t,e=N (Ψ #[Z (ae t),.nilIface])/\BD S (bM W.b W.d W.a (W.a.c W.b)) t/\B w.1.size w w':=by
 obtain⟨pp,hwa⟩:=h.d.a.a;have hal:=AK hwa;have HAF:H (∀a,a∈bM W.b W.d W.a (W.a.c W.b)->a.b<=1000/\(∃r,S.a[a.a]?=O r)/\∃t,gA (ae t) a.c):=λa ha=>by obtain⟨h1,h2,x,h3,h4⟩:=Gk ha;obtain⟨tl,htl⟩:=h.h;have h5:=aP hwa.u (aP kU hwa.h);refine⟨om,⟨W.d[a.a],by rw[htl,gO h1];simp[h1]⟩,?_⟩;obtain⟨t,ht⟩:=Gj (hwa.z x h3).2;rw[h4]at ht;exact GR ht
 have HAL:=hid (Km h.d.a);have n:=hid h.c;have HC:=hid hc;have hcl:=h.e;generalize bM W.b W.d W.a (W.a.c W.b)=A at *;obtain⟨i9,hi9,hz9,hs9,hb9⟩:=eb vY;go_enter func77,ntmps77;go_wp2_with fail;refine HAL.o.m ?_;rintro e w1 ⟨u,rfl,hrow,hb1⟩;have C:=hid hb1
 have hform:∃q cap,u=M q A.length cap:=by
  rcases hrow.2 with ⟨rfl,h0⟩|⟨g,cap,cur,hv,_⟩
  ·exact⟨J,0,by rw[h0]⟩
  exact⟨_,_,hv⟩
 obtain⟨q,cap,rfl⟩:=hform;have HROW:=hid hrow;have HR0:=hid (kN.e w1);go_wp2_with fail;go_loopw [4,6,7,8,15] (λl _ _ _ i V=>∃(j:Nat) (L:List (List UInt8)),j<=A.length/\i=I Q (j:Int)/\kN w1 V l L/\pH S (A.take j) L) (λ_ _ _ _ i _=>A.length-(intOf i).toNat)
 case atStart=>exact⟨0,[],om,rfl,HR0.o,⟨rfl,λi a x hi=>by simp at hi⟩⟩
 obtain⟨j,L,hj,rfl,hr,hx⟩:=hrel;have HR:=hid hr;have HX:=hid hx;by_cases hlt:j<A.length
 case pos=>
  have hI:(j:Int)<A.length:=om;obtain⟨a,ha⟩:∃a,A[j]?=O a:=⟨A[j],by simp[hlt]⟩;obtain⟨hep,⟨r,hr⟩,t,ht⟩:=HAF.o a (iW ha)
  obtain⟨g,rfl⟩:∃g,q=O ⟨g,0,J⟩:=by
   rcases HROW.o.2 with ⟨_,h0⟩|⟨g,_,_,hv,_⟩
   ·omega
   cases hv;exact⟨_,rfl⟩
  have hc:∀k u,k<3->(rE a)[k]?=O u->wr.cell? ⟨g,j*3+k,J⟩=O u:=λk u hk hu=>(by have:=World.ownsRow.cells HROW.o (g:=g) rfl (j*3+k) u (by unfold gd;rw[qq rE 3 (λ_=>rfl) A j k a ha hk];exact hu);rw[dD]at this;exact cz HR.o.a this);have e0:wr.cell? ⟨g,j*3,J⟩=O (I Q (a.a:Int)):=hc 0 _ om rfl;have e1:wr.cell? ⟨g,j*3+1,J⟩=O (I Q (a.b:Int)):=hc 1 _ om rfl;have e2:wr.cell? ⟨g,j*3+1+1,J⟩=O (Z a.c):=hc 2 _ om rfl;obtain⟨q',s,hrv,hon,-,hcp⟩:=vS n.o.c;have hrl:=(gD.1 hr).1;obtain⟨T,o,rfl,hgr,hcr⟩:=hon.a (λe=>by rw[e]at hrl;cases hrl);have HGR:=hid ((hcr a.a r hr).1);have a1:=hid (C.o.t (HR.o.a.m C.o.size));have HTX:H (∀V,B w.1.size w V->Φ prog 110 #[Z a.c] V λe w'=>e=N (Ψ #[Z (ae t),.nilIface])/\B V.1.size V w'):=λV hV=>CS (ae t) a.c V (HC.o.c hV).d ht;have HTT:=hid ht;have HAA:=hid ha;have HRR:=hid hr;have hnm:=um (n.o.g r (iW hr));have htl:=Bi ht;have hit:=sO (a.b:Int) om om;go_wp2_with fail;refine(HTX.o _ (a1.o.l a1.o.size _)).m ?_;rintro e w2 ⟨rfl,U⟩;have HB2:=hid ((a1.o.l a1.o.size _).t (U.m (aP a1.o.size sm)));have hr2:=(HR.o.c ba).c U;have HR2:=hid hr2;have p0:=nN (i:=0) (v:=I Q (a.a:Int)) (by exact bn _ _) rfl U;have p1:=nN (i:=1) (v:=I Q (a.b:Int)) (by exact bn _ _) rfl U;have HL2:H (wr.1.size<w2.1.size):=(by have:=U.size;simp at this;exact this);have p:wg sb wr.1.size T o rv a r.a w2.drew:=⟨(ck (n.o.e HB2.o).a).1 22 _ rfl,p0,p1,cz HB2.o.drew HGR.o⟩;subst hrv;go_wp2_with fail;refine fG (S:=wg sb wr.1.size T o _ a r.a) kr p (λ_=>?_);refine ar 0 28 u4 p ?_;refine ar 1 29 (Y (O ⟨sb,0,J⟩)) p ?_;refine ar 2 30 (Y (O ⟨sb,0,J⟩)) p ?_;refine ar 3 31 (Y (O ⟨sb,22,J⟩)) p ?_;refine ar 4 32 (M (O ⟨T,o,J⟩) S.a.length s) p ?_ (hy:=af ⟨by rfl,λwx hS=>by obtain⟨r0,r1,r2,r3⟩:=hS;go_simp⟩);refine ar 5 33 (Y (O ⟨wr.1.size,0,J⟩)) p ?_;refine ar 6 34 (I Q (a.a:Int)) p ?_ (hy:=af ⟨by rfl,λwx hS=>by obtain⟨r0,r1,r2,r3⟩:=hS;go_simp⟩);refine ar 7 35 (Y (O ⟨T,o+a.a*6,J⟩)) p ?_;refine ar 8 36 (Y (O ⟨T,o+a.a*6,J⟩)) p ?_;refine ar 9 37 (Z r.a) p ?_ (hy:=af ⟨by rfl,λwx hS=>by obtain⟨r0,r1,r2,r3⟩:=hS;go_simp⟩);refine ar 10 38 (Z (r.a++⟨#[32]⟩)) p ?_ (hy:=af ⟨by rfl,λwx _=>by go_simp;omega⟩);refine ar 11 39 (Y (O ⟨wr.1.size,1,J⟩)) p ?_;refine ar 12 40 (I Q (a.b:Int)) p ?_ (hy:=af ⟨by rfl,λwx hS=>by obtain⟨r0,r1,r2,r3⟩:=hS;go_simp⟩);refine ar 16 44 (Z (ae t)) p ?_;refine a9 (rs:=[13]) kr sm ?_;refine aQ rfl (λK hK=>?_) aZ;go_simp;refine(uE (a.b:Int) _ (HC.o.c HB2.o.drew).a om om).m ?_;rintro e R ⟨rfl,y⟩;have HB3:=hid (bQ HB2.o.drew y);have HR3:=hid ((HR2.o.c br.drew).c y);have HL3:=hid (bg HL2.o y.size);have D:wg sb wr.1.size T o (M (O ⟨T,o,J⟩) S.a.length s) a r.a R:=⟨cz y p.1,cz y p.2.1,cz y p.2.2.1,cz y p.2.2.2⟩;obtain⟨E,hitE⟩:∃E,Lib.itoa (a.b:Int)=E:=⟨_,rfl⟩;have HIT:=hid hitE;rw[hitE]at hit⊢;have z1:(r.a++⟨#[32]⟩).size=r.a.size+1:=(by rw[qW];rfl);have z2:(r.a++⟨#[32]⟩++ae E).size=r.a.size+1+E.length:=(by rw[qW,z1,aV]);have z3:(r.a++⟨#[32]⟩++ae E++⟨#[32]⟩).size=r.a.size+1+E.length+1:=(by rw[qW,z2];rfl);go_wp2_with fail;refine hK.out _ _ D (λ_=>?_);refine ar 14 42 (Z (r.a++⟨#[32]⟩++ae E)) D ?_ (hy:=af ⟨by rfl,λwx _=>by have k:=aV E;go_simp;omega⟩);refine ar 15 43 (Z (r.a++⟨#[32]⟩++ae E++⟨#[32]⟩)) D ?_ (hy:=af ⟨by rfl,λwx _=>by go_simp;omega⟩);refine ar 17 45 (Z (r.a++⟨#[32]⟩++ae E++⟨#[32]⟩++ae t)) D ?_ (hy:=af ⟨by rfl,λwx _=>by go_simp;omega⟩);refine a9 (rs:=[18]) kr sm ?_;refine aQ rfl (λK hK=>?_) aZ;go_simp;have HXX:H (r.a++⟨#[32]⟩++ae E++⟨#[32]⟩++ae t=ae (r.a.1.toList++[32]++E++[32]++t)):=QI r.a E t;rw[HXX.o];have HAX:H (BE S a (r.a.1.toList++[32]++E++[32]++t)):=⟨t,r,HRR.o,HTT.o,by rw[HIT.o]⟩;generalize r.a.1.toList++[32]++E++[32]++t=X at *;have HR4:H (kN w1 (R.alloc (Δ #[Z (ae X)] 9)) u4 L):=HR3.o.c ba;have a0:wg sb wr.1.size T o (M (O ⟨T,o,J⟩) S.a.length s) a r.a (R.alloc (Δ #[Z (ae X)] 9)):=by have hb:=(aj R.1.size R).l nl (Δ #[Z (ae X)] 9);exact⟨cz hb D.1,cz hb D.2.1,cz hb D.2.2.1,cz hb D.2.2.2⟩
  have HNEW:H (∀(k:Nat)(v:Value),([Z (ae X)]:List Value)[k]?=O v->(R.alloc (Δ #[Z (ae X)] 9)).cell? ((⟨R.1.size,0,J⟩:Addr).add k)=O v):=λk v hk=>by
   match k,hk with
  |0,hk=>simp at hk;subst hk;simp[Addr.add]
  have P:L.length=j:=(by rw[HX.o.b,fj];omega);have HOW:H ((R.alloc (Δ #[Z (ae X)] 9)).ownsRow w1.1.size 9 1 u4 j (L.map fX)):=(by rw[<-P];exact HR4.o.b);have HKV:H (∀V,(R.alloc (Δ #[Z (ae X)] 9)).grownBy V u4.ownBlock->wg sb wr.1.size T o (M (O ⟨T,o,J⟩) S.a.length s) a r.a V):=λV hg=>(by have hk:∀b i v,u4.ownBlock≠O b->(R.alloc (Δ #[Z (ae X)] 9)).cell? ⟨b,i,J⟩=O v->V.cell? ⟨b,i,J⟩=O v:=λb i v hb hc=>(by have hlt:b<(R.alloc (Δ #[Z (ae X)] 9)).1.size:=rJ _ _ hc;rw[bW (hg.block b hlt (λe=>hb e.symm))];exact hc);have hlow:∀b,b<w1.1.size->u4.ownBlock≠O b:=λb hb e=>(by have:=(bG HOW.o b e).1;omega);have h1:=bg n.o.h C.o.size;have h2:=bg (rJ _ _ HGR.o) C.o.size;have h3:u4.ownBlock≠O wr.1.size:=λe=>(by have:=aU HR.o.b e;omega);exact⟨hk _ _ _ (hlow sb h1) a0.1,hk _ _ _ h3 a0.2.1,hk _ _ _ h3 a0.2.2.1,hk _ _ _ (hlow T h2) a0.2.2.2⟩);have HML:H (j+1<=maxLen):=(by show _<=_;unfold maxLen;omega);have HBY:H ((j+1)*16<=140737488355328):=(by show _<=_;omega);have HBS:=hid HR4.o.a.size;refine hK.out _ _ a0 (λ_=>?_);refine a9 (rs:=[19]) kr sm ?_;refine aQ rfl (λK hK=>?_) aZ;refine iX _ (by rfl) (.tmp 28) (.tmp 46) 22 (by rfl) w1.1.size 9 i9 (Z ⟨#[]⟩) 1 16 underlying22 hi9 hz9 hs9 hb9 rfl om u4 j (L.map fX) (by rfl) HOW.o ⟨R.1.size,0,J⟩ 1 1 [Z (ae X)] (by rfl) rfl HNEW.o (λu hu=>by simp at hu;subst hu;rfl) om HML.o HBY.o HBS.o _ rfl ?_;intro g4 cap4 V4 hown4 G hat4 hlt4;have hS3:=HKV.o V4 G;have HR5:=hid (HR4.o.f (by rw[show L.length=j by rw[HX.o.b,fj];omega];exact hown4) G);have HX5:=hid (HX.o.e HAA.o HAX.o);refine hK.out _ _ hS3 (λ_=>?_);change wpAnyH _ _ _ _ _ _ _ (Act.put _ (O 47) _) _;simp only[Act.put,az,aA,cM];refine ar 20 4 (M (O ⟨g4,0,J⟩) (j+1) cap4) hS3 ?_;refine ea kr ?_ _;go_wp2;go_roundw
  case rel=>exact⟨j+1,L++[X],om,by go_num,HR5.o,HX5.o⟩
  simp[intOf];omega
 have hI:¬(j:Int)<A.length:=om;have e5:j=A.length:=om;subst e5;have HX6:H (pH S A L):=(by have:=HX.o;rw[eL]at this;exact this);have P:=HX6.o.b
 obtain⟨q5,c5,rfl⟩:∃q c,u4=M q A.length c:=by
  rcases HR.o.b.2 with ⟨h0,h1⟩|⟨g',s,cur,h1,_⟩
  ·exact⟨J,0,by rw[h0,<-P,h1]⟩
  exact⟨_,_,by rw[h1,P]⟩
 by_cases h0:A=[]
 ·have h1:((A.length:Int) == 0)=true:=(by simp[h0]);have HAN:=hid h0;go_wp2;go_ret2;exact⟨[45],rfl,af ⟨(by first|exact HAN.o|rfl),rfl⟩,C.o.t (HR.o.a.m C.o.size)⟩
 have h1:((A.length:Int) == 0)=false:=by simp[h0]
 obtain⟨g5,rfl⟩:∃g,q5=O ⟨g,0,J⟩:=by
  rcases HR.o.b.2 with ⟨_,h2⟩|⟨g',s,cur,h2,_⟩
  ·exact absurd (iG.1 (P.symm.trans h2)) h0
  injection h2 with h2;exact⟨_,h2⟩
 have HAN:=hid h0;have HJ:H (Φ prog 113 #[M (O ⟨g5,0,J⟩) A.length c5,Z ⟨#[44,32]⟩] wr λe w'=>e=N (Z (ae (Lib.join L [44,32])))/\B wr.1.size wr w'):=(by refine HR.o.d ⟨#[44,32]⟩ (aP (xL (k:=70) L [44,32] (HX6.o.d n.o.g (λa ha=>(HAF.o a ha).1))) ?_) om;rw[P];show A.length*72<=_;omega);go_wp2_with (go_at_call 113;refine HJ.o.m ?_;rintro e R ⟨rfl,y⟩);go_ret2;exact⟨_,rfl,ah ⟨HAN.o,L,HX6.o,rfl⟩,bQ (C.o.t (HR.o.a.m C.o.size)) y⟩
end
end
section
open Go.RowKit Go.Maps
def jF(s:ay):Prop:=∀r,-1<=s.q r/\s.q r<=255
theorem O7:jF ay.k:=λ_=>⟨Int.le_refl (-1),(by decide:(-1:Int)<=255)⟩
theorem DQ(c:aE)(r:Nat):∀(l:List bf)(s:ay),(∀f,f∈l->eC f)->jF s->jF (l.foldl (ay.i c r) s)
 |[],_,_,h=>h
 |f::l,s,hl,h=>by
  rw[ka];refine DQ c r l _ (λg b=>hl g (by simp[b])) ?_;unfold ay.i jF;rw[(rX c r f.a _).2.2.2];unfold ay.s;split
  ·intro i;have:=(hl f sm).e;show -1<=fT s.q r f.c i/\fT s.q r f.c i<=255;unfold fT;split
   ·omega
   exact h i
  exact h
theorem Gl{c:aE}{r:Int}{b:ByteArray}{s:ay}(h:jF s):jF (d9 c r b s):=by
 unfold d9;split
 ·exact DQ c _ _ _ (λf a=>xu _ f a) h
 exact h
theorem R6{n:Int}{s:ay}(h:jF s):jF (ic n s):=by
 unfold ic;split
 ·exact h
 exact h
def gj(r:Int)(s:ay):Int×Nat:=if 0<=r/\r<=3 then (s.q r.toNat,0) else (0,1)
def pD(S:bY)(W:fP)(c:cj)(t:List UInt8)(n:Nat)(s':ay):Prop:=
 (c.b=nC/\((¬js c.a/\t=[]/\n=4/\s'=W.a)\/(js c.a/\t=fM (bS (c.n 0) (ae (fS c.a)) W.a).1 (bS (c.n 0) (ae (fS c.a)) W.a).2/\n=(bS (c.n 0) (ae (fS c.a)) W.a).2/\s'=d9 W.b (c.n 0) (ae (fS c.a)) W.a))) \/
 (c.b=mt/\((jQ (ae c.a)/\t=[]/\n=4/\s'=W.a)\/∃b,gA (ae c.a) b/\s9 c W b t n s')) \/
 (c.b=mP/\t=fM (du W.b (c.n 0) W.a).1 (du W.b (c.n 0) W.a).2/\n=(du W.b (c.n 0) W.a).2/\s'=ic (c.n 0) W.a) \/
 (s'=W.a/\(
 (c.b=ml/\((jQ (ae c.a)/\t=[]/\n=4)\/∃b,gA (ae c.a) b/\yk (fW W b (c.n 0)) t n)) \/
 (c.b=nL/\((jQ (ae c.a)/\t=[]/\n=4)\/∃b q,gA (ae c.a) b/\mC W.b W.a (W.a.c W.b) b (c.n 0) q/\BC (fW W b (c.n 0)).2 q t n)) \/
 (c.b=ot/\t=fM (gj (c.n 0) W.a).1 (gj (c.n 0) W.a).2/\n=(gj (c.n 0) W.a).2) \/
 (c.b=nB/\n=0/\BD S (bM W.b W.d W.a (W.a.c W.b)) t) \/
 (c.b=mj/\n=0/\t=mZ W.a)))
def ou(n:List UInt8):Prop:=n=nC\/n=mt\/n=mP\/n=ml\/n=nL\/n=ot\/n=nB\/n=mj
theorem AQ(s:ByteArray):jQ s\/∃b,gA s b:=by
 rcases CR s with ⟨K,F,P,C,R,S,h1,h2,_⟩|⟨h1,_⟩
 ·exact ah ⟨_,⟨K,F,P,C,R,S,h1,h2,rfl⟩⟩
 exact af h1
section
variable {w w' V:Ω}{sb wb:Nat}{F:Nat->Prop}{S:bY}{W:fP}{rv:Value}{oa oa':Nat->Nat}{s':ay}
def ij(w:Ω)(sb:Nat)(F:Nat->Prop)(S:bY)(W:fP)(c:cj)(e:Ending)(w':Ω):Prop:=∃t n s',e=N (Ψ #[Z (ae t),bB n])/\pD S W c t n s'/\pJ w sb F S W s' w'
theorem pJ.d(h:pJ V sb F S W s' w')(e:B w.1.size w V):pJ w sb F S W s' w':=⟨h.c,(bH e F).a h.b⟩
theorem GV(c:aE)(n:Int)(s:ay)(a:s.b<=1000): 0<=(du c n s).1/\(du c n s).1<=1000000:=by
 unfold du;split
 ·have:(ay.h s n.toNat).c c<=(ay.h s n.toNat).b:=kU;have e:(ay.h s n.toNat).b=s.b+n.toNat:=rfl;dsimp only;omega
 exact⟨Int.le_refl _,dc⟩
theorem R5{r:Int}{s:ay}(h:jF s): -1<=(gj r s).1/\(gj r s).1<=255:=by
 unfold gj;split
 ·exact h _
 exact⟨dc,dc⟩
theorem Ta(r:Int){d:Nat->Nat}{c:aE}{rs:List aq}{s:ay}(h:jy V wb d c rs s):
  Φ prog 76 #[Y (O ⟨wb,0,J⟩),I Q r] V λe f=>e=N (Ψ #[I Q (gj r s).1,bB (gj r s).2])/\f=V:=by
 unfold gj;by_cases b:0<=r/\r<=3
 ·rw[ak b];have:=P8 r.toNat h.a om;rw[show ((r.toNat:Nat):Int)=r by omega]at this;exact this
 rw[ag b];exact NW r (by simp[iS];omega)
theorem SY(c:cj)(h:eu w sb F S W rv wb oa)(l:cQ w F)(j:c.a.length<=400)(o:W.a.d+200<=20000)(k:c.b=nC):
  Φ prog 70 #[Y (O ⟨sb,0,J⟩),.agg (aY c.b c.c c.a)] w (ij w sb F S W c):=by
 by_cases g:js c.a
 ·exact(O3 c h l g j o).m λe n ⟨i,p⟩=>⟨_,_,_,i,af ⟨k,ah ⟨g,rfl,rfl,rfl⟩⟩,p⟩
 exact(O1 c w g j).m λe n ⟨i,q⟩=>⟨[],4,W.a,i,af ⟨k,af ⟨g,rfl,rfl,rfl⟩⟩,h.f q⟩
theorem SZ(c:cj)(h:eu w sb F S W rv wb oa)(j:cQ w F)(i:c.a.length<=400)(o:W.a.d+200<=20000)(k:c.b=mt):
  Φ prog 71 #[Y (O ⟨sb,0,J⟩),.agg (aY c.b c.c c.a)] w (ij w sb F S W c):=by
 rcases AQ (ae c.a) with hx|⟨b,hx⟩
 ·exact(O4 c w j.d hx i).m λe l ⟨g,s⟩=>⟨[],4,W.a,g,ah (af ⟨k,af ⟨hx,rfl,rfl,rfl⟩⟩),h.f s⟩
 exact(O5 c h j hx i o).m λe l ⟨t,n,q,g,r,p⟩=>⟨t,n,q,g,ah (af ⟨k,ah ⟨b,hx,r⟩⟩),p⟩
theorem R4(c:cj)(h:eu w sb F S W rv wb oa)(k:cQ w F)(j:c.a.length<=400)(l:c.b=ml):
  Φ prog 74 #[Y (O ⟨sb,0,J⟩),.agg (aY c.b c.c c.a)] w (ij w sb F S W c):=by
 rcases AQ (ae c.a) with hx|⟨b,hx⟩
 ·exact(My c w k.d hx j).m λe o ⟨g,i⟩=>⟨[],4,W.a,g,ah (ah (ah ⟨rfl,af ⟨l,af ⟨hx,rfl,rfl⟩⟩⟩)),h.f i⟩
 exact(Mz c h k hx j).m λe o ⟨t,n,g,p,i⟩=>⟨t,n,W.a,g,ah (ah (ah ⟨rfl,af ⟨l,ah ⟨b,hx,p⟩⟩⟩)),h.f i⟩
theorem Ua(c:cj)(h:eu w sb F S W rv wb oa)(k:cQ w F)(j:c.a.length<=400)(l:c.b=nL):
  Φ prog 75 #[Y (O ⟨sb,0,J⟩),.agg (aY c.b c.c c.a)] w (ij w sb F S W c):=by
 rcases AQ (ae c.a) with hx|⟨b,hx⟩
 ·exact(RZ c w k.d hx j).m λe p ⟨g,i⟩=>⟨[],4,W.a,g,ah (ah (ah ⟨rfl,ah (af ⟨l,af ⟨hx,rfl,rfl⟩⟩)⟩)),h.f i⟩
 obtain⟨q,o⟩:=SK h.d.a b (c.n 0);exact(R0 c h k hx j o).m λe p ⟨t,n,g,r,i⟩=>⟨t,n,W.a,g,ah (ah (ah ⟨rfl,ah (af ⟨l,ah ⟨b,q,hx,o,r⟩⟩)⟩)),h.f i⟩
theorem QJ(c:cj)(h:eu w sb F S W rv wb oa)(g:cQ w F)(i:c.b=nB):
  Φ prog 77 #[Y (O ⟨sb,0,J⟩)] w (ij w sb F S W c):=
 (MA h g).m λe l ⟨t,d,j,k⟩=>⟨t,0,W.a,d,ah (ah (ah ⟨rfl,ah (ah (ah (af ⟨i,rfl,j⟩)))⟩)),h.f k⟩
theorem R3(c:cj)(h:eu w sb F S W rv wb oa)(g:cQ w F)(n:W.a.d+200<=20000)(j:c.b=mj):
  Φ prog 78 #[Y (O ⟨sb,0,J⟩)] w (ij w sb F S W c):=
 (O6 h g om).m λe l ⟨i,k⟩=>⟨mZ W.a,0,W.a,i,ah (ah (ah ⟨rfl,ah (ah (ah (ah ⟨j,rfl,rfl⟩)))⟩)),h.f k⟩
theorem ij.a{c:cj}{e:Ending}(h:ij V sb F S W c e w')(j:B w.1.size w V):ij w sb F S W c e w':=by obtain⟨t,n,g,f,i,b⟩:=h;exact⟨t,n,g,f,i,b.d j⟩
end
end
section
open Go.RowKit Go.Maps
section
variable {w w' V:Ω}{sb wb:Nat}{F:Nat->Prop}{S:bY}{W:fP}{rv:Value}{oa oa':Nat->Nat}{s':ay}
theorem O8(c:cj)(h:eu w sb F S W rv wb oa)(l:cQ w F)(j:c.a.length<=400)(p:W.a.d+200<=20000)(g:c.b=nC):
  Φ prog 47 #[Y (O ⟨sb,0,J⟩),.agg (aY c.b c.c c.a)] w (ij w sb F S W c):=by
 have f:H (∀V,B w.1.size w V->Φ prog 70 #[Y (O ⟨sb,0,J⟩),.agg (aY c.b c.c c.a)] V (ij w sb F S W c)):=λV i=>(SY c (h.a i) (l.c i) j p g).m λ_ _ k=>k.a i;rw[g,show nC=[102,101,101,100] from rfl]at f⊢;unfold aY ae at f⊢;clear h l j p g;go_enter func47,ntmps47;go_wp2_with (go_at_call 70;refine(f.o _ ba).m ?_;rintro e s ⟨t,n,q,rfl,r⟩);go_ret2;exact⟨t,n,q,rfl,r⟩
theorem O9(c:cj)(h:eu w sb F S W rv wb oa)(l:cQ w F)(j:c.a.length<=400)(p:W.a.d+200<=20000)(g:c.b=mt):
  Φ prog 47 #[Y (O ⟨sb,0,J⟩),.agg (aY c.b c.c c.a)] w (ij w sb F S W c):=by
 have f:H (∀V,B w.1.size w V->Φ prog 71 #[Y (O ⟨sb,0,J⟩),.agg (aY c.b c.c c.a)] V (ij w sb F S W c)):=λV i=>(SZ c (h.a i) (l.c i) j p g).m λ_ _ k=>k.a i;rw[g,show mt=[114,101,97,100] from rfl]at f⊢;unfold aY ae at f⊢;clear h l j p g;go_enter func47,ntmps47;go_wp2_with (go_at_call 71;refine(f.o _ ba).m ?_;rintro e s ⟨t,n,q,rfl,r⟩);go_ret2;exact⟨t,n,q,rfl,r⟩
theorem MD(c:cj)(h:eu w sb F S W rv wb oa)(j:cQ w F)(i:c.a.length<=400)(f:c.b=ml):
  Φ prog 47 #[Y (O ⟨sb,0,J⟩),.agg (aY c.b c.c c.a)] w (ij w sb F S W c):=by
 have d:H (∀V,B w.1.size w V->Φ prog 74 #[Y (O ⟨sb,0,J⟩),.agg (aY c.b c.c c.a)] V (ij w sb F S W c)):=λV g=>(R4 c (h.a g) (j.c g) i f).m λ_ _ k=>k.a g;rw[f,show ml=[119,104,101,114,101] from rfl]at d⊢;unfold aY ae at d⊢;clear h j i f;go_enter func47,ntmps47;go_wp2_with (go_at_call 74;refine(d.o _ ba).m ?_;rintro e q ⟨t,n,l,rfl,p⟩);go_ret2;exact⟨t,n,l,rfl,p⟩
theorem R7(c:cj)(h:eu w sb F S W rv wb oa)(j:cQ w F)(i:c.a.length<=400)(f:c.b=nL):
  Φ prog 47 #[Y (O ⟨sb,0,J⟩),.agg (aY c.b c.c c.a)] w (ij w sb F S W c):=by
 have d:H (∀V,B w.1.size w V->Φ prog 75 #[Y (O ⟨sb,0,J⟩),.agg (aY c.b c.c c.a)] V (ij w sb F S W c)):=λV g=>(Ua c (h.a g) (j.c g) i f).m λ_ _ k=>k.a g;rw[f,show nL=[105,110] from rfl]at d⊢;unfold aY ae at d⊢;clear h j i f;go_enter func47,ntmps47;go_wp2_with (go_at_call 75;refine(d.o _ ba).m ?_;rintro e q ⟨t,n,l,rfl,p⟩);go_ret2;exact⟨t,n,l,rfl,p⟩
theorem KE(c:cj)(h:eu w sb F S W rv wb oa)(i:cQ w F)(f:c.b=nB):
  Φ prog 47 #[Y (O ⟨sb,0,J⟩),.agg (aY c.b c.c c.a)] w (ij w sb F S W c):=by
 have d:H (∀V,B w.1.size w V->Φ prog 77 #[Y (O ⟨sb,0,J⟩)] V (ij w sb F S W c)):=λV g=>(QJ c (h.a g) (i.c g) f).m λ_ _ k=>k.a g;rw[f,show nB=[97,108,101,114,116,115] from rfl];unfold aY ae;clear h i f;go_enter func47,ntmps47;go_wp2_with (go_at_call 77;refine(d.o _ ba).m ?_;rintro e p ⟨t,n,j,rfl,l⟩);go_ret2;exact⟨t,n,j,rfl,l⟩
theorem MC(c:cj)(h:eu w sb F S W rv wb oa)(j:cQ w F)(l:W.a.d+200<=20000)(g:c.b=mj):
  Φ prog 47 #[Y (O ⟨sb,0,J⟩),.agg (aY c.b c.c c.a)] w (ij w sb F S W c):=by
 have f:H (∀V,B w.1.size w V->Φ prog 78 #[Y (O ⟨sb,0,J⟩)] V (ij w sb F S W c)):=λV i=>(R3 c (h.a i) (j.c i) l g).m λ_ _ k=>k.a i;rw[g,show mj=[100,114,111,112,115] from rfl];unfold aY ae;clear h j l g;go_enter func47,ntmps47;go_wp2_with (go_at_call 78;refine(f.o _ ba).m ?_;rintro e r ⟨t,n,p,rfl,q⟩);go_ret2;exact⟨t,n,p,rfl,q⟩
theorem Pc(h:eu w sb F S W rv wb oa)(e:jF W.a)(n:Int): 0<=(du W.b n W.a).1/\(du W.b n W.a).1<=1000000:=by obtain⟨p,c⟩:=h.d.a.a;exact GV _ _ _ c.h
theorem Pd(h:eu w sb F S W rv wb oa)(b:jF W.a)(n:Int): -1<=(gj n W.a).1/\(gj n W.a).1<=255:=R5 b
theorem Pa(c:cj)(h:eu w sb F S W rv wb oa)(G:cQ w F)(hw:jF W.a)(hn:c.b=mP):
  Φ prog 47 #[Y (O ⟨sb,0,J⟩),.agg (aY c.b c.c c.a)] w (ij w sb F S W c):=by
 obtain⟨A,v⟩:∃A,A=ic (c.n 0) W.a:=⟨_,rfl⟩;have HA:H (pD S W c (fM (du W.b (c.n 0) W.a).1 (du W.b (c.n 0) W.a).2) (du W.b (c.n 0) W.a).2 A):=ah (ah (af ⟨hn,rfl,rfl,v⟩));have P:H (∀V,B w.1.size w V->Φ prog 73 #[Y (O ⟨wb,0,J⟩),I Q (c.n 0)] V λe C=>e=N (Ψ #[I Q (du W.b (c.n 0) W.a).1,bB (du W.b (c.n 0) W.a).2])/\∃t,jy C wb t W.b W.d A/\cD V C oa t):=λV L=>by rw[v];exact SV _ (h.a L).d (G.c L).d.a (h.k G)
 have R:H (∀V,cQ V F->Φ prog 72 #[I Q (du W.b (c.n 0) W.a).1,bB (du W.b (c.n 0) W.a).2] V λe C=>e=N (Ψ #[Z (ae (fM (du W.b (c.n 0) W.a).1 (du W.b (c.n 0) W.a).2)),bB (du W.b (c.n 0) W.a).2])/\B V.1.size V C):=λV L=>by have hb:=Pc h hw (c.n 0);exact wM _ _ V L.a om om
 have a0:H (∀o,B w.1.size w (w.alloc o)):=λo=>br.l nl o;have f:H (eu w sb F S W rv wb oa):=h;have HC:H (cQ w F):=G;generalize (du W.b (c.n 0) W.a).1=m at *;generalize (du W.b (c.n 0) W.a).2=n at *;generalize hT:fM m n=T at *;generalize hE:bB n=E at *;have HEn:H (bB n=E):=hE;unfold ij;generalize pD S W c=RR at *;rw[hn];unfold cj.n at *;unfold aY;generalize c.c.getD 0 0=n0 at *;generalize c.c.getD 1 0=n1 at *;generalize c.c.getD 2 0=n2 at *;generalize c.c.getD 3 0=n3 at *;generalize c.c.getD 4 0=n4 at *;generalize c.c.getD 5 0=n5 at *;rw[show ae mP=⟨#[116,105,99,107]⟩ from rfl];clear h G hw hn hE hT v;go_enter func47,ntmps47;go_wp2_with fail;obtain⟨u,X,c0,D,HL⟩:∃u,H (w.alloc (Δ #[Z ⟨#[116,105,99,107]⟩,I Q n0,I Q n1,I Q n2,I Q n3,I Q n4,I Q n5,Z (ae c.a)] 112)=u)/\u.cell? ⟨w.1.size,1,J⟩=O (I Q n0)/\H (B w.1.size w u)/\H (w.1.size<u.1.size):=⟨_,rfl,(ck (bn w _)).1 1 _ rfl,a0.o _,by show _<_;simp⟩;rw[X.o];have g:u.drew.cell? ⟨sb,23,J⟩=O (Y (O ⟨wb,0,J⟩))/\u.drew.cell? ⟨w.1.size,1,J⟩=O (I Q n0):=⟨(f.o.a D.o).e,c0⟩;refine fG (S:=λU=>U.cell? ⟨sb,23,J⟩=O (Y (O ⟨wb,0,J⟩))/\U.cell? ⟨w.1.size,1,J⟩=O (I Q n0)) kr g (λ_=>?_);refine ar 0 28 (Y (O ⟨sb,0,J⟩)) g ?_;refine ar 1 29 (Y (O ⟨sb,0,J⟩)) g ?_;refine ar 2 30 (Y (O ⟨sb,23,J⟩)) g ?_;refine ar 3 31 (Y (O ⟨wb,0,J⟩)) g ?_ (hy:=af ⟨by rfl,λwx z=>by (try dsimp only at z);obtain⟨r0,r1⟩:=z;go_simp⟩);refine ar 4 32 (Y (O ⟨w.1.size,1,J⟩)) g ?_;refine ar 5 33 (Y (O ⟨w.1.size,1,J⟩)) g ?_;refine ar 6 34 (I Q n0) g ?_ (hy:=af ⟨by rfl,λwx z=>by (try dsimp only at z);obtain⟨r0,r1⟩:=z;go_simp⟩);refine a9 (rs:=[7]) kr sm ?_;refine aQ rfl (λK x=>?_) aZ;go_simp;refine(P.o _ D.o.drew).m ?_;rintro e w2 ⟨rfl,t,s,hp⟩;obtain⟨d0,d1,y⟩:=f.o.i D.o.drew HC.o s hp;have HT:H _:=f.o.j D.o.drew HC.o s hp;have p:w2.cell? ⟨sb,23,J⟩=O (Y (O ⟨wb,0,J⟩))/\w2.cell? ⟨w.1.size,1,J⟩=O (I Q n0):=⟨d0,(d1 _ 1 nl HL.o).trans c0⟩;clear d0 d1 s hp;go_wp2_with fail;refine x.out _ _ p (λ_=>?_);clear x K;refine ar 8 36 (I Q m) p ?_;refine ar 9 37 E p ?_;refine a9 (rs:=[10]) kr sm ?_;refine aQ rfl (λK x=>?_) aZ;go_simp;refine(R.o _ y).m ?_;rintro e w3 ⟨rfl,r⟩;have HF:H _:=HT.o.a r;have q:w3.cell? ⟨sb,23,J⟩=O (Y (O ⟨wb,0,J⟩))/\w3.cell? ⟨w.1.size,1,J⟩=O (I Q n0):=⟨cz r p.1,cz r p.2⟩;clear r y;go_wp2_with fail;refine x.out _ _ q (λ_=>?_);clear x K;refine ar 11 39 (Z (ae T)) q ?_;refine ar 12 40 E q ?_;refine ar 13 4 (Z (ae T)) q ?_;refine ar 14 5 E q ?_;refine ea kr ?_ _;clear g p q;go_wp2;go_ret2;exact⟨T,n,A,by rw[HEn.o];rfl,HA.o,HF.o⟩
theorem Pb(c:cj)(h:eu w sb F S W rv wb oa)(hc:cQ w F)(x:jF W.a)(hn:c.b=ot):
  Φ prog 47 #[Y (O ⟨sb,0,J⟩),.agg (aY c.b c.c c.a)] w (ij w sb F S W c):=by
 obtain⟨D,v⟩:∃D,D=W.a:=⟨_,rfl⟩;have HA:H (pD S W c (fM (gj (c.n 0) W.a).1 (gj (c.n 0) W.a).2) (gj (c.n 0) W.a).2 D):=ah (ah (ah ⟨v,ah (ah (af ⟨hn,rfl,rfl⟩))⟩));have P:H (∀V,B w.1.size w V->Φ prog 76 #[Y (O ⟨wb,0,J⟩),I Q (c.n 0)] V λe z=>e=N (Ψ #[I Q (gj (c.n 0) W.a).1,bB (gj (c.n 0) W.a).2])/\∃t,jy z wb t W.b W.d D/\cD V z oa t):=λV L=>by rw[v];exact(Ta _ (h.a L).d).m λe z ⟨he,x⟩=>⟨he,oa,by rw[x];exact(h.a L).d,by rw[x];exact cD.f _ _⟩
 have R:H (∀V,cQ V F->Φ prog 72 #[I Q (gj (c.n 0) W.a).1,bB (gj (c.n 0) W.a).2] V λe z=>e=N (Ψ #[Z (ae (fM (gj (c.n 0) W.a).1 (gj (c.n 0) W.a).2)),bB (gj (c.n 0) W.a).2])/\B V.1.size V z):=λV L=>by have hb:=Pd h x (c.n 0);exact wM _ _ V L.a om om
 have a0:H (∀o,B w.1.size w (w.alloc o)):=λo=>br.l nl o;have g:H (eu w sb F S W rv wb oa):=h;have HC:H (cQ w F):=hc;generalize (gj (c.n 0) W.a).1=m at *;generalize (gj (c.n 0) W.a).2=n at *;generalize hT:fM m n=T at *;generalize hE:bB n=E at *;have HEn:H (bB n=E):=hE;unfold ij;generalize pD S W c=RR at *;rw[hn];unfold cj.n at *;unfold aY;generalize c.c.getD 0 0=n0 at *;generalize c.c.getD 1 0=n1 at *;generalize c.c.getD 2 0=n2 at *;generalize c.c.getD 3 0=n3 at *;generalize c.c.getD 4 0=n4 at *;generalize c.c.getD 5 0=n5 at *;rw[show ae ot=⟨#[119,97,114,109]⟩ from rfl];clear h hc x hn hE hT v;go_enter func47,ntmps47;go_wp2_with fail;obtain⟨u,X,c0,G,HL⟩:∃u,H (w.alloc (Δ #[Z ⟨#[119,97,114,109]⟩,I Q n0,I Q n1,I Q n2,I Q n3,I Q n4,I Q n5,Z (ae c.a)] 112)=u)/\u.cell? ⟨w.1.size,1,J⟩=O (I Q n0)/\H (B w.1.size w u)/\H (w.1.size<u.1.size):=⟨_,rfl,(ck (bn w _)).1 1 _ rfl,a0.o _,by show _<_;simp⟩;rw[X.o];have k:u.drew.cell? ⟨sb,23,J⟩=O (Y (O ⟨wb,0,J⟩))/\u.drew.cell? ⟨w.1.size,1,J⟩=O (I Q n0):=⟨(g.o.a G.o).e,c0⟩;refine fG (S:=λU=>U.cell? ⟨sb,23,J⟩=O (Y (O ⟨wb,0,J⟩))/\U.cell? ⟨w.1.size,1,J⟩=O (I Q n0)) kr k (λ_=>?_);refine ar 0 57 (Y (O ⟨sb,0,J⟩)) k ?_;refine ar 1 58 (Y (O ⟨sb,0,J⟩)) k ?_;refine ar 2 59 (Y (O ⟨sb,23,J⟩)) k ?_;refine ar 3 60 (Y (O ⟨wb,0,J⟩)) k ?_ (hy:=af ⟨by rfl,λwx C=>by (try dsimp only at C);obtain⟨r0,r1⟩:=C;go_simp⟩);refine ar 4 61 (Y (O ⟨w.1.size,1,J⟩)) k ?_;refine ar 5 62 (Y (O ⟨w.1.size,1,J⟩)) k ?_;refine ar 6 63 (I Q n0) k ?_ (hy:=af ⟨by rfl,λwx C=>by (try dsimp only at C);obtain⟨r0,r1⟩:=C;go_simp⟩);refine a9 (rs:=[7]) kr sm ?_;refine aQ rfl (λK y=>?_) aZ;go_simp;refine(P.o _ G.o.drew).m ?_;rintro e w2 ⟨rfl,t,s,hp⟩;obtain⟨d0,d1,A⟩:=g.o.i G.o.drew HC.o s hp;have HT:H _:=g.o.j G.o.drew HC.o s hp;have p:w2.cell? ⟨sb,23,J⟩=O (Y (O ⟨wb,0,J⟩))/\w2.cell? ⟨w.1.size,1,J⟩=O (I Q n0):=⟨d0,(d1 _ 1 nl HL.o).trans c0⟩;clear d0 d1 s hp;go_wp2_with fail;refine y.out _ _ p (λ_=>?_);clear y K;refine ar 8 65 (I Q m) p ?_;refine ar 9 66 E p ?_;refine a9 (rs:=[10]) kr sm ?_;refine aQ rfl (λK y=>?_) aZ;go_simp;refine(R.o _ A).m ?_;rintro e w3 ⟨rfl,r⟩;have HF:H _:=HT.o.a r;have q:w3.cell? ⟨sb,23,J⟩=O (Y (O ⟨wb,0,J⟩))/\w3.cell? ⟨w.1.size,1,J⟩=O (I Q n0):=⟨cz r p.1,cz r p.2⟩;clear r A;go_wp2_with fail;refine y.out _ _ q (λ_=>?_);clear y K;refine ar 11 68 (Z (ae T)) q ?_;refine ar 12 69 E q ?_;refine ar 13 4 (Z (ae T)) q ?_;refine ar 14 5 E q ?_;refine ea kr ?_ _;clear k p q;go_wp2;go_ret2;exact⟨T,n,D,by rw[HEn.o];rfl,HA.o,HF.o⟩
theorem QK(c:cj)(h:fU w sb F S)(l:S.c=O W)(e:cQ w F)(f:c.a.length<=400)(g:W.a.d+200<=20000)(i:jF W.a)(j:ou c.b):
  Φ prog 47 #[Y (O ⟨sb,0,J⟩),.agg (aY c.b c.c c.a)] w (ij w sb F S W c):=by
 obtain⟨o,n,m,h⟩:=h.c l;rcases j with k|k|k|k|k|k|k|k
 ·exact O8 c h e f g k
 ·exact O9 c h e f g k
 ·exact Pa c h e i k
 ·exact MD c h e f k
 ·exact R7 c h e f k
 ·exact Pb c h e i k
 ·exact KE c h e k
 exact MC c h e g k
end
end
section
open Go.RowKit Go.Maps
def qL(S:bY)(c:cj)(S':bY)(t:List UInt8)(n:Nat):Prop:=
 (c.b=kB/\S' = { S with b:=⟨c.n 0,c.n 1,c.n 2,c.n 3,c.n 4,c.n 5,S.b.a⟩ }/\t=iy/\n=0) \/
 (c.b=kG/\((¬pC c/\S'=S/\t=[]/\n=1)\/(pC c/\S' = { S with b:={ S.b with a:=qJ S.b.a (c.n 0).toNat (c.n 1).toNat (c.n 2) } }/\t=iy/\n=0))) \/
 (c.b=gW/\(((¬∃u,bT (ae c.a) u)/\S'=S/\t=[]/\n=4)\/∃u,bT (ae c.a) u/\S' = { S with a:=S.a++[u] }/\t=iy/\n=0)) \/
 (c.b=ku/\((pI S.b S.a n/\n≠0/\S'=S/\t=[])\/∃cf:aE,cf.h/\jt cf=S.b/\lz S.a 0/\S' = { S with c:=O ⟨cf,S.a,ay.k⟩ }/\t=iy/\n=0)) \/
 (ou c.b/\((S.c=J/\S'=S/\t=[]/\n=5)\/∃W s',S.c=O W/\pD S W c t n s'/\S' = { S with c:=O ⟨W.b,W.d,s'⟩ }))
def oL(S:bY)(l:List UInt8)(S':bY)(t:List UInt8)(n:Nat):Prop:=(eO l=J/\S'=S/\t=[]/\n=4)\/∃c,eO l=O c/\qL S c S' t n
def eX(t:List UInt8)(n:Nat):List UInt8:=if n=0 then t else iE n
structure lQ (S:bY) (k:Nat):Prop where
 b:∀W,S.c=O W->W.a.d<=200*k/\jF W.a
 a:S.a.length<=k
 c:∀a,a∈S.a->a.h
theorem ur(c:UInt8):∀(l x:List UInt8),x∈et c l->x.length<=l.length
 |[],x,h=>by simp[et]at h;simp[h]
 |a::r,x,h=>by
  unfold et at h;split at h
  ·rcases jN.1 h with rfl|h
   ·simp
   have:=ur c r x h;simp;omega
  obtain⟨y,t,e⟩:=pu c r;rw[e]at h;simp only[pE]at h;rcases jN.1 h with rfl|h
  ·have:=ur c r y (by rw[e];simp);simp;omega
  have:=ur c r x (by rw[e];simp[h]);simp;omega
theorem Bj{n:List UInt8}{p:Nat×Nat}(h:eS n=O p):n=kB\/n=kG\/n=gW\/n=ku\/ou n:=by
 unfold ou;by_cases f:n=kB
 ·exact af f
 by_cases g:n=kG
 ·exact ah (af g)
 by_cases a:n=ku
 ·exact ah (ah (ah (af a)))
 refine ah (ah (ah (ah ?_)));unfold eS at h;rw[ag f,ag g,ag a]at h;by_cases i:n=nC
 ·exact af i
 by_cases k:n=mt
 ·exact ah (af k)
 by_cases j:n=mP
 ·exact ah (ah (af j))
 by_cases c:n=ml
 ·exact ah (ah (ah (af c)))
 by_cases l:n=nL
 ·exact ah (ah (ah (ah (af l))))
 by_cases b:n=ot
 ·exact ah (ah (ah (ah (ah (af b)))))
 by_cases d:n=nB
 ·exact ah (ah (ah (ah (ah (ah (af d))))))
 by_cases e:n=mj
 ·exact ah (ah (ah (ah (ah (ah (ah e))))))
 rw[ag i,ag k,ag j,ag c,ag l,ag b,ag d,ag e]at h;cases h
theorem DR{l:List UInt8}{c:cj}(h:eO l=O c):c.a.length<=300/\(c.b=kB\/c.b=kG\/c.b=gW\/c.b=ku\/ou c.b):=by
 unfold eO at h;split at h
 ·cases h
 rename_i hl;split at h
 ·cases h;exact⟨by simp;omega,ah (ah (af rfl))⟩
 unfold jf at h;split at h
 ·cases h
 rename_i n ws hw;split at h
 ·cases h
 rename_i a b hb;split at h
 ·rename_i hlen;split at h
  ·rename_i t ht;cases h;refine⟨?_,?_⟩
   ·show (ws.getD a []).length<=300;rw[en];cases e:ws[a]? with
   |none=>simp
   |some x=>have:=ur 32 l x (by rw[hw];exact rP _ (iW e));simp;omega
   exact Bj hb
  cases h
 cases h
end
section
open Go.RowKit Go.Maps
section
variable {w w' V:Ω}{sb wb k:Nat}{F:Nat->Prop}{S:bY}{W:fP}
def kJ(w:Ω)(sb:Nat)(F:Nat->Prop)(S:bY)(l:List UInt8)(e:Ending)(w':Ω):Prop:=∃S' t n,e=N (Ψ #[Z (ae t),bB n])/\oL S l S' t n/\fU w' sb F S'/\ax F w w'
def oD(w:Ω)(sb:Nat)(F:Nat->Prop)(S:bY)(c:cj)(e:Ending)(w':Ω):Prop:=∃S' t n,e=N (Ψ #[Z (ae t),bB n])/\qL S c S' t n/\fU w' sb F S'/\ax F w w'
theorem oD.a{c:cj}{l:List UInt8}{e:Ending}(h:oD V sb F S c e w')(f:eO l=O c)(k:B w.1.size w V):kJ w sb F S l e w':=by obtain⟨b,t,n,i,j,d,g⟩:=h;exact⟨b,t,n,i,ah ⟨c,f,j⟩,d,(bH k F).a g⟩
theorem fU.g(h:fU w sb F S)(c:cj)(l:c.b=kB): Φ prog 43 #[Y (O ⟨sb,0,J⟩),.agg (aY c.b c.c c.a)] w (oD w sb F S c):=by obtain⟨o,i,h⟩:=h.b;exact(RA c sb S.b o i w h.a).m λe p ⟨j,n,d⟩=>⟨_,iy,0,j,af ⟨l,rfl,rfl,rfl⟩,h.k n d,d.e λb _ e=>by rw[e];exact h.f⟩
theorem fU.e(h:fU w sb F S)(c:cj)(l:c.b=kG): Φ prog 44 #[Y (O ⟨sb,0,J⟩),.agg (aY c.b c.c c.a)] w (oD w sb F S c):=by
 by_cases d:pC c
 ·obtain⟨p,n,h⟩:=h.b;exact(SN c sb S.b p n w h.a d).m λe o ⟨i,g,j⟩=>⟨_,iy,0,i,ah (af ⟨l,ah ⟨d,rfl,rfl,rfl⟩⟩),h.k g j,j.e λb _ e=>by rw[e];exact h.f⟩
 exact(RC c sb w d).m λe o ⟨i,g⟩=>⟨S,[],1,i,ah (af ⟨l,af ⟨d,rfl,rfl,rfl⟩⟩),h.a g,bH g F⟩
theorem fU.f(h:fU w sb F S)(j:cQ w F)(c:cj)(k:c.a.length<=400)(p:S.a.length+1<=1000)(l:c.b=gW): Φ prog 45 #[Y (O ⟨sb,0,J⟩),.agg (aY c.b c.c c.a)] w (oD w sb F S c):=by
 by_cases d:∃u,bT (ae c.a) u
 ·obtain⟨u,d⟩:=d;exact(Qf c h j.f j.a k d p).m λe o ⟨i,g,n⟩=>⟨_,iy,0,i,ah (ah (af ⟨l,ah ⟨u,d,rfl,rfl,rfl⟩⟩)),g,n⟩
 exact(Oc c j.a k d).m λe o ⟨i,g⟩=>⟨S,[],4,i,ah (ah (af ⟨l,af ⟨d,rfl,rfl,rfl⟩⟩)),h.a g,bH g F⟩
theorem fU.h(h:fU w sb F S)(p:cQ w F)(c:cj)(l:c.b=ku): Φ prog 46 #[Y (O ⟨sb,0,J⟩)] w (oD w sb F S c):=by
 obtain⟨n,d⟩:=pI.b S.b S.a;by_cases i:n=0
 ·rw[i]at d;rcases d with ⟨_,h1⟩|⟨h1,h2⟩
  ·cases h1
  obtain⟨r,k,o⟩:=h1.a;exact(Od h p.f k o h2).m λe s ⟨j,g,q⟩=>⟨_,iy,0,j,ah (ah (ah (af ⟨l,ah ⟨r,k,o,h2,rfl,rfl,rfl⟩⟩))),g,q⟩
 exact(Mc h d i).m λe s ⟨j,g⟩=>⟨S,[],n,j,ah (ah (ah (af ⟨l,af ⟨d,i,rfl,rfl⟩⟩))),h.a g,bH g F⟩
theorem fU.d(h:fU w sb F S)(o:cQ w F)(s:lQ S k)(u:k<=99)(f:S.c=O W)(c:cj)(j:c.a.length<=400)(g:ou c.b): Φ prog 47 #[Y (O ⟨sb,0,J⟩),.agg (aY c.b c.c c.a)] w (oD w sb F S c):=by obtain⟨x,p⟩:=s.b W f;exact(QK c h f o j om p g).m λe v ⟨t,n,q,l,r,i⟩=>⟨_,t,n,l,ah (ah (ah (ah ⟨g,ah ⟨W,q,f,r,rfl⟩⟩))),i.c,i.b⟩
theorem MF(l:List UInt8)(h:fU w sb F S)(g:cQ w F)(d:l.length<=400)(c:eO l=J):
  Φ prog 20 #[Y (O ⟨sb,0,J⟩),Z (ae l)] w (kJ w sb F S l):=by
 have f:H (Φ prog 42 #[Z (ae l)] w λe j=>e=N (Ψ #[.agg (aY [] [] []),.bool false])/\B w.1.size w j):=by have:=rT l w g.a d;rw[c]at this;exact this
 have k:H (∀V,B w.1.size w V->kJ w sb F S l (N (Ψ #[Z ⟨#[]⟩,.iface 57 (I Q 4)])) V):=λV i=>⟨S,[],4,rfl,af ⟨c,rfl,rfl,rfl⟩,h.a i,bH i F⟩;unfold aY at f;clear h g d c;go_enter func20,ntmps20;go_wp2_with (go_at_call 42;refine f.o.m ?_;rintro e n ⟨rfl,b⟩);go_ret2;exact k.o _ (b.l b.size _)
theorem Ph(l:List UInt8)(c:cj)(r:cQ w F)(i:l.length<=400)(h:eO l=O c)(q:c.b=kB)(j:∀V,B w.1.size w V->Φ prog 43 #[Y (O ⟨sb,0,J⟩),.agg (aY c.b c.c c.a)] V (oD V sb F S c)):
  Φ prog 20 #[Y (O ⟨sb,0,J⟩),Z (ae l)] w (kJ w sb F S l):=by
 have f:H (Φ prog 42 #[Z (ae l)] w λe p=>e=N (Ψ #[.agg (aY c.b c.c c.a),.bool true])/\B w.1.size w p):=by have:=rT l w r.a i;rw[h]at this;exact this
 have g:H (∀V,B w.1.size w V->Φ prog 43 #[Y (O ⟨sb,0,J⟩),.agg (aY c.b c.c c.a)] V (kJ w sb F S l)):=λV s=>(j V s).m λe p k=>k.a h s;rw[q]at f g;unfold aY at f g;rw[show ae kB=⟨#[115,101,116]⟩ from rfl]at f g;clear r i q h j;go_enter func20,ntmps20;go_wp2_with fail;refine f.o.m ?_;rintro e v ⟨rfl,d⟩;have x:H (∀o,B w.1.size w (v.alloc o)):=λo=>d.l d.size o;clear d;go_wp2_with (go_at_call 43;refine(g.o _ (x.o _)).m ?_;rintro e z ⟨u,t,n,rfl,y⟩);go_ret2;exact⟨u,t,n,rfl,y⟩
theorem QL(l:List UInt8)(c:cj)(r:cQ w F)(i:l.length<=400)(h:eO l=O c)(q:c.b=kG)(j:∀V,B w.1.size w V->Φ prog 44 #[Y (O ⟨sb,0,J⟩),.agg (aY c.b c.c c.a)] V (oD V sb F S c)):
  Φ prog 20 #[Y (O ⟨sb,0,J⟩),Z (ae l)] w (kJ w sb F S l):=by
 have f:H (Φ prog 42 #[Z (ae l)] w λe p=>e=N (Ψ #[.agg (aY c.b c.c c.a),.bool true])/\B w.1.size w p):=by have:=rT l w r.a i;rw[h]at this;exact this
 have g:H (∀V,B w.1.size w V->Φ prog 44 #[Y (O ⟨sb,0,J⟩),.agg (aY c.b c.c c.a)] V (kJ w sb F S l)):=λV s=>(j V s).m λe p k=>k.a h s;rw[q]at f g;unfold aY at f g;rw[show ae kG=⟨#[97,116]⟩ from rfl]at f g;clear r i q h j;go_enter func20,ntmps20;go_wp2_with fail;refine f.o.m ?_;rintro e v ⟨rfl,d⟩;have x:H (∀o,B w.1.size w (v.alloc o)):=λo=>d.l d.size o;clear d;go_wp2_with (go_at_call 44;refine(g.o _ (x.o _)).m ?_;rintro e z ⟨u,t,n,rfl,y⟩);go_ret2;exact⟨u,t,n,rfl,y⟩
theorem MG(l:List UInt8)(c:cj)(r:cQ w F)(i:l.length<=400)(h:eO l=O c)(q:c.b=gW)(j:∀V,B w.1.size w V->Φ prog 45 #[Y (O ⟨sb,0,J⟩),.agg (aY c.b c.c c.a)] V (oD V sb F S c)):
  Φ prog 20 #[Y (O ⟨sb,0,J⟩),Z (ae l)] w (kJ w sb F S l):=by
 have f:H (Φ prog 42 #[Z (ae l)] w λe p=>e=N (Ψ #[.agg (aY c.b c.c c.a),.bool true])/\B w.1.size w p):=by have:=rT l w r.a i;rw[h]at this;exact this
 have g:H (∀V,B w.1.size w V->Φ prog 45 #[Y (O ⟨sb,0,J⟩),.agg (aY c.b c.c c.a)] V (kJ w sb F S l)):=λV s=>(j V s).m λe p k=>k.a h s;rw[q]at f g;unfold aY at f g;rw[show ae gW=⟨#[114,117,108,101]⟩ from rfl]at f g;clear r i q h j;go_enter func20,ntmps20;go_wp2_with fail;refine f.o.m ?_;rintro e v ⟨rfl,d⟩;have x:H (∀o,B w.1.size w (v.alloc o)):=λo=>d.l d.size o;clear d;go_wp2_with (go_at_call 45;refine(g.o _ (x.o _)).m ?_;rintro e z ⟨u,t,n,rfl,y⟩);go_ret2;exact⟨u,t,n,rfl,y⟩
theorem KF(l:List UInt8)(c:cj)(q:cQ w F)(h:l.length<=400)(g:eO l=O c)(p:c.b=ku)(i:∀V,B w.1.size w V->Φ prog 46 #[Y (O ⟨sb,0,J⟩)] V (oD V sb F S c)):
  Φ prog 20 #[Y (O ⟨sb,0,J⟩),Z (ae l)] w (kJ w sb F S l):=by
 have f:H (Φ prog 42 #[Z (ae l)] w λe j=>e=N (Ψ #[.agg (aY c.b c.c c.a),.bool true])/\B w.1.size w j):=by have:=rT l w q.a h;rw[g]at this;exact this
 have y:H (∀V,B w.1.size w V->Φ prog 46 #[Y (O ⟨sb,0,J⟩)] V (kJ w sb F S l)):=λV r=>(i V r).m λe j k=>k.a g r;rw[p]at f;unfold aY at f;rw[show ae ku=⟨#[115,116,97,114,116]⟩ from rfl]at f;clear q h p g i;go_enter func20,ntmps20;go_wp2_with fail;refine f.o.m ?_;rintro e u ⟨rfl,d⟩;have v:H (∀o,B w.1.size w (u.alloc o)):=λo=>d.l d.size o;clear d;go_wp2_with (go_at_call 46;refine(y.o _ (v.o _)).m ?_;rintro e z ⟨s,t,n,rfl,x⟩);go_ret2;exact⟨s,t,n,rfl,x⟩
theorem Gm{n:List UInt8}(h:ou n):((ae n).toList == [115,101,116])=false/\((ae n).toList == [97,116])=false/\((ae n).toList == [114,117,108,101])=false/\((ae n).toList == [115,116,97,114,116])=false:=by rw[cY,bX];rcases h with rfl|rfl|rfl|rfl|rfl|rfl|rfl|rfl<;>decide
theorem Pg(l:List UInt8)(c:cj)(h:fU w sb F S)(v:S.c=O W)(z:cQ w F)(p:l.length<=400)(i:eO l=O c)(s:ou c.b)(q:∀V,B w.1.size w V->Φ prog 47 #[Y (O ⟨sb,0,J⟩),.agg (aY c.b c.c c.a)] V (oD V sb F S c)):
  Φ prog 20 #[Y (O ⟨sb,0,J⟩),Z (ae l)] w (kJ w sb F S l):=by
 have y:H (Φ prog 42 #[Z (ae l)] w λe r=>e=N (Ψ #[.agg (aY c.b c.c c.a),.bool true])/\B w.1.size w r):=by have:=rT l w z.a p;rw[i]at this;exact this
 have A:H (∀V,B w.1.size w V->Φ prog 47 #[Y (O ⟨sb,0,J⟩),.agg (aY c.b c.c c.a)] V (kJ w sb F S l)):=λV g=>(q V g).m λe r k=>k.a i g;obtain⟨X,j,P,h⟩:=h.c v;have D:H (∀V,B w.1.size w V->V.cell? ⟨sb,23,J⟩=O (Y (O ⟨j,0,J⟩))):=λV g=>(h.a g).e;obtain⟨U,T,L,R⟩:=Gm s;unfold aY at y A;generalize ae c.b=d at *;clear h v z p s i q;go_enter func20,ntmps20;go_wp2_with fail;refine y.o.m ?_;rintro e u ⟨rfl,f⟩;have x:H (∀o,B w.1.size w (u.alloc o)):=λo=>f.l f.size o;have E:∀o,(u.alloc o).cell? ⟨sb,23,J⟩=O (Y (O ⟨j,0,J⟩)):=λo=>D.o _ (x.o o);clear f;go_wp2_with (go_at_call 47;refine(A.o _ (x.o _)).m ?_;rintro e K ⟨C,t,n,rfl,G⟩);go_ret2;exact⟨C,t,n,rfl,G⟩
theorem ME(l:List UInt8)(c:cj)(h:fU w sb F S)(n:S.c=J)(t:cQ w F)(p:l.length<=400)(k:eO l=O c)(g:ou c.b):
  Φ prog 20 #[Y (O ⟨sb,0,J⟩),Z (ae l)] w (kJ w sb F S l):=by
 have s:H (Φ prog 42 #[Z (ae l)] w λe x=>e=N (Ψ #[.agg (aY c.b c.c c.a),.bool true])/\B w.1.size w x):=by have:=rT l w t.a p;rw[k]at this;exact this
 have u:H (∀V,B w.1.size w V->V.cell? ⟨sb,23,J⟩=O (Y J)/\kJ w sb F S l (N (Ψ #[Z ⟨#[]⟩,.iface 57 (I Q 5)])) V):=λV i=>by
  refine⟨?_,⟨S,[],5,rfl,ah ⟨c,k,ah (ah (ah (ah ⟨g,af ⟨n,rfl,rfl,rfl⟩⟩)))⟩,h.a i,bH i F⟩⟩;obtain⟨E,v,h⟩:=(h.a i).b;rcases h.j with ⟨_,h1⟩|⟨W,_,_,h1,_⟩
  ·have:=(ck h.a).1 23 v rfl;rw[h1]at this;exact this
  rw[n]at h1;cases h1
 obtain⟨D,C,z,A⟩:=Gm g;unfold aY at s;generalize ae c.b=d at *;clear h n t p g k;go_enter func20,ntmps20;go_wp2_with fail;refine s.o.m ?_;rintro e q ⟨rfl,f⟩;have r:H (∀o,B w.1.size w (q.alloc o)):=λo=>f.l f.size o;have y:∀o,(q.alloc o).cell? ⟨sb,23,J⟩=O (Y J):=λo=>(u.o _ (r.o o)).1;clear f;go_wp2;go_ret2;exact(u.o _ (r.o _)).2
theorem Pe(l:List UInt8)(h:fU w sb F S)(i:cQ w F)(m:lQ S k)(n:k<=99)(j:l.length<=400):
   Φ prog 20 #[Y (O ⟨sb,0,J⟩),Z (ae l)] w (kJ w sb F S l):=by
  cases hm:eO l with
 |none=>exact MF l h i j hm
 |some c=>
   obtain⟨p,o⟩:=DR hm;have q:=m.a;rcases o with hn|hn|hn|hn|hn
   ·exact Ph l c i j hm hn λV b=>(h.a b).g c hn
   ·exact QL l c i j hm hn λV b=>(h.a b).e c hn
   ·exact MG l c i j hm hn λV b=>(h.a b).f (i.c b) c om om hn
   ·exact KF l c i j hm hn λV b=>(h.a b).h (i.c b) c hn
   cases hS:S.c with
  |none=>exact ME l c h hS i j hm hn
  |some W=>exact Pg l c h hS i j hm hn λV b=>(h.a b).d (i.c b) m n hS c om hn
theorem R8{c:cj}{t:List UInt8}{n:Nat}{s':ay}(h:pD S W c t n s'):n<=9:=by
 have d:∀r b s,(bS r b s).2<=2:=λr b s=>by unfold bS;(repeat' split)<;>dsimp only<;>omega
 have f:∀b e,(fW W b e).2<=5:=λb e=>by unfold fW bV;(repeat' split)<;>dsimp only<;>omega
 rcases h with ⟨_,⟨_,_,rfl,_⟩|⟨_,_,rfl,_⟩⟩|⟨_,⟨_,_,rfl,_⟩|⟨b,_,⟨_,_,rfl,_⟩|⟨_,_,rfl,_⟩⟩⟩|⟨_,_,rfl,_⟩|⟨_,⟨_,⟨_,_,rfl⟩|⟨b,_,rfl,_⟩⟩|⟨_,⟨_,_,rfl⟩|⟨b,q,_,_,rfl,_⟩⟩|⟨_,_,rfl⟩|⟨_,rfl,_⟩|⟨_,rfl,_⟩⟩
 ·decide
 ·have:=d (c.n 0) (ae (fS c.a)) W.a;omega
 ·decide
 ·unfold ch;(repeat' split)<;>omega
 ·have:=d (c.n 0) (dN c b) W.a;omega
 ·unfold du;split<;>dsimp only<;>omega
 ·decide
 ·have:=f b (c.n 0);omega
 ·decide
 ·have:=f b (c.n 0);omega
 ·unfold gj;split<;>dsimp only<;>omega
 ·decide
 decide
theorem GW{l:List UInt8}{b:bY}{t:List UInt8}{n:Nat}(h:oL S l b t n)(a:lQ S k):n<=9:=by
 rcases h with ⟨_,_,_,rfl⟩|⟨c,_,⟨_,_,_,rfl⟩|⟨_,⟨_,_,_,rfl⟩|⟨_,_,_,rfl⟩⟩|⟨_,⟨_,_,_,rfl⟩|⟨_,_,_,_,rfl⟩⟩|⟨_,⟨h,_⟩|⟨_,_,_,_,_,_,rfl⟩⟩|⟨_,⟨_,_,_,rfl⟩|⟨W,s',_,h,_⟩⟩⟩
 all_goals first|decide|skip
 ·rcases h with ⟨_,rfl⟩|⟨_,⟨_,rfl⟩|⟨_,⟨_,rfl⟩|⟨j,r,h1,_,⟨h2,_⟩|⟨_,_,rfl⟩⟩⟩⟩
  all_goals first|decide|exact absurd (a.c r (iW h1)) h2
 exact R8 h
end
end
section
open Go.RowKit Go.Maps
section
variable {w w' V:Ω}{sb wb k:Nat}{F:Nat->Prop}{S S':bY}{W:fP}{l t:List UInt8}{n:Nat}
theorem cQ.h(h:cQ w F)(k:ax F w w'):cQ w' F:=by have g:B 11 w w':=k.i h.a.b (λb g l=>by have:=h.e b l;omega);exact⟨h.a.c g nl,h.d.b g nl,λb j=>h.f b (aP k.c j),h.e⟩
theorem QM{c:cj}{s':ay}(h:pD S W c t n s')(e:c.a.length<=300):s'.d<=W.a.d+200/\(jF W.a->jF s'):=by
 have f:(ae (fS c.a)).size<=200:=by rw[aV];unfold fS;simp;omega
 rcases h with ⟨_,⟨_,_,_,rfl⟩|⟨_,_,_,rfl⟩⟩|⟨_,⟨_,_,_,rfl⟩|⟨b,hb,⟨_,_,_,rfl⟩|⟨_,_,_,rfl⟩⟩⟩|⟨_,_,_,rfl⟩|⟨rfl,_⟩
 all_goals first|exact⟨om,λh=>h⟩|skip
 ·exact⟨aP (Bf _ _ _ _) om,Gl⟩
 ·have:=Au (c:=c) (qu hb);exact⟨aP (Bf _ _ _ _) om,Gl⟩
 exact⟨by rw[RY];omega,R6⟩
theorem lQ.d(h:lQ S k)(j:oL S l S' t n):lQ S' (k+1):=by
 have e:lQ S (k+1):=⟨λW g=>⟨by have:=(h.b W g).1;omega,(h.b W g).2⟩,by have:=h.a;omega,h.c⟩;rcases j with ⟨_,rfl,_,_⟩|⟨c,hc,j⟩
 ·exact e
 rcases j with ⟨_,rfl,_,_⟩|⟨_,⟨_,rfl,_,_⟩|⟨_,rfl,_,_⟩⟩|⟨_,⟨_,rfl,_,_⟩|⟨u,hu,rfl,_,_⟩⟩|⟨_,⟨_,_,rfl,_⟩|⟨cf,_,_,_,rfl,_,_⟩⟩|⟨_,⟨_,rfl,_,_⟩|⟨W,s',g,ha,rfl⟩⟩
 all_goals first|exact e|exact⟨e.b,e.a,e.c⟩|skip
 ·refine⟨e.b,by have:=h.a;simp;omega,λr p=>?_⟩;rcases dP.1 p with f|f
  ·exact h.c r f
  simp at f;rw[f];exact hu.1
 ·refine⟨λW g=>?_,e.a,e.c⟩;cases g;exact⟨by show ay.d ay.k<=_;simp[ay.d,ay.m,ay.k],O7⟩
 refine⟨λq i=>?_,e.a,e.c⟩;cases i;have f:=QM ha (DR hc).1;have o:=h.b W g;exact⟨by have:=f.1;have:=o.1;dsimp only;omega,f.2 o.2⟩
def Hl(w:Ω)(sb:Nat)(F:Nat->Prop)(S:bY)(l:List UInt8)(e:Ending)(w':Ω):Prop:=∃S' t n,e=N (Z (ae (eX t n)))/\oL S l S' t n/\fU w' sb F S'/\ax F w w'
theorem KG(l:List UInt8)(h:fU w sb F S)(q:cQ w F)(i:lQ S k)(b:k<=99)(s:l.length<=400):
  Φ prog 11 #[Y (O ⟨sb,0,J⟩),Z (ae l)] w (Hl w sb F S l):=by
 have A:H (Φ prog 20 #[Y (O ⟨sb,0,J⟩),Z (ae l)] w (kJ w sb F S l)):=Pe l h q i b s;have z:H (cQ w F):=q;have u:H (lQ S k):=i;clear h q i b s;go_enter func11,ntmps11;go_wp2_with fail;refine A.o.m ?_;rintro e f ⟨d,t,n,rfl,p,r,b⟩;have x:=GW p u.o;have g:H (oL S l d t n/\fU f sb F d/\ax F w f):=⟨p,r,b⟩;have y:H (aT f):=(z.o.h b).a;clear p r b;by_cases j:n=0
 ·subst j;rw[show bB 0=.nilIface from rfl];go_wp2;go_ret;exact⟨d,t,0,rfl,g.o⟩
 have v:H (eX t n=iE n):=by show _=_;unfold eX;rw[ag j]
 rw[pi j];go_wp2_with (go_at_call 21;refine(JW n f y.o x).m ?_;rintro e C ⟨rfl,c⟩);go_ret;exact⟨d,t,n,by rw[v.o];rfl,g.o.1,g.o.2.1.a c,g.o.2.2.a (bH c F)⟩
end
end
section
open Go.RowKit Go.Maps
def oM(r a:Nat):eJ:=⟨0,0,0,0,0,0,λi j=>if i<r\/(i=r/\j<a) then -1 else 0⟩
theorem QN(r:Nat)(a:r<4):bj (oM r 4)=bj (oM (r+1) 0):=by
 match r,a with
 |0,_|1,_|2,_|3,_=>rfl
theorem R9(r a:Nat)(b:r<4)(c:a<4):(bj (oM r a)).setIfInBounds (6+r*4+a) (I Q (-1))=bj (oM r (a+1)):=by
 match r,a,b,c with
 |0,0,_,_|0,1,_,_|0,2,_,_|0,3,_,_|1,0,_,_|1,1,_,_|1,2,_,_|1,3,_,_|2,0,_,_|2,1,_,_|2,2,_,_|2,3,_,_|3,0,_,_|3,1,_,_|3,2,_,_|3,3,_,_=>rfl
def fQ:eJ:=⟨0,0,0,0,0,0,λ_ _=>-1⟩
structure tf (w V:Ω) (r a:Nat):Prop where
 c:V.1[w.1.size]?=O (Δ (bj (oM 0 0)) 34)
 b:V.1[w.1.size+1]?=O (Δ (bj (oM r a)) 34)
 e:V.1.size=w.1.size+2
 d:B w.1.size w V
theorem MH(w:Ω): Φ prog 10 #[] w λe R=>e=N (.agg (bj fQ))/\B w.1.size w R:=by
 go_enter func10,ntmps10;go_wp2_with fail
 have D:H (tf w ((w.alloc (Δ (bj (oM 0 0)) 34)).alloc (Δ (bj (oM 0 0)) 34)) 0 0):=by
  refine⟨?_,?_,by simp,((aj _ w).l nl _).l sm _⟩
  ·rw[cX _ _ _ sm];exact bn w _
  have:=bn (w.alloc (Δ (bj (oM 0 0)) 34)) (Δ (bj (oM 0 0)) 34);simpa using this
 go_loopw [2,3,4,7] (λ_ _ i _ V=>∃r:Nat,r<=4/\i=I Q (r:Int)/\tf w V r 0) (λ_ _ i _ _=>4-(intOf i).toNat)
 case atStart=>exact⟨0,om,rfl,D.o⟩
 obtain⟨r,hr,rfl,E⟩:=hrel;have q:H (tf w wr r 0):=E;clear E D;by_cases m:r<4
 case pos=>
  have L:(r:Int)<4:=om;go_wp2_with fail;go_loopw [3,7] (λ_ i V=>∃a:Nat,a<=4/\i=I Q (a:Int)/\tf w V r a) (λ_ i _=>4-(intOf i).toNat)
  case atStart=>exact⟨0,om,rfl,q.o⟩
  obtain⟨a,ha,rfl,f⟩:=hrel;have j:H _:=f;clear q;by_cases x:a<4
  case pos=>
   have X:(a:Int)<4:=om;obtain⟨F,K,_⟩:=ck f.b;have q1:=K (6+r*4+a);have C:∃v,wr.cell? ⟨w.1.size+1,6+r*4+a,J⟩=O v:=⟨_,F (6+r*4+a) _ (oQ (show 6+r*4+a<22 by omega))⟩;obtain⟨v0,C⟩:=C
   have z:H (tf w (wr.setCell ⟨w.1.size+1,6+r*4+a,J⟩ (I Q (-1))) r (a+1)):=by
    refine⟨?_,?_,by simp[World.setCell];exact f.e,?_⟩
    ·rw[bN _ _ _ _ sm];exact f.c
    ·simp only[World.setCell,dU,f.b,iP,kS,ie,iq,fL];rw[R9 r a m x]
    exact f.d.c sm _
   clear f F K;go_wp2;go_roundw
   case rel=>exact⟨a+1,om,by go_num,z.o⟩
   simp[intOf];omega
  have X:¬(a:Int)<4:=om;have k:a=4:=om;have z:H (tf w wr (r+1) 0):=⟨j.o.c,by rw[<-QN r m,<-k];exact j.o.b,j.o.e,j.o.d⟩;clear k;clear f;go_wp2;go_roundw
  case rel=>exact⟨r+1,om,by go_num,z.o⟩
  simp[intOf];omega
 have L:¬(r:Int)<4:=om;have k:r=4:=om;have h:H (tf w wr 4 0):=k ▸ q.o;clear k q;have u:wr.rangeAt (w.1.size+1) 0 (bj fQ).toList:=λi v S=>(by rw[dj];exact(ck h.o.b).1 i v (by rw[<-rM];exact S));have g:wr.there w.1.size 0 22:=λi s=>(by rw[dj];obtain⟨U,T,_⟩:=ck h.o.c;exact⟨by rw[U i _ (oQ (show i<(bj (oM 0 0)).size from s))];rfl,T i⟩);have W:(bj fQ).all (·.oneCell')=true:=(by simp[bj,fQ,Value.oneCell']);have G:H (B w.1.size w (wr.setCells w.1.size 0 (bj fQ).toList)/\(wr.setCells w.1.size 0 (bj fQ).toList).rangeAt w.1.size 0 (bj fQ).toList):=⟨h.o.d.t (tA _ _ _ _ _ nl),World.rangeAt_setCells_same wr w.1.size 0 (bj fQ).toList g⟩;have n:(loadVar 34 ⟨w.1.size,0,J⟩).run prog (wr.setCells w.1.size 0 (bj fQ).toList)=.ok (.agg (bj fQ).toList.toArray) (wr.setCells w.1.size 0 (bj fQ).toList):=run_loadVar_mid _ _ _ 34 _ _ G.o.2 underlying34 rfl kr;rw[rO]at n;have s:(prog.info? 34).map (·.size)=O (bj fQ).size:=kr;have y:(prog.info? 34).map (·.size)=O (bj fQ).toList.length:=kr;rw[show 22=(bj fQ).size from rfl]at g;generalize f:bj fQ=A at *;have j:H (A=bj fQ):=f.symm;clear f;go_wp2_with (first|(refine wpList_load_mid rfl 34 (.tmp 1) rfl (w.1.size+1) 0 rfl A.toList _ u underlying34 rfl y ?_)|(refine wpList_store_mid rfl 34 (.tmp 0) (.tmp 17) rfl w.1.size 0 A rfl rfl g s W ?_));refine bK (v:=.agg A) ?_ rfl ⟨congrArg (λa=>Ending.returned (.agg a)) j.o,G.o.1⟩;exact yP (P:=prog) (fn:=f10) (p:=0) (ty:=34) rfl _ _ w.1.size A rfl n
end
end Go.Proofs.YtlaodjjfmhipnaaGreatDoor
