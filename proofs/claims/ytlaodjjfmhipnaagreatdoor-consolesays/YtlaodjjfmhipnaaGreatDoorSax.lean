/-
  Part of it.
-/
import Derived.Test.YtlaodjjfmhipnaaGreatDoorSap
import Derived.Test.YtlaodjjfmhipnaaGreatDoorSaq
import Derived.Test.YtlaodjjfmhipnaaGreatDoorSas
import Derived.Test.YtlaodjjfmhipnaaGreatDoorSav
set_option maxRecDepth 100000
set_option maxHeartbeats 8000000
set_option linter.all false
namespace Go.Proofs.YtlaodjjfmhipnaaGreatDoor
open Go.Proofs.Tryz
open Value renaming int→I,string→Z,pointer→Y,slice→M,tuple→Ψ
open Ending renaming returned→N
open Obj renaming cells→Δ
open Go renaming World→Ω,Calls→Φ
open IntKind renaming i64→Q
open Option renaming some→O,none→J
open RowKit renaming Below→B,Hid→H
section
open Go.RowKit Go.Maps
structure ib where
 e:Value
 d:Value
 b:Value
 a:Nat
def dS(c:aE)(s:ay)(p:ib)(i:Nat):Value:=
 if i<22 then
  (if i<6 then
   (match i with
   |0=>I Q (c.b:Int)
   |1=>I Q (c.e:Int)
   |2=>I Q (c.d:Int)
   |3=>I Q (c.c:Int)
   |4=>I Q (c.f:Int)
   |_=>I Q (c.g:Int))
  else I Q (c.a ((i-6)/4) ((i-6)%4)))
 else if i<35 then
  (if i=22 then p.e
  else if i<31 then (if (i-23)%2=0 then Z (aM (s.f ((i-23)/2))) else I Q (s.g ((i-23)/2):Int))
  else I Q (s.q (i-31)))
 else match i-35 with
 |0=>I Q (c.b:Int)
 |1=>I Q (c.e:Int)
 |2=>I Q (s.b:Int)
 |3=>p.d
 |4=>Y (O ⟨p.a,0,J⟩)
 |5=>p.b
 |6=>I Q 0
 |7=>I Q (s.n:Int)
 |8=>I Q (s.p:Int)
 |9=>I Q (s.l:Int)
 |_=>I Q (s.o:Int)
def eZ(c:aE)(s:ay)(p:ib):Array Value:=((List.range 46).map (dS c s p)).toArray
theorem pm(c:aE)(s:ay)(p:ib):(eZ c s p).size=46:=by simp[eZ]
theorem sH(c:aE)(s:ay)(p:ib){i:Nat}(h:i<46):(eZ c s p)[i]?=O (dS c s p i):=by unfold eZ;rw[List.getElem?_toArray,eE,rR h];rfl
theorem FB{c:aE}{s s':ay}{p p':ib}{i:Nat}{v:Value}(h:∀j,j<46->dS c s' p' j=if j=i then v else dS c s p j):(eZ c s p).setIfInBounds i v=eZ c s' p':=by
 apply pQ;intro j;rw[oP,pm];by_cases b:j<46
 ·rw[sH c s' p' b,h j b,sH c s p b];by_cases a:i=j
  ·subst a;simp[b]
  have d:¬j=i:=λe=>a e.symm;simp[a,d]
 have f:(eZ c s' p')[j]?=J:=j8 (by rw[pm];omega);have g:(eZ c s p)[j]?=J:=j8 (by rw[pm];omega);rw[f,g];by_cases a:i=j
 ·subst a;simp[b]
 simp[a]
structure ek (w:Ω) (rb:Nat) (ow:Nat->Nat) (c:aE) (rs:List aq) (s:ay) (k q:Nat) (L:List ByteArray) (p:ib):Prop where
 m:w.1[rb]?=O (Δ (eZ c s p) 53)
 a:ow rb=1
 d:∀b,ow b≠0->b<w.1.size
 h:w.ownsRow 0 65 6 p.e rs.length (cS rs)
 g:∀b,p.e.ownBlock=O b->ow b=2
 n:w.ownsRow 0 203 5 p.d s.a.length (jW c.b s.a)
 j:∀b,p.d.ownBlock=O b->ow b=3
 i:w.ownsRow 0 9 1 p.b L.length (L.map Z)
 f:∀b,p.b.ownBlock=O b->ow b=4
 l:∃F,aO w p.a F c.d c.c q (aC c s k)/\∀b,F b->ow b=5
structure dF (w:Ω) (rb:Nat) (ow:Nat->Nat) (c:aE) (rs:List aq) (s:ay) (k q:Nat):Prop where
 a:∃p,ek w rb ow c rs s k q (bJ s.a) p
section
variable {w w':Ω}{rb:Nat}{ow:Nat->Nat}{c:aE}{rs:List aq}{s s':ay}{k q:Nat}{L:List ByteArray}{p p':ib}
theorem ek.r(h:ek w rb ow c rs s k q L p):rb<w.1.size:=h.d _ (by rw[h.a];decide)
theorem ek.e(h:ek w rb ow c rs s k q L p){i:Nat}(a:i<46):w.cell? ⟨rb,i,J⟩=O (dS c s p i):=by simp only[World.cell?,h.m];rw[sH c s p a];rfl
theorem ek.t(h:ek w rb ow c rs s k q L p)(i:Nat):w.frozen? ⟨rb,i,J⟩=false:=by simp[World.frozen?,h.m]
theorem ek.u(h:ek w rb ow c rs s k q L p)(t:w.1.size<=w'.1.size)(o:∀b,b<w.1.size->ow b≠0->w'.1[b]?=w.1[b]?):ek w' rb ow c rs s k q L p where
 m:=by rw[o rb h.r (by rw[h.a];decide)];exact h.m
 a:=h.a
 d:=λb e=>bg (h.d b e) t
 h:=aS h.h (λb e=>o b (aU h.h e) (by rw[h.g b e];decide))
 g:=h.g
 n:=aS h.n (λb e=>o b (aU h.n e) (by rw[h.j b e];decide))
 j:=h.j
 i:=aS h.i (λb e=>o b (aU h.i e) (by rw[h.f b e];decide))
 f:=h.f
 l:=by obtain⟨F,y,v⟩:=h.l;exact⟨F,y.d t (λb e x=>o b e (by rw[v b x];decide)),v⟩
theorem dF.d(h:dF w rb ow c rs s k q)(e:w.1.size<=w'.1.size)(f:∀b,b<w.1.size->ow b≠0->w'.1[b]?=w.1[b]?):dF w' rb ow c rs s k q:=by obtain⟨p,h⟩:=h.a;exact⟨p,h.u e f⟩
theorem dF.b(h:dF w rb ow c rs s k q)(a:B w.1.size w w'):dF w' rb ow c rs s k q:=h.d a.size (λb e _=>a.block b e)
theorem ek.o(h:ek w rb ow c rs s k q L p)(a:B w.1.size w w'):ek w' rb ow c rs s k q L p:=h.u a.size (λb d _=>a.block b d)
theorem ek.x(h:ek w rb ow c rs s k q L p)(A:w.1.size<=w'.1.size)(u:∀b,b<w.1.size->ow b≠0->b≠rb->w'.1[b]?=w.1[b]?)(t:w'.1[rb]?=O (Δ (eZ c s' p) 53))(r:s'.a=s.a)(v:aC c s' k=aC c s k):ek w' rb ow c rs s' k q L p where
 m:=t
 a:=h.a
 d:=λb o=>bg (h.d b o) A
 h:=aS h.h (λb o=>u b (aU h.h o) (by rw[h.g b o];decide) (λe=>by have:=h.g b o;rw[e,h.a]at this;cases this))
 g:=h.g
 n:=by rw[r];exact aS h.n (λb o=>u b (aU h.n o) (by rw[h.j b o];decide) (λe=>by have:=h.j b o;rw[e,h.a]at this;cases this))
 j:=h.j
 i:=aS h.i (λb o=>u b (aU h.i o) (by rw[h.f b o];decide) (λe=>by have:=h.f b o;rw[e,h.a]at this;cases this))
 f:=h.f
 l:=by obtain⟨F,C,y⟩:=h.l;rw[v];exact⟨F,C.d A (λb o z=>u b o (by rw[y b z];decide) (λe=>by have:=y b z;rw[e,h.a]at this;cases this)),y⟩
theorem vT{j:Nat}(h:j<35)(i:s'.f=s.f)(k:s'.g=s.g)(b:s'.q=s.q)(d:p'.e=p.e):dS c s' p' j=dS c s p j:=by
 unfold dS;by_cases a:j<22
 ·rw[ak a,ak a]
 rw[ag a,ag a,ak h,ak h,i,k,b,d]
theorem sr{j:Nat}(h:¬j<35)(a:j<46):j=35\/j=36\/j=37\/j=38\/j=39\/j=40\/j=41\/j=42\/j=43\/j=44\/j=45:=om
theorem AO(c:aE)(s:ay)(p:ib)(a:Nat)(v:Value):gZ (eZ c s p) c.b c.e a v=Δ (eZ c { s with b:=a } { p with d:=v }) 53:=by unfold gZ;congr 1
theorem ek.y{all':List ai}{now':Nat}(h:ek w rb ow c rs s k q L p)(P:eP w' rb (eZ c s p) (jz (λb=>b=rb\/ow b=3) w w') c.b c.e now' all')(u:ax (λb=>b=rb\/ow b=3) w w')
  (K:aC c { s with a:=all',b:=now' } k=aC c s k):∃v,ek w' rb (dA ow w w' 3) c rs { s with a:=all',b:=now' } k q L { p with d:=v }:=by
 obtain⟨v,d⟩:=P.a;have x:=u.c
 have r:∀b n,b<w.1.size->ow b=n->n≠0->n≠1->n≠3->w'.1[b]?=w.1[b]?:=λb n C j D o G=>u.b b C (λt=>by
  rcases t with t|t
  ·rw[t,h.a]at j;exact o j.symm
  ·rw[j]at t;exact G t)
 have m:∀b n,ow b=n->n≠0->dA ow w w' 3 b=n:=λb n j D=>by rw[rm (h.d b (by rw[j];exact D))];exact j
 refine⟨v,?_,m _ _ h.a dc,λb j=>rj h.d x j,?_,?_,?_,?_,?_,?_,?_⟩
 ·have:=d.a;rw[AO]at this;rw[this];rfl
 ·exact aS h.h (λb j=>r b 2 (aU h.h j) (h.g b j) dc dc dc)
 ·exact λb j=>m b 2 (h.g b j) dc
 ·exact d.c
 ·intro b j;have A:=d.i j;rcases d.e b j with o|o
  ·rcases o with o|o
   ·exact absurd o A
   exact m b 3 o dc
  unfold dA;rw[ak o]
 ·exact aS h.i (λb j=>r b 4 (aU h.i j) (h.f b j) dc dc dc)
 ·exact λb j=>m b 4 (h.f b j) dc
 obtain⟨F,o,E⟩:=h.l;rw[K];exact⟨F,o.d x (λb j z=>r b 5 j (E b z) dc dc dc),λb z=>m b 5 (E b z) dc⟩
theorem ek.v(h:ek w rb ow c rs s k q L p):jT w rb (eZ c s p) p.d (λb=>b=rb\/ow b=3) c.b c.e s.b s.a where
 a:=by rw[h.m,AO]
 d:=pm c s p
 c:=h.n
 g:=af rfl
 e:=λb f=>ah (h.j b f)
end
end
section
open Go.RowKit Go.Maps
section
variable (c:aE)(s:ay)(p:ib)
theorem Qt(n:Nat)(j:Nat)(b:j<46):dS c { s with n:=n } p j=if j=42 then I Q (n:Int) else dS c s p j:=by
 by_cases a:j<35
 ·rw[ag om];exact vT a rfl rfl rfl rfl
 rcases sr a b with h|h|h|h|h|h|h|h|h|h|h<;>subst h<;>rfl
theorem Oz(n:Nat)(j:Nat)(b:j<46):dS c { s with p:=n } p j=if j=43 then I Q (n:Int) else dS c s p j:=by
 by_cases a:j<35
 ·rw[ag om];exact vT a rfl rfl rfl rfl
 rcases sr a b with h|h|h|h|h|h|h|h|h|h|h<;>subst h<;>rfl
theorem EH(n:Nat)(j:Nat)(b:j<46):dS c { s with l:=n } p j=if j=44 then I Q (n:Int) else dS c s p j:=by
 by_cases a:j<35
 ·rw[ag om];exact vT a rfl rfl rfl rfl
 rcases sr a b with h|h|h|h|h|h|h|h|h|h|h<;>subst h<;>rfl
theorem Oy(n:Nat)(j:Nat)(b:j<46):dS c { s with o:=n } p j=if j=45 then I Q (n:Int) else dS c s p j:=by
 by_cases a:j<35
 ·rw[ag om];exact vT a rfl rfl rfl rfl
 rcases sr a b with h|h|h|h|h|h|h|h|h|h|h<;>subst h<;>rfl
theorem RM(v:Value)(j:Nat)(d:j<46):dS c s { p with b:=v } j=if j=40 then v else dS c s p j:=by
 by_cases a:j<35
 ·rw[ag om];exact vT a rfl rfl rfl rfl
 rcases sr a d with h|h|h|h|h|h|h|h|h|h|h<;>subst h<;>rfl
theorem xZ{j:Nat}(a:¬j<31)(b:j<35):dS c s p j=I Q (s.q (j-31)):=by unfold dS;rw[ag (show ¬j<22 by omega),ak b,ag (show ¬j=22 by omega),ag a]
theorem OA{r:Nat}(i:r<4)(n:Int)(j:Nat)(g:j<46):dS c { s with q:=fT s.q r n } p j=if j=31+r then I Q n else dS c s p j:=by
 by_cases d:j<35
 ·by_cases a:j<31
  ·rw[ag om];unfold dS;by_cases b:j<22
   ·rw[ak b,ak b]
   rw[ag b,ag b,ak d,ak d];by_cases e:j=22
   ·rw[ak e,ak e]
   rw[ag e,ag e,ak a,ak a]
  rw[xZ c _ p a d,xZ c s p a d];by_cases f:j=31+r
  ·rw[ak f];subst f;simp[fT]
  rw[ag f];have:j-31≠r:=om;simp[fT,this]
 rw[ag om];rcases sr d g with h|h|h|h|h|h|h|h|h|h|h<;>subst h<;>rfl
theorem RN{r a:Nat}(f:r<4)(e:a<4):dS c s p (6+r*4+a)=I Q (c.a r a):=by unfold dS;rw[ak om,ag om];have b:(6+r*4+a-6)/4=r:=om;have d:(6+r*4+a-6)%4=a:=om;rw[b,d]
end
structure iz (w w':Ω) (rb:Nat) (ow:Nat->Nat) (c:aE) (rs:List aq) (s:ay) (k q:Nat):Prop where
 d:∃ow',dF w' rb ow' c rs s k q/\cD w w' ow ow'
structure dH (c:aE) (s:ay):Prop where
 a:c.h
 e:s.b<=1000
 b:(bJ s.a).length<=12
 d:∀x,x∈s.a->eY s.b x=true/\0<aD x.a
 f:s.d<=20000
section
variable {w w' w0:Ω}{rb:Nat}{ow:Nat->Nat}{c:aE}{rs:List aq}{s s':ay}{k q:Nat}{L:List ByteArray}{p:ib}
theorem iz.e(g:B w0.1.size w0 w)(h:iz w w' rb ow c rs s k q):iz w0 w' rb ow c rs s k q:=by obtain⟨a,f,b⟩:=h.d;exact⟨a,f,(cD.e g ow).d b⟩
theorem iz.b{e:Nat->Nat}(f:cD w0 w e ow)(h:iz w w' rb ow c rs s k q):iz w0 w' rb e c rs s k q:=by obtain⟨a,g,i⟩:=h.d;exact⟨a,g,f.d i⟩
theorem Ox(h:ek w rb ow c rs s k q L p){i:Nat}{v:Value}(f:∀j,j<46->dS c s' p j=if j=i then v else dS c s p j)(e:s'.a=s.a):ek (w.setCell ⟨rb,i,J⟩ v) rb ow c rs s' k q L p:=
 ek.x h (by simp[World.setCell]) (λb _ _ d=>bN _ _ _ _ d) (by rw[ph h.m,FB f]) e (xU e k)
theorem iz.a(h:dF w rb ow c rs s k q){i:Nat}{v:Value}(d:∀p j,j<46->dS c s' p j=if j=i then v else dS c s p j)(b:s'.a=s.a):iz w (w.setCell ⟨rb,i,J⟩ v) rb ow c rs s' k q:=by obtain⟨p,h⟩:=h.a;refine⟨ow,⟨p,?_⟩,⟨ko _ _ _ (by show ow rb≠0;rw[h.a];decide),λ_ h=>af h⟩⟩;rw[b];exact Ox h (d p) b
end
end
section
open Go.RowKit Go.Maps
structure uS (V V':Ω) (bx:Nat) (o:Obj) (rb:Nat) (ow:Nat->Nat) (c:aE) (rs:List aq) (s:ay) (k q:Nat) (L:List ByteArray) (all':List ai):Prop where
 a:∃p ow',ek V' rb ow' c rs { s with a:=all' } k q L p/\cD V V' ow ow'
 b:V'.1[bx]?=O o
section
variable {w w' w0:Ω}{rb:Nat}{ow:Nat->Nat}{c:aE}{rs:List aq}{s s':ay}{k q:Nat}{L:List ByteArray}{p:ib}
theorem DM{U V:Ω}{g cap:Nat}{t:ByteArray}(h:ek w rb ow c rs s k q L p)(z:B w.1.size w U)(P:V.ownsRow 0 9 1 (M (O ⟨g,0,J⟩) (L.length+1) cap) (L.length+1) (L.map Z++[Z t]))(A:U.grownBy V p.b.ownBlock)(m:p.b.ownBlock=O g\/g=U.1.size)(T:V.1[rb]?=O (Δ (eZ c s p) 53))(R:bJ s.a=L++[t]):
  iz w (V.setCell ⟨rb,40,J⟩ (M (O ⟨g,0,J⟩) (L.length+1) cap)) rb ow c rs s k q:=by
 have a1:=z.size;have X:=A.size;have C:(V.setCell ⟨rb,40,J⟩ (M (O ⟨g,0,J⟩) (L.length+1) cap)).1.size=V.1.size:=by simp[World.setCell]
 have hg:=aU P rfl;have a0:=h.r
 have E:g≠rb:=by
  rcases m with m|m
  ·intro e;have:=h.f g m;rw[e,h.a]at this;omega
  omega
 have u:∀b n,ow b=n->n≠0->n≠1->n≠4->(V.setCell ⟨rb,40,J⟩ (M (O ⟨g,0,J⟩) (L.length+1) cap)).1[b]?=w.1[b]?:=λb n i x D S=>by
  have y:=h.d b (by rw[i];exact x);have G:b≠rb:=λe=>by rw[e,h.a]at i;exact D i.symm
  have W:=A.block b om (λe=>S (i.symm.trans (h.f b e.symm)));rw[bN _ _ _ _ G,W];exact z.block b y
 have o:∀b n,ow b=n->n≠0->dA ow w V 4 b=n:=λb n i x=>by rw[rm (h.d b (by rw[i];exact x))];exact i
 refine⟨dA ow w V 4,⟨{ p with b:=M (O ⟨g,0,J⟩) (L.length+1) cap },?_,o _ _ h.a dc,λb i=>by rw[C];exact rj h.d om i,?_,?_,?_,?_,?_,?_,?_⟩,?_⟩
 ·rw[ph T,FB (RM c s p _)]
 ·exact aS h.h (λb i=>u b 2 (h.g b i) dc dc dc)
 ·exact λb i=>o b 2 (h.g b i) dc
 ·exact aS h.n (λb i=>u b 3 (h.j b i) dc dc dc)
 ·exact λb i=>o b 3 (h.j b i) dc
 ·rw[R,bU,iY]
  exact aS P (λb i=>by
   simp[Value.ownBlock]at i;subst i;exact bN _ _ _ _ E)
 ·intro b i;simp[Value.ownBlock]at i;subst i;rcases m with m|m
  ·exact o _ 4 (h.f _ m) dc
  unfold dA;rw[ak ⟨om,hg⟩]
 ·obtain⟨F,D,K⟩:=h.l;exact⟨F,D.d om (λb _ v=>u b 5 (K b v) dc dc dc),λb v=>o b 5 (K b v) dc⟩
 refine⟨((bH z _).a (eV A (λb i=>?_))).a (ko _ _ _ ?_),λb i=>Ak i⟩
 ·show ow b≠0;rw[h.f b i];decide
 show ow rb≠0;rw[h.a];decide
theorem Mm(x:dr)(r:Nat)(h:dF w rb ow c rs s k q)(hf:dH c s)(hk:k=s.c c)(hr:r<4)(ha:0<=x.b/\x.b<=3)(hs:0<=x.d/\x.d<=255)(hg:0<=x.e/\x.e<=255)(ht:x.c.size=8)(hu:s.d+1<=20000):
  Φ prog 52 #[Y (O ⟨rb,0,J⟩),I Q (r:Int),.agg #[I Q x.b,I Q x.d,I Q x.e,Z x.c]] w λe w'=>e=N (Ψ #[])/\iz w w' rb ow c rs (s.e c r x) k q:=by
 obtain⟨xa,L,F,A⟩:=x;simp only at ha hs hg ht⊢;obtain⟨a,rfl⟩:∃a:Nat,xa=(a:Int):=⟨xa.toNat,om⟩;have ha4:a<4:=om;have hrI:(r:Int)<4:=om;have haI:(a:Int)<4:=om;obtain⟨pl,hpl⟩:∃pl,pl=c.a r a:=⟨_,rfl⟩;have hpb:-1<=pl/\pl<=7:=by rw[hpl];exact hf.a.k r a hr ha4
 have hnow:=hf.e;have a4:s.m+1<=20000:=by have:=hu;unfold ay.d at this;omega
 have HF:=hid hf;have HH:=hid h;obtain⟨X,hX⟩:∃X,X=w.alloc (Δ #[I Q (a:Int),I Q L,I Q F,Z A] 102):=⟨_,rfl⟩;have hbX:B w.1.size w X:=by rw[hX];exact ba
 have HBX:=hid hbX;have hXs:X.1.size=w.1.size+1:=by rw[hX];simp
 have hbx:X.1[w.1.size]?=O (Δ #[I Q (a:Int),I Q L,I Q F,Z A] 102):=by rw[hX];exact bn w _
 have a7:H (∀V,B X.1.size X V->V.1[w.1.size]?=O (Δ #[I Q (a:Int),I Q L,I Q F,Z A] 102)):=λV hV=>by rw[hV.block w.1.size om];exact hbx
 have hD:=h.b hbX;obtain⟨p,hD⟩:=hD.a;have HD:=hid hD;obtain⟨kq,kcap,hkv,hkc⟩:=L9 hD.i;obtain⟨z,hN⟩:∃z,z=(bJ s.a).length:=⟨_,rfl⟩;have HN:=hid hN;have hN12:z<=12:=by rw[hN];exact hf.b
 obtain⟨K,hKK⟩:∃K,K=bJ s.a:=⟨_,rfl⟩;have HKK:=hid hKK;rw[<-hN]at hkv;rw[<-hKK]at hkc;have HNK:H (z=K.length):=by show _=_;rw[hN,hKK]
 have HKC:=hid hkc;have hrbX:=hD.r;have d40:X.cell? ⟨rb,40,J⟩=O (M kq z kcap):=by rw[hD.e om];show O p.b=_;rw[hkv]
 have dpl:X.cell? ⟨rb,6+r*4+a,J⟩=O (I Q pl):=by rw[hD.e om,RN c s p hr ha4,hpl]
 have HDC:H (∀V,B X.1.size X V->V.cell? ⟨rb,40,J⟩=O (M kq z kcap)/\V.cell? ⟨rb,6+r*4+a,J⟩=O (I Q pl)/\V.cell? ⟨w.1.size,0,J⟩=O (I Q (a:Int))/\V.cell? ⟨w.1.size,3,J⟩=O (Z A)):=λV hV=>⟨by rw[hV.cell hrbX];exact d40,by rw[hV.cell hrbX];exact dpl,by simp[World.cell?,a7.o V hV],by simp[World.cell?,a7.o V hV]⟩;have HPL:=hid hpl;have HKd:H (∀V:Ω,Φ prog 84 #[Z A] V λe w'=>e=N (I Q (aD A:Int))/\B V.1.size V w'):=λV=>vu A V om;have HKEQ:H (k=s.c c):=hk;clear h hf hD hkv hkc hN hKK d40 dpl hbX hbx hpl hu hk;go_enter func52,ntmps52;go_wp2;rw[<-hX];clear hX;go_loopw [6,7] (λkv i V=>∃(j dq:Nat) (kb:Bool),j<=z/\i=I Q (j:Int)/\kv=.bool kb/\(kb=gY (K.take j) A)/\V=X.drewN dq) (λ_ i _=>z-(intOf i).toNat)
 case atStart=>exact⟨0,0,false,aX _,rfl,rfl,rfl,rfl⟩
 case round=>
  obtain⟨j,dq,kb,hj,rfl,rfl,hkb,rfl⟩:=hrel;have HKB:H (kb=gY (K.take j) A):=hkb;clear hkb;obtain⟨e40,epl,eb0,eb3⟩:=HDC.o X (aj _ X);by_cases hlt:j<z
  case neg=>
   have hII:¬(j:Int)<z:=om;have hKT:kb=gY K A:=(by have h1:=HKB.o;rw[ip (by rw[<-HNK.o];omega)]at h1;exact h1);have HKT:H (kb=gY (bJ s.a) A):=(by show _=_;rw[hKT,HKK.o]);clear hKT HKB;go_wp2;go_quiet (fail);go_wp2_with fail;refine(HKd.o _).m ?_;rintro e C ⟨rfl,hb1⟩;have a3:H (B X.1.size X C):=⟨hb1.os,hb1.tape,hb1.output,hb1.size,hb1.block⟩;have HBW:H (B w.1.size w C):=HBX.o.t (a3.o.m HBX.o.size);have T:H (ek C rb ow c rs s k q (bJ s.a) p):=HD.o.o a3.o;clear hb1 e40 epl eb0 eb3;obtain⟨e40,epl,eb0,eb3⟩:=HDC.o C a3.o;obtain⟨kd,hkd⟩:∃kd,kd=aD A:=⟨_,rfl⟩;have HKD:H (kd=aD A):=hkd;rw[<-hkd];clear hkd;by_cases hk0:kd=0
   case pos=>have hz:((kd:Int) == 0)=true:=(by rw[hk0];rfl);have R:H (s.e c r ⟨(a:Int),L,F,A⟩={ s with n:=s.n+1 }):=(by show _=_;unfold ay.e;rw[ak (by rw[<-HKD.o];exact hk0)]);have c42:C.cell? ⟨rb,42,J⟩=O (I Q (s.n:Int)):=T.o.e om;have f42:=T.o.t 42;have hbd:s.n<=20000:=(by unfold ay.m at a4;omega);have G:H (iz w (C.setCell ⟨rb,42,J⟩ (I Q ((s.n:Int)+1))) rb ow c rs (s.e c r ⟨(a:Int),L,F,A⟩) k q):=(by rw[R.o];exact iz.e HBW.o (iz.a ⟨p,T.o⟩ (λp j hj=>Qt c s p (s.n+1) j hj) rfl));clear hk0;go_wp2;go_end0;exact⟨rfl,G.o⟩
   case neg=>
   have hz:((kd:Int) == 0)=false:=(by rw[oV];omega);have HKN:H (¬aD A=0):=(by rw[<-HKD.o];exact hk0);by_cases hp1:pl=-1
   case pos=>have hz2:pl<0:=om;have R:H (s.e c r ⟨(a:Int),L,F,A⟩={ s with p:=s.p+1 }):=(by show _=_;unfold ay.e;rw[ag HKN.o,ak (by simp only[ir];rw[<-HPL.o];exact hp1)]);have c43:C.cell? ⟨rb,43,J⟩=O (I Q (s.p:Int)):=T.o.e om;have f43:=T.o.t 43;have hbd:s.p<=20000:=(by unfold ay.m at a4;omega);have G:H (iz w (C.setCell ⟨rb,43,J⟩ (I Q ((s.p:Int)+1))) rb ow c rs (s.e c r ⟨(a:Int),L,F,A⟩) k q):=(by rw[R.o];exact iz.e HBW.o (iz.a ⟨p,T.o⟩ (λp j hj=>Oz c s p (s.p+1) j hj) rfl));clear hk0 hp1;go_wp2;go_end0;exact⟨rfl,G.o⟩
   case neg=>
   have hz2:¬pl<0:=om;have HP1:H (¬c.a r a=-1):=(by rw[<-HPL.o];exact hp1);by_cases a2:kb=false/\z=12
   case pos=>obtain⟨rfl,hN2⟩:=a2;have hz3:((z:Int) == 12)=true:=(by rw[hN2];rfl);have R:H (s.e c r ⟨(a:Int),L,F,A⟩={ s with o:=s.o+1 }):=(by show _=_;unfold ay.e;rw[ag HKN.o,ag (by simp only[ir];exact HP1.o),ak ⟨HKT.o.symm,by rw[<-HN.o];omega⟩]);have c45:C.cell? ⟨rb,45,J⟩=O (I Q (s.o:Int)):=T.o.e om;have f45:=T.o.t 45;have hbd:s.o<=20000:=(by unfold ay.m at a4;omega);have G:H (iz w (C.setCell ⟨rb,45,J⟩ (I Q ((s.o:Int)+1))) rb ow c rs (s.e c r ⟨(a:Int),L,F,A⟩) k q):=(by rw[R.o];exact iz.e HBW.o (iz.a ⟨p,T.o⟩ (λp j hj=>Oy c s p (s.o+1) j hj) rfl));clear hk0 hp1 hN2;go_wp2;go_end0;exact⟨rfl,G.o⟩
   case neg=>
   have HNF:H (¬(gY (bJ s.a) A=false/\12<=(bJ s.a).length)):=λh=>a2 ⟨by rw[HKT.o];exact h.1,by have:=h.2;rw[<-HN.o]at this;omega⟩;have hz3:kb=false->((z:Int) == 12)=false:=λh=>(by rw[oV];intro e;exact a2 ⟨h,om⟩);have c37:C.cell? ⟨rb,37,J⟩=O (I Q (s.b:Int)):=T.o.e om;have hwr:IntKind.i64.wrap ((s.b:Int)-F)=(s.b:Int)-F:=(by simp[IntKind.wrap,IntKind.bits,IntKind.signed];omega);obtain⟨y,hy⟩:∃y:ai,y=⟨pl,L,(s.b:Int)-F,A⟩:=⟨_,rfl⟩;have HY:H (qA c r s ⟨(a:Int),L,F,A⟩=y):=(by show _=_;rw[hy];unfold qA;simp only[ir];rw[<-HPL.o]);obtain⟨fA,hfA⟩:∃fA,fA=ey c.b c.e s.b y:=⟨_,rfl⟩;have HBV:H (∀V,V.1=C.1->V.os=C.os->V.tape=C.tape->V.output=C.output->B C.1.size C V):=λV h1 h2 h3 h4=>⟨h2,h3,h4,by rw[h1];exact aa _,λb _=>by rw[h1]⟩
   have a1:H (∀dd,Φ prog 85 #[Y (O ⟨rb,35,J⟩),.agg #[I Q pl,I Q L,I Q ((s.b:Int)-F),Z A]] (C.drewN dd) λe w'=>e=N (I Q (fA:Int))/\uS (C.drewN dd) w' w.1.size (Δ #[I Q (a:Int),I Q L,I Q F,Z A] 102) rb ow c rs s k q (bJ s.a) (if fA=0 then s.a++[y] else s.a)):=λdd=>by
    have hbd:B C.1.size C (C.drewN dd):=kT (aj _ C) dd;have Dd:ek (C.drewN dd) rb ow c rs s k q (bJ s.a) p:=T.o.o hbd;have hrbw:rb<w.1.size:=(by obtain⟨_,h⟩:=HH.o.a;exact h.r);have hlim:∀b,ow b≠0->b<w.1.size:=(by obtain⟨_,h⟩:=HH.o.a;exact h.d);have hl0:=HF.o.a.d;have hall:s.a.length<=100000:=by unfold ay.m at a4;omega
    have hadd:=Ow y ⟨_,Dd.v⟩ om HF.o.a.e HF.o.a.g hnow hall (λb hb=>by
     rcases hb with rfl|hb
     ·exact Dd.r
     ·exact Dd.d b (by rw[hb];decide)) (by rw[hy];show A.size<=_;unfold maxLen;omega)
    rw[<-hfA]at hadd;rw[hy]at hadd;simp only at hadd;refine hadd.m ?_;rintro e w' ⟨rfl,hrf,hkp⟩;rw[<-hy]at hrf
    have hE:aC c { s with a:=if fA=0 then s.a++[y] else s.a,b:=s.b } k=aC c s k:=by
     by_cases h0:fA=0
     ·simp only[ak h0];refine Cg c s y k ?_;rw[h0]at hfA;rw[HKEQ.o];unfold ey at hfA;split at hfA
      ·split at hfA
       ·omega
       unfold ay.c;omega
      omega
     simp only[ag h0]
    obtain⟨v,hDa⟩:=Dd.y hrf hkp hE;refine⟨rfl,⟨⟨_,_,hDa,tO hkp (λb hb=>?_)⟩,?_⟩⟩
    ·rcases hb with rfl|hb
     ·rw[T.o.a];decide
     rw[hb];decide
    ·have hVs:w.1.size<C.1.size:=by have:=a3.o.size;omega
     rw[hkp.b w.1.size hVs (λhh=>by
      rcases hh with hh|hh
      ·omega
      ·have:=hlim w.1.size (by rw[hh];decide);omega)]
     exact a7.o C a3.o
   have x1:C.cell? ⟨w.1.size,1,J⟩=O (I Q L):=(by simp[World.cell?,a7.o C a3.o]);have x2:C.cell? ⟨w.1.size,2,J⟩=O (I Q F):=(by simp[World.cell?,a7.o C a3.o]);have HFA:H (fA=ey c.b c.e s.b y):=hfA;have HYG:H (y.a=A):=(by show _=_;rw[hy]);clear hy hfA a2 HDC
   -- TAIL
   have hbd:s.l<=20000:=(by unfold ay.m at a4;omega);have HAD4:H (∀V' all',uS (C.drewN 1) V' w.1.size (Δ #[I Q (a:Int),I Q L,I Q F,Z A] 102) rb ow c rs s k q (bJ s.a) all'->V'.cell? ⟨w.1.size,1,J⟩=O (I Q L)/\V'.cell? ⟨w.1.size,2,J⟩=O (I Q F)/\V'.cell? ⟨w.1.size,3,J⟩=O (Z A)/\V'.cell? ⟨rb,37,J⟩=O (I Q (s.b:Int))):=λV' all' h=>(by refine⟨by simp[World.cell?,h.b],by simp[World.cell?,h.b],by simp[World.cell?,h.b],?_⟩;obtain⟨p',a5,hd,_⟩:=h.a;exact hd.e om);by_cases h0:fA=0
   case neg=>
    have R:H (s.e c r ⟨(a:Int),L,F,A⟩={ s with l:=s.l+1 }):=(by show _=_;unfold ay.e;rw[ag HKN.o,ag (by simp only[ir];exact HP1.o),ag HNF.o,ak (by rw[HY.o,<-HFA.o];exact h0)]);rw[ag h0]at a1;have i1:(0:Int)<(fA:Int):=om;have i2:decide ((0:Int)<(fA:Int))=true:=(by simpa using i1);clear h0 HFA;cases kb with
   |true=>
     go_upto_region 13 with fail;go_region_held3 (λU=>U.cell? ⟨w.1.size,1,J⟩=O (I Q L)/\U.cell? ⟨w.1.size,2,J⟩=O (I Q F)/\U.cell? ⟨w.1.size,3,J⟩=O (Z A)/\U.cell? ⟨rb,37,J⟩=O (I Q (s.b:Int))) (go_keep) (first|(go_at_call 85;refine(a1.o 1).m ?_;rintro e E ⟨rfl,P⟩;obtain⟨t1,t2,t3,t4⟩:=HAD4.o _ _ P;have W:H (uS (C.drewN 1) E w.1.size (Δ #[I Q (a:Int),I Q L,I Q F,Z A] 102) rb ow c rs s k q (bJ s.a) (s.a)):=P;clear P))
     all_goals
      have c44:E.cell? ⟨rb,44,J⟩=O (I Q (s.l:Int)):=(by obtain⟨p',a5,hd,_⟩:=W.o.a;exact hd.e om);have f44:E.frozen? ⟨rb,44,J⟩=false:=(by obtain⟨p',a5,hd,_⟩:=W.o.a;exact hd.t 44);have G:H (iz w (E.setCell ⟨rb,44,J⟩ (I Q ((s.l:Int)+1))) rb ow c rs (s.e c r ⟨(a:Int),L,F,A⟩) k q):=(by rw[R.o];obtain⟨p',a5,hd,hwp⟩:=W.o.a;exact iz.b ((cD.e (kT HBW.o 1) ow).d hwp) (iz.a ⟨p',hd⟩ (λp j hj=>EH c s p (s.l+1) j hj) rfl));go_wp2;go_end0;exact⟨rfl,G.o⟩
   |false=>
     have hz4:=hz3 rfl;go_upto_region 13 with fail
     go_region_held3 (λU=>U.cell? ⟨w.1.size,1,J⟩=O (I Q L)/\U.cell? ⟨w.1.size,2,J⟩=O (I Q F)/\U.cell? ⟨w.1.size,3,J⟩=O (Z A)/\U.cell? ⟨rb,37,J⟩=O (I Q (s.b:Int))) (go_keep) (first|(go_at_call 85;refine(a1.o 1).m ?_;rintro e E ⟨rfl,P⟩;obtain⟨t1,t2,t3,t4⟩:=HAD4.o _ _ P;have W:H (uS (C.drewN 1) E w.1.size (Δ #[I Q (a:Int),I Q L,I Q F,Z A] 102) rb ow c rs s k q (bJ s.a) (s.a)):=P;clear P))
     all_goals
      have c44:E.cell? ⟨rb,44,J⟩=O (I Q (s.l:Int)):=(by obtain⟨p',a5,hd,_⟩:=W.o.a;exact hd.e om);have f44:E.frozen? ⟨rb,44,J⟩=false:=(by obtain⟨p',a5,hd,_⟩:=W.o.a;exact hd.t 44);have G:H (iz w (E.setCell ⟨rb,44,J⟩ (I Q ((s.l:Int)+1))) rb ow c rs (s.e c r ⟨(a:Int),L,F,A⟩) k q):=(by rw[R.o];obtain⟨p',a5,hd,hwp⟩:=W.o.a;exact iz.b ((cD.e (kT HBW.o 1) ow).d hwp) (iz.a ⟨p',hd⟩ (λp j hj=>EH c s p (s.l+1) j hj) rfl));go_wp2;go_end0;exact⟨rfl,G.o⟩
   have R:H (s.e c r ⟨(a:Int),L,F,A⟩={ s with a:=s.a++[y] }):=(by show _=_;unfold ay.e;rw[ag HKN.o,ag (by simp only[ir];exact HP1.o),ag HNF.o,ag (by rw[HY.o,<-HFA.o,h0];simp),HY.o]);rw[ak h0]at a1;subst h0;cases kb with
  |true=>
    have HKS:H (bJ (s.a++[y])=bJ s.a):=(by show _=_;rw[vG,HYG.o];unfold jY;rw[ak HKT.o.symm]);go_upto_region 13 with fail;go_region_held3 (λU=>U.cell? ⟨w.1.size,1,J⟩=O (I Q L)/\U.cell? ⟨w.1.size,2,J⟩=O (I Q F)/\U.cell? ⟨w.1.size,3,J⟩=O (Z A)/\U.cell? ⟨rb,37,J⟩=O (I Q (s.b:Int))) (go_keep) (first|(go_at_call 85;refine(a1.o 1).m ?_;rintro e E ⟨rfl,P⟩;obtain⟨t1,t2,t3,t4⟩:=HAD4.o _ _ P;have W:H (uS (C.drewN 1) E w.1.size (Δ #[I Q (a:Int),I Q L,I Q F,Z A] 102) rb ow c rs s k q (bJ s.a) (s.a++[y])):=P;clear P))
    all_goals
     have G:H (iz w E rb ow c rs (s.e c r ⟨(a:Int),L,F,A⟩) k q):=(by rw[R.o];obtain⟨p',a5,hd,hwp⟩:=W.o.a;refine⟨a5,⟨p',?_⟩,(cD.e (kT HBW.o 1) ow).d hwp⟩;rw[HKS.o];exact hd);go_wp2;go_end0;exact⟨rfl,G.o⟩
  |false=>
    have hz4:=hz3 rfl;have HKS:H (bJ (s.a++[y])=bJ s.a++[A]):=(by show _=_;rw[vG,HYG.o];unfold jY;rw[ag (by rw[<-HKT.o];decide)]);go_upto_region 13 with fail;go_region_held3 (λU=>U.cell? ⟨w.1.size,1,J⟩=O (I Q L)/\U.cell? ⟨w.1.size,2,J⟩=O (I Q F)/\U.cell? ⟨w.1.size,3,J⟩=O (Z A)/\U.cell? ⟨rb,37,J⟩=O (I Q (s.b:Int))) (go_keep) (first|(go_at_call 85;refine(a1.o 1).m ?_;rintro e E ⟨rfl,P⟩;obtain⟨t1,t2,t3,t4⟩:=HAD4.o _ _ P;have W:H (uS (C.drewN 1) E w.1.size (Δ #[I Q (a:Int),I Q L,I Q F,Z A] 102) rb ow c rs s k q (bJ s.a) (s.a++[y])):=P;clear P))
    all_goals
     obtain⟨p3,o3,hd3,hw3⟩:=W.o.a;have HD3:=hid hd3;have HW3:H (cD w E ow o3):=(cD.e (kT HBW.o 1) ow).d hw3
     have hob3:o3 w.1.size=0:=by
      apply lX;intro hn;rcases HW3.o.g _ hn with h|h
      ·obtain⟨_,hh⟩:=HH.o.a;have:=hh.d _ h;omega
      have h2:(C.drewN 1).1.size<=w.1.size:=by
       rcases hw3.g _ hn with h'|h'
       ·obtain⟨_,hh⟩:=HH.o.a;have:=hh.d _ h';omega
       exact h'
      have h3:C.1.size<=w.1.size:=h2;have:=a3.o.size;omega
     have HOB:H (o3 w.1.size=0):=hob3;have hrl:=hd3.r;have hbl:w.1.size<E.1.size:=(by have h1:=hw3.a.c;have h2:C.1.size<=E.1.size:=h1;have:=a3.o.size;omega);have HU:H (B E.1.size E (E.alloc (Δ #[Z A] 9)).drew):=((aj _ E).l nl _).drew;have a6:E.drew.cell? ⟨w.1.size,3,J⟩=O (Z A):=t3;have hS1:(E.alloc (Δ #[Z A] 9)).drew.cell? ⟨w.1.size,3,J⟩=O (Z A):=(HU.o.cell hbl).trans t3;have HROW:H ((E.alloc (Δ #[Z A] 9)).drew.ownsRow 0 9 1 p3.b (bJ s.a).length ((bJ s.a).map Z)):=aS hd3.i (λb hb=>HU.o.block b (aU hd3.i hb));have l40:E.cell? ⟨rb,40,J⟩=O p3.b:=hd3.e om;have l0:=l40;have l1:=(HU.o.cell hrl).trans l40
     have HNEW:H (∀j u,([Z A]:List Value)[j]?=O u->(E.alloc (Δ #[Z A] 9)).drew.cell? ((⟨E.1.size,0,J⟩:Addr).add j)=O u):=by
      intro j u hj;rw[dD];show (E.alloc _).cell? _=_
      match j,hj with
     |0,hj=>simp at hj;subst hj;simp
     have HML:H ((bJ s.a).length+1<=maxLen):=(by show _<=_;have:=HF.o.b;unfold maxLen;omega);have HBY:H (((bJ s.a).length+1)*16<=140737488355328):=by show _<=_;have:=HF.o.b;omega
     have HOLD:H (∀V,(E.alloc (Δ #[Z A] 9)).drew.grownBy V p3.b.ownBlock->∀b,b=rb\/b=w.1.size->V.1[b]?=(E.alloc (Δ #[Z A] 9)).drew.1[b]?):=by
      intro V hV b hb;refine hV.block b ?_ (λe=>?_)
      ·have:=HU.o.size;rcases hb with rfl|rfl<;>omega
      have h4:=HD3.o.f b e.symm;rcases hb with rfl|rfl
      ·rw[HD3.o.a]at h4;omega
      rw[HOB.o]at h4;omega
     have HUR:=hid ((HU.o.block rb hrl).trans hd3.m);obtain⟨i0,hi,hz0,hz1,hz2⟩:=eb SM;go_upto_region 16 with fail
     refine fG (S:=λV=>V.cell? ⟨w.1.size,3,J⟩=O (Z A)) kr a6 (λ_=>?_);refine ar 0 114 (Y (O ⟨rb,0,J⟩)) a6 ?_;refine ar 1 115 (Y (O ⟨rb,0,J⟩)) a6 ?_;refine ar 2 116 (Y (O ⟨rb,0,J⟩)) a6 ?_;refine ar 3 117 (Y (O ⟨rb,40,J⟩)) a6 ?_;refine ar 5 119 (Y (O ⟨w.1.size,3,J⟩)) a6 ?_;refine aF 6 120 (Z A) rfl rfl kr (λ_ _ _ h=>h) (af ⟨by rfl,λwx hS=>by (try dsimp only at hS);go_simp⟩) a6 ?_;simp only[Act.put,az,aA,aB];refine a9 (rs:=[4,7]) kr sm ?_;refine aQ rfl (λK hK=>?_) (aQ rfl (λK hK=>?_) aZ)
     ·go_simp;refine hK.out _ _ a6 (λ_=>?_);refine a9 (rs:=[7]) kr sm ?_;refine aQ rfl (λK hK=>?_) aZ;go_simp;refine hK.out _ _ hS1 (λ_=>?_);refine a9 (rs:=[8]) kr sm ?_;refine aQ rfl (λK hK=>?_) aZ;refine iX _ (by rfl) (.tmp 118) (.tmp 121) 22 (by rfl) 0 9 i0 (Z ⟨#[]⟩) 1 16 underlying22 hi hz0 hz1 hz2 rfl om p3.b (bJ s.a).length ((bJ s.a).map Z) (by rfl) HROW.o ⟨E.1.size,0,J⟩ 1 1 [Z A] (by rfl) rfl HNEW.o (λu hu=>by simp at hu;subst hu;rfl) om HML.o HBY.o (aX _) _ rfl ?_;intro g cap V hown D hat hlt;have hvk:∀a:Addr,a.block=rb\/a.block=w.1.size->V.cell? a=(E.alloc (Δ #[Z A] 9)).drew.cell? a:=λa ha=>bW (HOLD.o V D a.block ha);have a0:=(hvk _ (ah rfl)).trans hS1;have hVR:=(HOLD.o V D rb (af rfl)).trans HUR.o;have hVf:V.frozen? ⟨rb,40,J⟩=false:=(by simp[World.frozen?,hVR]);have hV40:=(hvk _ (af rfl)).trans l1;have HVR:=hid hVR;refine hK.out _ _ a0 (λ_=>?_);change wpAnyH _ _ _ _ _ _ _ (Act.put _ (O 122) _) _;simp only[Act.put,az,aA,aB];refine ar 9 123 (Y (O ⟨rb,0,J⟩)) a0 ?_;refine ar 10 124 (Y (O ⟨rb,40,J⟩)) a0 ?_;refine a9 (rs:=[11]) kr sm ?_;refine aQ rfl (λK hK=>?_) aZ;go_simp;have hS4:(V.setCell ⟨rb,40,J⟩ (M (O ⟨g,0,J⟩) ((bJ s.a).length+1) cap)).cell? ⟨w.1.size,3,J⟩=O (Z A):=(by have hn2:w.1.size≠rb:=λe=>(by have h1:=HD3.o.a;rw[<-e,HOB.o]at h1;omega);rw[bW (w:=V) (bN _ _ _ _ hn2)];exact a0);refine hK.out _ _ hS4 (λ_=>?_);refine ea kr ?_ _;have G:H (iz w (V.setCell ⟨rb,40,J⟩ (M (O ⟨g,0,J⟩) ((bJ s.a).length+1) cap)) rb ow c rs (s.e c r ⟨(a:Int),L,F,A⟩) k q):=(by rw[R.o];exact iz.b HW3.o (DM HD3.o HU.o hown D hat HVR.o HKS.o));go_wp2;go_end0;exact⟨rfl,G.o⟩
     go_simp;refine hK.out _ _ hS1 (λ_=>?_);refine a9 (rs:=[4]) kr sm ?_;refine aQ rfl (λK hK=>?_) aZ;go_simp;refine hK.out _ _ hS1 (λ_=>?_);refine a9 (rs:=[8]) kr sm ?_;refine aQ rfl (λK hK=>?_) aZ;refine iX _ (by rfl) (.tmp 118) (.tmp 121) 22 (by rfl) 0 9 i0 (Z ⟨#[]⟩) 1 16 underlying22 hi hz0 hz1 hz2 rfl om p3.b (bJ s.a).length ((bJ s.a).map Z) (by rfl) HROW.o ⟨E.1.size,0,J⟩ 1 1 [Z A] (by rfl) rfl HNEW.o (λu hu=>by simp at hu;subst hu;rfl) om HML.o HBY.o (aX _) _ rfl ?_;intro g cap V hown D hat hlt;have hvk:∀a:Addr,a.block=rb\/a.block=w.1.size->V.cell? a=(E.alloc (Δ #[Z A] 9)).drew.cell? a:=λa ha=>bW (HOLD.o V D a.block ha);have a0:=(hvk _ (ah rfl)).trans hS1;have hVR:=(HOLD.o V D rb (af rfl)).trans HUR.o;have hVf:V.frozen? ⟨rb,40,J⟩=false:=(by simp[World.frozen?,hVR]);have hV40:=(hvk _ (af rfl)).trans l1;have HVR:=hid hVR;refine hK.out _ _ a0 (λ_=>?_);change wpAnyH _ _ _ _ _ _ _ (Act.put _ (O 122) _) _;simp only[Act.put,az,aA,aB];refine ar 9 123 (Y (O ⟨rb,0,J⟩)) a0 ?_;refine ar 10 124 (Y (O ⟨rb,40,J⟩)) a0 ?_;refine a9 (rs:=[11]) kr sm ?_;refine aQ rfl (λK hK=>?_) aZ;go_simp;have hS4:(V.setCell ⟨rb,40,J⟩ (M (O ⟨g,0,J⟩) ((bJ s.a).length+1) cap)).cell? ⟨w.1.size,3,J⟩=O (Z A):=(by have hn2:w.1.size≠rb:=λe=>(by have h1:=HD3.o.a;rw[<-e,HOB.o]at h1;omega);rw[bW (w:=V) (bN _ _ _ _ hn2)];exact a0);refine hK.out _ _ hS4 (λ_=>?_);refine ea kr ?_ _;have G:H (iz w (V.setCell ⟨rb,40,J⟩ (M (O ⟨g,0,J⟩) ((bJ s.a).length+1) cap)) rb ow c rs (s.e c r ⟨(a:Int),L,F,A⟩) k q):=(by rw[R.o];exact iz.b HW3.o (DM HD3.o HU.o hown D hat HVR.o HKS.o));clear hown D hat hlt hvk a0 hS4 hVf hV40 HVR;go_wp2;go_end0;exact⟨rfl,G.o⟩
  have hII:(j:Int)<z:=om;have hj':j<K.length:=(by rw[<-HNK.o];exact hlt);have hkj:=bc hj';obtain⟨gb,rfl,hgc⟩:=HKC.o j _ hkj;generalize K[j]=y at *;have HTK:H (gY (K.take (j+1)) A=(gY (K.take j) A||decide (y=A))):=L7 hkj;clear hkj hj' epl eb0;cases kb with
 |true=>
   go_wp2;go_quiet (fail);go_wp2;go_roundw
   case rel=>exact⟨j+1,_,true,om,by go_num,rfl,by rw[HTK.o,<-HKB.o];rfl,rfl⟩
   simp[intOf];omega
 |false=>
   by_cases hy:y=A
   ·have hyb:(y.toList == A.toList)=true:=pd hy;go_wp2;go_quiet (fail);go_wp2;go_roundw
    case rel=>exact⟨j+1,_,true,om,by go_num,rfl,by rw[HTK.o,<-HKB.o,decide_eq_true hy];rfl,rfl⟩
    simp[intOf];omega
   have hyb:(y.toList == A.toList)=false:=o9 hy;go_wp2;go_quiet (fail);go_wp2;go_roundw
   case rel=>exact⟨j+1,_,false,om,by go_num,rfl,by rw[HTK.o,<-HKB.o,decide_eq_false hy];rfl,rfl⟩
   simp[intOf];omega
end
end
section
open Go.RowKit Go.Maps
theorem EK(c:aE)(r:Nat)(s:ay)(x:dr):(s.e c r x).d=s.d+1:=by obtain⟨a,b,_⟩:=xd c r s x;unfold ay.d;rw[Es,a,b];omega
theorem dH.l{c:aE}{s:ay}(h:dH c s)(k:s.d+1<=20000)(r:Nat)(x:dr):dH c (s.e c r x):=by
 have g:=EK c r s x;refine⟨h.a,by rw[(xd c r s x).2.2.1];exact h.e,?_,?_,by rw[g];exact k⟩
 ·unfold ay.e;split
  ·exact h.b
  split
  ·exact h.b
  split
  ·exact h.b
  rename_i hnf;split
  ·exact h.b
  show (bJ (s.a++[qA c r s x])).length<=12;rw[vG];have:=h.b;unfold jY;split
  ·exact this
  rename_i hn;rw[bU,List.length_singleton]
  have m:gY (bJ s.a) x.c=false:=by
   cases i:gY (bJ s.a) x.c with
  |false=>rfl
  |true=>exact absurd i hn
  have:¬12<=(bJ s.a).length:=λi=>hnf ⟨m,i⟩;omega
 rw[(xd c r s x).2.2.1];unfold ay.e;split
 ·exact h.d
 rename_i hk;split
 ·exact h.d
 split
 ·exact h.d
 split
 ·exact h.d
 rename_i hadd;intro y f;rcases dP.1 f with f|f
 ·exact h.d y f
 simp only[pP]at f;subst f;have j:ey c.b c.e s.b (qA c r s x)=0:=(by apply lX;exact hadd);refine⟨?_,?_⟩
 ·unfold ey at j;split at j
  ·assumption
  omega
 show 0<aD x.c;omega
theorem dH.i{c:aE}{s:ay}(h:dH c s)(r:Nat)(f:bf):dH c (s.s r f):=by
 unfold ay.s;split
 ·exact⟨h.a,h.e,h.b,h.d,h.f⟩
 exact h
theorem dH.h{c:aE}(r:Nat):∀(l:List dr){s:ay},dH c s->s.d+l.length<=20000->dH c (l.foldl (ay.e c r) s)
 |[],_,h,_=>h
 |x::l,s,h,hu=>by rw[eF]at hu;exact dH.h r l (h.l om r x) (by rw[EK];omega)
theorem EI(r:Nat)(s:ay)(f:bf):(s.s r f).d=s.d:=by unfold ay.s;split<;>rfl
theorem dH.j{c:aE}{s:ay}(h:dH c s)(r:Nat)(f:bf)(b:s.d+f.a.length<=20000):dH c (s.i c r f):=
 dH.h r f.a (h.i r f) (by rw[EI];exact b)
theorem dH.g{c:aE}(r:Nat):∀(fs:List bf){s:ay},dH c s->s.d+iN fs<=20000->dH c (fs.foldl (ay.i c r) s)
 |[],_,h,_=>h
 |f::fs,s,h,hu=>by
  have e:iN (f::fs)=f.a.length+iN fs:=by simp[iN]
  rw[e]at hu;have b:(s.i c r f).d=s.d+f.a.length:=by have:=oe c r [f] s;simpa [iN] using this
  exact dH.g r fs (h.j r f om) (by rw[b];omega)
theorem OD(c:aE)(s:ay)(p:ib){r:Nat}(o:r<4)(R:List UInt8)(n:Nat)(j:Nat)(m:j<46):dS c (s.j r R n) p j=if j=23+r*2+1 then I Q (n:Int) else if j=23+r*2 then Z (aM R) else dS c s p j:=by
 by_cases d:j<35
 ·by_cases l:j<23
  ·rw[ag om,ag om];unfold dS;by_cases a:j<22
   ·rw[ak a,ak a]
   rw[ag a,ag a,ak d,ak d,ak (show j=22 by omega),ak (show j=22 by omega)]
  by_cases b:j<31
  ·have e:∀s:ay,dS c s p j=if (j-23)%2=0 then Z (aM (s.f ((j-23)/2))) else I Q (s.g ((j-23)/2):Int):=λs=>by unfold dS;rw[ag (show ¬j<22 by omega),ak d,ag (show ¬j=22 by omega),ak b]
   rw[e,e];unfold ay.j fT;by_cases k:(j-23)%2=0
   ·rw[ak k,ak k,ag om];by_cases i:(j-23)/2=r
    ·rw[ak (show j=23+r*2 by omega)];simp only;rw[ak i]
    rw[ag (show ¬j=23+r*2 by omega)];simp only;rw[ag i]
   rw[ag k,ag k];by_cases i:(j-23)/2=r
   ·rw[ak (show j=23+r*2+1 by omega)];simp only;rw[ak i]
   rw[ag (show ¬j=23+r*2+1 by omega),ag (show ¬j=23+r*2 by omega)];simp only;rw[ag i]
  rw[ag om,ag om,xZ c _ p b d,xZ c s p b d];rfl
 rw[ag om,ag om];rcases sr d m with h|h|h|h|h|h|h|h|h|h|h<;>subst h<;>rfl
def yh(c:aE)(s:ay)(p:ib)(r:Nat)(hr:r<4):qH:=⟨23+r*2,eZ c s p,53,by rw[pm];omega⟩
theorem EJ(c:aE)(s:ay)(p:ib)(r:Nat)(i:r<4)(R:List UInt8)(n:Nat):(yh c s p r i).b (aM R) n=Δ (eZ c (s.j r R n) p) 53:=by
 unfold qH.b yh;simp only
 have e:((eZ c s p).setIfInBounds (23+r*2) (Z (aM R))).setIfInBounds (23+r*2+1) (I Q (n:Int))=eZ c (s.j r R n) p:=by
  apply pQ;intro j;rw[oP,oP,Array.size_setIfInBounds,pm];by_cases f:j<46
  ·rw[sH c (s.j r R n) p f,sH c s p f,OD c s p i R n j f];by_cases g:j=23+r*2+1
   ·subst g;simp[f]
   have d:¬23+r*2+1=j:=λe=>g e.symm;rw[ag d,ag g];by_cases h:j=23+r*2
   ·subst h;simp[f]
   have a:¬23+r*2=j:=λe=>h e.symm;rw[ag a,ag h]
  have k:(eZ c (s.j r R n) p)[j]?=J:=j8 (by rw[pm];omega);have l:(eZ c s p)[j]?=J:=j8 (by rw[pm];omega);rw[k,l];have d:¬23+r*2+1=j:=om;have a:¬23+r*2=j:=om;simp[d,a]
 rw[e]
theorem OE{w:Ω}{rb:Nat}{c:aE}{s:ay}{p:ib}(r:Nat)(a:r<4)(b:w.1[rb]?=O (Δ (eZ c s p) 53)):dK w rb (yh c s p r a) (aM (s.f r)) (s.g r):=⟨by rw[EJ,DH];exact b⟩
section
variable {w w' w0:Ω}{rb:Nat}{ow:Nat->Nat}{c:aE}{rs:List aq}{s s':ay}{k q:Nat}{L:List ByteArray}{p:ib}
theorem Im(r:Int)(b:ByteArray)(h:¬(0<=r/\r<=3)):
  Φ prog 31 #[Y (O ⟨rb,0,J⟩),I Q r,Z b] w λe c=>e=N (Ψ #[I Q 0,I Q 1])/\c=w:=by
 by_cases a:r<0
 ·have d:decide (r<0)=true:=by simpa using a
  go_enter func31,ntmps31;go_wp2;go_ret2;exact⟨rfl,rfl⟩
 have d:decide (r<0)=false:=by simpa using a
 have f:(3:Int)<r:=om;have g:decide ((3:Int)<r)=true:=by simpa using f
 go_enter func31,ntmps31;go_wp2;go_ret2;exact⟨rfl,rfl⟩
theorem Ky(r:Nat)(b:ByteArray)(g:r<4)(h:2000<b.size)(i:b.size<=9223372036854775807):
  Φ prog 31 #[Y (O ⟨rb,0,J⟩),I Q (r:Int),Z b] w λe a=>e=N (Ψ #[I Q 0,I Q 2])/\a=w:=by
 have c:(2000:Int)<b.size:=om;have d:¬(r:Int)<0:=om;have f:¬(3:Int)<r:=om;go_enter func31,ntmps31;go_wp2;go_ret2;exact⟨rfl,rfl⟩
theorem OF(r:Nat)(b:ByteArray)(h:dF w rb ow c rs s k q)(hf:dH c s)(hk:k=s.c c)(hr:r<4)(hb:b.size<=2000)(hu:s.d+b.size<=20000):
  Φ prog 31 #[Y (O ⟨rb,0,J⟩),I Q (r:Int),Z b] w λe w'=>e=N (Ψ #[I Q ((aW (s.f r++b.1.toList)).1.length:Int),I Q 0])/\iz w w' rb ow c rs (s.r c r b.1.toList) k q:=by
 have hrI:(r:Int)<4:=om;have hr0:¬(r:Int)<0:=om;have hr3:¬(3:Int)<r:=om;have hI:¬(2000:Int)<b.size:=om;obtain⟨p,hp⟩:=h.a;have hlr:=aP (Et hr) hf.f;have K:b.1.toList.length=b.size:=by simp
 have HFS:=Ag c r s b.1.toList hr;rw[K]at HFS;have hFS:(s.r c r b.1.toList).d<=20000:=om;obtain⟨A,n,R,hfd⟩:∃A n R,aW (s.f r++b.1.toList)=(A,n,R):=⟨_,_,_,rfl⟩;have hok:=xu (s.f r++b.1.toList);have hfe:s.r c r b.1.toList=A.foldl (ay.i c r) (s.j r R (s.g r+n)):=by unfold ay.r;rw[hfd]
 have a4:=zD (s.f r++b.1.toList);rw[hfd]at hok a4⊢;simp only at hok a4⊢;rw[hfe]at hFS⊢;rw[bU,K]at a4;have HOK:=hid hok;have a3:=hid hFS
 have HFC:H (Φ prog 51 #[Y (O ⟨rb,23+r*2,J⟩),Z b] w λe w'=>∃v,e=N v/\gu w' w.1.size w.1.size v A/\w'.1[rb]?=O (Δ (eZ c (s.j r R (s.g r+n)) p) 53)/\f7 w.1.size rb w w'):=by
  have hsl:(aM (s.f r)).size=(s.f r).length:=by simp[aM,ByteArray.size]
  have hsd:(aM (s.f r)).1.toList=s.f r:=by simp[aM]
  refine(IS (L:=yh c s p r hr) rb (aM (s.f r)) b (s.g r) w (OE r hr hp.m) (by rw[hsl];omega) om).m ?_;rintro e w' ⟨v,rfl,h1,h2,h3⟩;rw[hsd,hfd]at h1 h2;refine⟨v,rfl,h1,?_,h3⟩;rw[h2.a,EJ]
 have HH:=hid hp;have HK:=hid hk;have HF:=hid hf;obtain⟨l,hN⟩:∃l,l=A.length:=⟨_,rfl⟩;have HN:=hid hN;rw[<-hN]at a4⊢;have hN9:l<=100000:=om;have hLS:(s.j r R (s.g r+n)).d<=20000:=by have:=oe c r A (s.j r R (s.g r+n));omega
 obtain⟨E,a1⟩:∃E,E=s.j r R (s.g r+n):=⟨_,rfl⟩;have HS1:H (E=s.j r R (s.g r+n)):=a1;have HF1:H (dH c E):=by rw[a1];exact⟨hf.a,hf.e,hf.b,hf.d,hLS⟩
 rw[<-a1];rw[<-a1]at a3 HFC hLS;clear h hp hk hfd hok hfe hFS HFS K hN a4 hu hlr a1 hf hLS;go_enter func31,ntmps31;go_wp2_with fail;refine ac HFC.o ?_;rintro e W ⟨v,rfl,hfo,hblk,C⟩;have hlm:=HH.o.d;have h1:=ek.x HH.o C.a (λb hb _ U=>C.c b hb U) hblk (by rw[HS1.o];rfl) (xU (by rw[HS1.o];rfl) k);have hwp:cD w W ow ow:=⟨⟨C.d,C.g,C.e,C.a,λb hb hn=>C.c b hb (λe=>hn (by rw[e,HH.o.a];decide))⟩,λ_ h=>af h⟩;have H1:H (dF W rb ow c rs E k q):=⟨p,by rw[show bJ E.a=bJ s.a by rw[HS1.o];rfl];exact h1⟩;have HWP1:=hid hwp;obtain⟨ps,hpl,hrow,hrd⟩:=hfo.c;have HPL:=hid hpl;have HROW:=hid hrow;have HRD:=hid hrd
 obtain⟨fq,cp,hv⟩:∃fq cp,v=M fq l cp:=by
  rw[HN.o];rcases hrow.2 with ⟨rfl,h0⟩|⟨g,cap,cur,hv,_⟩
  ·exact⟨J,0,by rw[h0]⟩
  exact⟨_,_,hv⟩
 have HLM:=hid hlm;subst hv;go_wp2;go_loopw [9,10] (λi _ V=>∃(j:Nat) (D:Nat->Nat),j<=l/\i=I Q (j:Int)/\dF V rb D c rs ((A.take j).foldl (ay.i c r) E) k q/\cD W V ow D) (λi _ _=>l-(intOf i).toNat)
 case atStart=>exact⟨0,ow,aX _,rfl,H1.o,cD.f _ _⟩
 obtain⟨j,D,hj,rfl,hw,hwp⟩:=hrel;have HW:=hid hw;have HWP:=hid hwp;by_cases hlt:j<l
 case neg=>obtain rfl:j=l:=om;have hII:¬(j:Int)<j:=om;have HFI:H (iz w wr rb ow c rs (A.foldl (ay.i c r) E) k q):=⟨D,by have:=HW.o;rw[HN.o,eL]at this;exact this,HWP1.o.d HWP.o⟩;go_wp2;go_ret2;exact⟨rfl,HFI.o⟩
 have hII:(j:Int)<l:=om;have hj':j<A.length:=(by rw[<-HN.o];exact hlt);have hjp:j<ps.length:=(by rw[HPL.o];exact hj');have hfj:=bc hj';have hpj:=bc hjp;obtain⟨hon,hblk⟩:=HRD.o j _ _ hfj hpj;obtain⟨g,cp',hq,hg1,hg2⟩:=HROW.o.form om;obtain⟨rfl,hcp⟩:fq=O ⟨g,0,J⟩/\True:=(by simp at hq;exact⟨hq.1,aN⟩);have hcl:∀i u,i<3->(kX A[j] ps[j])[i]?=O u->W.cell? ⟨g,j*3+i,J⟩=O u:=λi u hi hu=>(by have:=HROW.o.cells (g:=g) rfl (j*3+i) u (by rw[wF A ps j i _ _ hfj hpj hi];exact hu);rw[dD]at this;exact this);have hog:ow g=0:=(by apply lX;intro hn;have:=HLM.o g hn;omega);have P:H (∀V (F:Nat->Nat),cD W V ow F->V.cell? ⟨g,j*3,J⟩=O (I Q A[j].b)/\V.cell? ⟨g,j*3+1,J⟩=O (M ps[j].1 A[j].a.length ps[j].2)/\V.cell? ⟨g,j*3+1+1,J⟩=O (I Q A[j].c)):=λV F hV=>(by have hgk:=hV.a.b g hg2 (λe=>e hog);exact⟨by rw[bW (w:=W) hgk];exact hcl 0 _ om rfl,by rw[bW (w:=W) hgk];exact hcl 1 _ om rfl,by rw[bW (w:=W) hgk];exact hcl 2 _ om rfl⟩);have hfok:=HOK.o _ (eG hj');have HTK:=hid (iA hj');have a2:H (∀V (F:Nat->Nat),cD W V ow F->A[j].a≠[]->∃b o,ps[j].1=O ⟨b,o,J⟩/\∀m x,A[j].a[m]?=O x->xY V b (o+m*4) x):=λV F hV U=>(by obtain⟨b,o,h1,h2,_⟩:=hblk U;obtain⟨b',o',h3,h4,h5⟩:=hon.c U;rw[h1]at h3;simp at h3;obtain⟨rfl,rfl⟩:=h3;refine⟨b,o,h1,λm x hx=>(h5 m x hx).a (hV.a.b b h4 (λe=>?_))⟩;have:=HLM.o b e;omega);generalize A[j]=f at *;generalize ps[j]=pc at *;obtain⟨pp,pcap⟩:=pc;simp only at P a2;obtain⟨S,hS⟩:∃S,S=(A.take j).foldl (ay.i c r) E:=⟨_,rfl⟩;have HS:H ((A.take (j+1)).foldl (ay.i c r) E=S.i c r f):=(by show _=_;rw[HTK.o,qX,hS];rfl);rw[<-hS]at HW;have a0:S.d+f.a.length<=20000:=(by have e1:=oe c r (A.take (j+1)) E;rw[HS.o]at e1;have e2:(S.i c r f).d=S.d+f.a.length:=(by have:=oe c r [f] S;simpa [iN] using this);have e3:=zN A (j+1);have e4:=oe c r A E;have e5:=a3.o;omega);have HSF:H (dH c S):=(by rw[hS];refine dH.g r _ HF1.o ?_;have e3:=zN A j;have e4:=oe c r A E;have e5:=a3.o;omega);have hcl2:k=S.c c:=(by rw[HK.o];unfold ay.c;rw[hS,(q8 c r (A.take j) E).2.2,HS1.o];rfl);have HCL2:=hid hcl2;have HFOK:=hid hfok;obtain⟨k0,k1,k2⟩:=P.o wr D HWP.o;obtain⟨T,y,G⟩:=f;simp only at k0 k1 k2 a0 P a2;obtain⟨fn,hfn⟩:∃fn,fn=y.length:=⟨_,rfl⟩;have HFN:=hid hfn;rw[<-hfn]at a0 k1 P;have hfn4:fn<=100000:=om;clear hfn;go_upto_region 9 with fail
 by_cases h3:T=3
 case pos=>
  have hty:(T == 3)=true:=(by simpa using h3);have hfr:y=[]:=HFOK.o.b (by show T≠1;omega);have hf0:fn=0:=(by rw[HFN.o,hfr];rfl);have cw:∃z,wr.cell? ⟨rb,31+r,J⟩=O z:=(by obtain⟨p2,hd⟩:=HW.o.a;exact⟨_,hd.e om⟩);obtain⟨z,cw⟩:=cw;have fw:wr.frozen? ⟨rb,31+r,J⟩=false:=(by obtain⟨p2,hd⟩:=HW.o.a;exact hd.t _);have HM:H (∀V:Ω,V.1=wr.1->V.os=wr.os->V.tape=wr.tape->V.output=wr.output->∃F,dF (V.setCell ⟨rb,31+r,J⟩ (I Q G)) rb F c rs (S.i c r ⟨T,y,G⟩) k q/\cD W (V.setCell ⟨rb,31+r,J⟩ (I Q G)) ow F):=λV e1 e2 e3 e4=>(by have hbV:B wr.1.size wr V:=⟨e2,e3,e4,by rw[e1];exact aa _,λb _=>by rw[e1]⟩;have he:S.i c r ⟨T,y,G⟩={ S with q:=fT S.q r G }:=(by unfold ay.i ay.s;simp only;rw[ak h3,hfr];rfl);rw[he];have hto:=iz.b (HWP.o.d (cD.e hbV D)) (iz.a (s':={ S with q:=fT S.q r G }) (i:=31+r) (v:=I Q G) (HW.o.b hbV) (λp j hj=>OA c S p hr G j hj) rfl);obtain⟨F,h1,h2⟩:=hto.d;exact⟨F,h1,h2⟩);subst hf0;go_wp2;go_region
  all_goals
   go_wp2;go_loopw [10] (λi V=>i=I Q 0/\∃F,dF V rb F c rs (S.i c r ⟨T,y,G⟩) k q/\cD W V ow F) (λ_ _=>0)
   case atStart=>exact⟨rfl,HM.o wr.drew rfl rfl rfl rfl⟩
   obtain⟨rfl,F,hd2,hw2⟩:=hrel;have HD2:=hid hd2;have HW2:=hid hw2;obtain⟨k0,k1,k2⟩:=P.o wr F hw2;go_wp2;go_roundw
   case rel=>exact⟨j+1,F,om,by go_num,by rw[HS.o];exact HD2.o,HW2.o⟩
   simp[intOf];omega
 have hty:(T == 3)=false:=(by simpa using h3);have HD2:H (dF wr rb D c rs (S.s r ⟨T,y,G⟩) k q):=(by unfold ay.s;simp only;rw[ag h3];exact HW.o);have HW2:=hid HWP.o;have hhs:(S.s r ⟨T,y,G⟩).d=S.d:=EI r S _;have HSF2:H (dH c (S.s r ⟨T,y,G⟩)):=HSF.o.i r _;have HCL3:H (k=(S.s r ⟨T,y,G⟩).c c):=by show _=_;rw[HCL2.o];unfold ay.s ay.c;split<;>rfl
 have HS2:H ((A.take (j+1)).foldl (ay.i c r) E=y.foldl (ay.e c r) (S.s r ⟨T,y,G⟩)):=HS.o;generalize S.s r ⟨T,y,G⟩=S2 at *;rw[<-hhs]at a0;go_wp2;go_loopw [10] (λi V=>∃(m:Nat) (o3:Nat->Nat),m<=fn/\i=I Q (m:Int)/\dF V rb o3 c rs ((y.take m).foldl (ay.e c r) S2) k q/\cD W V ow o3) (λi _=>fn-(intOf i).toNat)
 case atStart=>exact⟨0,D,aX _,rfl,HD2.o,HW2.o⟩
 obtain⟨m,o3,hm,rfl,hd3,hw3⟩:=hrel;have HD3:=hid hd3;have HW3:=hid hw3;obtain⟨k0,k1,k2⟩:=P.o wr o3 hw3;by_cases hml:m<fn
 case neg=>
  obtain rfl:m=fn:=om;have hMI:¬(m:Int)<m:=om;have HNX:H (dF wr rb o3 c rs ((A.take (j+1)).foldl (ay.i c r) E) k q):=(by have:=HD3.o;rw[HFN.o,eL]at this;rw[HS2.o];exact this);go_wp2;go_roundw
  case rel=>exact⟨j+1,o3,om,by go_num,HNX.o,HW3.o⟩
  simp[intOf];omega
 have hMI:(m:Int)<fn:=om;have X:m<y.length:=(by rw[<-HFN.o];exact hml);have U:y≠[]:=λe=>(by rw[e]at X;simp at X);obtain⟨rb2,ro,rfl,hrc⟩:=a2.o wr o3 HW3.o U;obtain⟨x0,x1,x2,x3⟩:=hrc m _ (bc X);have hx:=HFOK.o.a _ (eG X);have HTM:=hid (iA X);generalize y[m]=x at *;obtain⟨S3,hS3⟩:∃S3,S3=(y.take m).foldl (ay.e c r) S2:=⟨_,rfl⟩;have HS3:H ((y.take (m+1)).foldl (ay.e c r) S2=S3.e c r x):=(by show _=_;rw[HTM.o,qX,hS3];rfl);rw[<-hS3]at HD3;have hs3:S3.d=S2.d+m:=(by have e:=xe c r (y.take m) S2;obtain⟨e1,e2,_⟩:=rX c r (y.take m) S2;rw[<-hS3]at e e1 e2;have hl:(y.take m).length=m:=(by rw[fj];omega);unfold ay.d;rw[e,e1,e2,hl];omega);have hsf3:dH c S3:=(by rw[hS3];exact dH.h r _ HSF2.o (by rw[fj];omega));have hcl3:k=S3.c c:=(by rw[HCL3.o];unfold ay.c;rw[hS3,(rX c r (y.take m) S2).2.2.1]);obtain⟨xa,xs,xg,xt⟩:=x;simp only at x0 x1 x2 x3 hx;obtain⟨ha,hsx,hgx,htx⟩:=hx;have HRE:=hid (Mm ⟨xa,xs,xg,xt⟩ r HD3.o hsf3 hcl3 hr ha hsx hgx htx om);go_wp2_with fail;refine ac HRE.o ?_;rintro e w5 ⟨rfl,hto⟩;have HTO:=hid hto;go_wp2;go_roundw
 case rel=>obtain⟨o4,h1,h2⟩:=HTO.o.d;exact⟨m+1,o4,om,by go_num,by rw[HS3.o];exact h1,HW3.o.d h2⟩
 simp[intOf];omega
end
end
end Go.Proofs.YtlaodjjfmhipnaaGreatDoor
