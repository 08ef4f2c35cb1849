/-
  Part of it.
-/
import Derived.Test.YtlaodjjfmhipnaaGreatDoorSan
import Derived.Sort.KeysCollected
import Derived.Sort.OwnSorted
set_option maxRecDepth 100000
set_option maxHeartbeats 8000000
set_option linter.all false
namespace Go.Proofs.YtlaodjjfmhipnaaGreatDoor
open Go.Proofs.Tryz
open Value renaming int→I,string→Z,pointer→Y,slice→M,tuple→Ψ
open Ending renaming returned→N
open Obj renaming cells→Δ
open Go renaming World→Ω,Calls→Φ
open IntKind renaming i64→Q
open Option renaming some→O,none→J
open RowKit renaming Below→B,Hid→H
section
open Go.RowKit Go.Maps
theorem Gb:(prog.info? 156).map (λi=>(i.zero,i.size,i.bytes))=O (O (.agg #[I Q 0,I Q 0,I Q 0,Z ⟨#[]⟩]),4,40):=kr
theorem Gc:(prog.info? 122).map (λi=>(i.zero,i.size,i.bytes))=O (O (M J 0 0),1,24):=kr
theorem ED:∀(E:List (List ai)) (ps:List (Option Addr×Nat)) (l:List ai) (pc:Option Addr×Nat),ps.length=E.length->List.zipWith gM (E++[l]) (ps++[pc])=List.zipWith gM E ps++[gM l pc]
 |[],[],l,pc,_=>rfl
 |x::E,y::ps,l,pc,h=>by show gM x y::List.zipWith gM (E++[l]) (ps++[pc])=_;rw[ED E ps l pc (by simpa using h)];rfl
 |[],_::_,_,_,h=>by simp at h
 |_::_,[],_,_,h=>by simp at h
def rC(F:Nat->Prop)(w w':Ω):Nat->Prop:=λb=>F b\/(w.1.size<=b/\b<w'.1.size)
theorem EC{l:List ai}{u:Value}(h:u∈bL l):u.oneCell'=true:=by unfold bL at h;obtain⟨x,_,a⟩:=List.mem_flatMap.1 h;simp[jg]at a;rcases a with rfl|rfl|rfl|rfl<;>rfl
theorem Mk{w:Ω}{b o:Nat}{l:List ai}(n:∀k x,l[k]?=O x->mV w b (o+k*4) x):∀(j:Nat)(u:Value),(bL l)[j]?=O u->w.cell? ((⟨b,o,J⟩:Addr).add j)=O u:=by
 intro j u a;rw[Addr.add_mid]
 have s:j<l.length*4:=by
  rcases gQ j (bL l).length with h|h
  ·rw[qg]at h;exact h
  rw[iV h]at a;cases a
 have p:j/4<l.length:=om;have m:=bc p;have q:j%4<4:=Nat.mod_lt _ om;have i:j=j/4*4+j%4:=om;have g:=n _ _ m;rw[i,vz l (j/4) (j%4) _ m q]at a;have r:j%4=0\/j%4=1\/j%4=2\/j%4=3:=om;generalize j/4=k at *;generalize l[k]=x at *;rcases r with h|h|h|h<;>rw[h]at a i<;>simp[jg]at a<;>subst a<;>rw[i]
 ·exact g.d
 ·exact g.e
 ·exact g.f
 exact g.c
section
variable {w:Ω}{rb:Nat}{F:Nat->Prop}{W need q:Nat}{E:List (List ai)}
theorem GH{S V3:Ω}{fb m g cap:Nat}{v:Value}{Df:DataW Value}{ps:List (Option Addr×Nat)}{l:List ai}{pc:Option Addr×Nat}(d:jX w rb fb m v Df ps F W need q E)(D:B w.1.size w S)(hl1:cZ S pc.1 l)(hpb:l≠[]->∃b o,pc.1=O ⟨b,o,J⟩/\w.1.size<=b)
  (G:V3.ownsRow 0 122 1 (M (O ⟨g,0,J⟩) (E.length+1) cap) (E.length+1) (List.zipWith gM E ps++[gM l pc]))(hg:S.grownBy V3 v.ownBlock)(K:v.ownBlock=O g\/g=S.1.size)(hlen:E.length+1<=1000)(hgl:nF l=true)(hok:l.all dm=true):
  aO (((V3.setCell ⟨rb,2,J⟩ (M (O ⟨g,0,J⟩) (E.length+1) cap)).setCell ⟨rb,3,J⟩ (.map (O V3.1.size))).alloc (.map #[] 0)) rb (rC F w (((V3.setCell ⟨rb,2,J⟩ (M (O ⟨g,0,J⟩) (E.length+1) cap)).setCell ⟨rb,3,J⟩ (.map (O V3.1.size))).alloc (.map #[] 0))) W need 0 (E++[l])/\ax F w (((V3.setCell ⟨rb,2,J⟩ (M (O ⟨g,0,J⟩) (E.length+1) cap)).setCell ⟨rb,3,J⟩ (.map (O V3.1.size))).alloc (.map #[] 0)):=by
 have hrb:=d.u;have hs2:=D.size;have hs3:=hg.size
 have hgr:g≠rb:=by
  rcases K with h|h
  ·exact(d.s h).1
  omega
 have X:=aU G rfl;have hsz6:(((V3.setCell ⟨rb,2,J⟩ (M (O ⟨g,0,J⟩) (E.length+1) cap)).setCell ⟨rb,3,J⟩ (.map (O V3.1.size))).alloc (.map #[] 0)).1.size=V3.1.size+1:=by simp[World.setCell,fi]
 have h6:∀b,b<V3.1.size->b≠rb->(((V3.setCell ⟨rb,2,J⟩ (M (O ⟨g,0,J⟩) (E.length+1) cap)).setCell ⟨rb,3,J⟩ (.map (O V3.1.size))).alloc (.map #[] 0)).1[b]?=V3.1[b]?:=λb y C=>by rw[cX _ _ _ (by simp[World.setCell];exact y),bN _ _ _ _ C,bN _ _ _ _ C]
 have hm6:(((V3.setCell ⟨rb,2,J⟩ (M (O ⟨g,0,J⟩) (E.length+1) cap)).setCell ⟨rb,3,J⟩ (.map (O V3.1.size))).alloc (.map #[] 0)).ownsMap prog 9 (plainElem prog 3) V3.1.size 0 (DataW.map []:DataW Value):=by
  have y:=oU (H:=Value) ((V3.setCell ⟨rb,2,J⟩ (M (O ⟨g,0,J⟩) (E.length+1) cap)).setCell ⟨rb,3,J⟩ (.map (O V3.1.size))) prog 9 (plainElem prog 3);have e:((V3.setCell ⟨rb,2,J⟩ (M (O ⟨g,0,J⟩) (E.length+1) cap)).setCell ⟨rb,3,J⟩ (.map (O V3.1.size))).1.size=V3.1.size:=by simp[World.setCell]
  rw[e]at y;exact y
 have a0:∀b,b<S.1.size->v.ownBlock≠O b->V3.1[b]?=S.1[b]?:=λb y C=>hg.block b y (λe=>C e.symm);have a1:V3.1[rb]?=O (Δ #[I Q (W:Int),I Q (need:Int),v,.map (O fb)] 42):=by rw[a0 rb om (λe=>(d.s e).1 rfl),D.block rb hrb];exact d.a
 generalize hV6:(((V3.setCell ⟨rb,2,J⟩ (M (O ⟨g,0,J⟩) (E.length+1) cap)).setCell ⟨rb,3,J⟩ (.map (O V3.1.size))).alloc (.map #[] 0))=V6 at *;constructor
 ·refine⟨V3.1.size,0,M (O ⟨g,0,J⟩) (E.length+1) cap,.map [],ps++[pc],?_⟩;refine⟨?_,by simp[d.f],?_,?_,hm6,aa _,λg e _=>af (λzd=>rfl),af d.h,ah ⟨om,om⟩,?_,?_,?_,?_⟩
  ·have y:(V3.setCell ⟨rb,2,J⟩ (M (O ⟨g,0,J⟩) (E.length+1) cap)).1[rb]?=O (Δ #[I Q (W:Int),I Q (need:Int),M (O ⟨g,0,J⟩) (E.length+1) cap,.map (O fb)] 42):=(by simp[World.setCell,dU,a1]);have C:((V3.setCell ⟨rb,2,J⟩ (M (O ⟨g,0,J⟩) (E.length+1) cap)).setCell ⟨rb,3,J⟩ (.map (O V3.1.size))).1[rb]?=O (Δ #[I Q (W:Int),I Q (need:Int),M (O ⟨g,0,J⟩) (E.length+1) cap,.map (O V3.1.size)] 42):=(by generalize (V3.setCell ⟨rb,2,J⟩ (M (O ⟨g,0,J⟩) (E.length+1) cap))=r at y;simp[World.setCell,dU,y]);rw[<-hV6,cX _ _ _ (by simp[World.setCell];omega)];exact C
  ·rw[ED E ps l pc d.f,bU];refine aS G (λb A=>?_);simp[Value.ownBlock]at A;subst A;exact h6 g X hgr
  ·have a2:∀(l:List ai)(pc:Option Addr×Nat),cZ S pc.1 l->(l≠[]->∃b o,pc.1=O ⟨b,o,J⟩/\(F b\/w.1.size<=b)/\v.ownBlock≠O b/\b≠rb)->cZ V6 pc.1 l/\(l≠[]->∃b o,pc.1=O ⟨b,o,J⟩/\rC F w V6 b/\(M (O ⟨g,0,J⟩) (E.length+1) cap).ownBlock≠O b/\b≠rb):=by
    intro l pc r1 r2;by_cases L:l=[]
    ·rw[L];exact⟨cZ.c,λh=>absurd rfl h⟩
    obtain⟨b,o,hp,U,hv,hr⟩:=r2 L;obtain⟨b',o',V,hlt,_⟩:=r1.a L;rw[hp]at V;simp at V;refine⟨r1.d om (λb1 o1 P hlt1=>?_),λ_=>⟨b,o,hp,?_,?_,hr⟩⟩
    ·rw[hp]at P;simp at P;rw[<-P.1,h6 b om hr,a0 b om hv]
    ·rcases U with U|U
     ·exact af U
     exact ah ⟨U,om⟩
    show O g≠O b;intro e;simp at e;rcases K with h|h
    ·exact hv (by rw[h,e])
    omega
   intro k x qc z T;rcases gQ k E.length with R|R
   ·rw[gO R]at z;rw[gO (by rw[d.f];exact R)]at T;obtain⟨r1,r2⟩:=d.p k x qc z T;refine a2 x qc (r1.e D) (λL=>?_);obtain⟨b,o,y,C,h3,h4⟩:=r2 L;exact⟨b,o,y,af C,h3,h4⟩
   rw[jb R]at z;rw[jb (by rw[d.f];exact R)]at T
   obtain rfl:k=E.length:=by
    rcases gQ E.length k with h|h
    ·rw[iV (by simp;omega)]at z;cases z
    omega
   rw[d.f]at T;simp at z T;subst z T;refine a2 l pc hl1 (λL=>?_);obtain⟨b,o,y,C⟩:=hpb L;exact⟨b,o,y,ah C,λe=>by have:=d.i b (d.j b e);omega,om⟩
  ·intro b A;simp[Value.ownBlock]at A;subst A;rcases K with h|h
   ·exact af (d.j g h)
   exact ah ⟨om,om⟩
  ·intro b A;rcases A with A|A
   ·have:=d.i b A;omega
   omega
  ·refine kY.2 ⟨by simp;omega,λx z=>?_⟩;rcases dP.1 z with h|h
   ·exact(kY.1 d.n).2 x h
   simp at h;rw[h];exact hgl
  intro x z;rcases dP.1 z with h|h
  ·exact d.t x h
  simp at h;rw[h];exact hok
 have y:=(bH D F).a (eV hg (λk R=>d.j k R));rw[<-hV6];exact((y.a (ko _ _ _ d.h)).a (ko _ _ _ d.h)).a (qe F _ _)
theorem Mi(l:List ai)(p:Option Addr)(cap:Nat)(T:l.length<=20000)(P:cZ w p l)(y:¬∀x,x∈l->dm x=true):
  Φ prog 50 #[Y (O ⟨rb,0,J⟩),M p l.length cap] w λe U=>e=N (I Q 1)/\U=w:=by
 obtain⟨c,D⟩:∃c,c=l.length:=⟨_,rfl⟩;have E:=hid D;rw[<-D]at T⊢;have W:=hid P;have n:=hid y;have hNI:(c:Int)<=20000:=om;go_enter func50,ntmps50;go_wp2;go_loopw [5] (λi V=>∃k:Nat,k<=c/\i=I Q (k:Int)/\V=w/\∀x,x∈l.take k->dm x=true) (λi _=>c-(intOf i).toNat)
 case atStart=>exact⟨0,aX _,rfl,rfl,λx m=>by simp at m⟩
 obtain⟨k,hk,rfl,rfl,d⟩:=hrel;by_cases t:k<c
 case pos=>
  have R:(k:Int)<c:=om;have f:k<l.length:=(by rw[<-E.o];exact t);have s:l≠[]:=(by intro e;rw[e]at f;simp at f);obtain⟨b,o,rfl,hb,hc⟩:=W.o.a s;obtain⟨a0,a1,a2,K⟩:=hc k _ (bc f)
  have X:H (dm l[k]=true->∀x,x∈l.take (k+1)->dm x=true):=λh x m=>by
   rw[jL,bc f]at m;rcases dP.1 m with h'|h'
   ·exact d x h'
   simp at h';rw[h'];exact h
  generalize l[k]=x at *;obtain⟨g,j,S,L⟩:=x;simp only at a0 a1 a2 K;by_cases F:g<0
  ·have u:decide (g<0)=true:=(by simpa using F);go_wp2;go_ret;exact⟨rfl,rfl⟩
  have u:decide (g<0)=false:=(by simpa using F);by_cases G:7<g
  ·have z:decide (7<g)=true:=(by simpa using G);go_wp2;go_ret;exact⟨rfl,rfl⟩
  have z:decide (7<g)=false:=(by simpa using G);by_cases A:j<0
  ·have r:decide (j<0)=true:=(by simpa using A);go_wp2;go_ret;exact⟨rfl,rfl⟩
  have r:decide (j<0)=false:=(by simpa using A);by_cases C:255<j
  ·have q:decide (255<j)=true:=(by simpa using C);go_wp2;go_ret;exact⟨rfl,rfl⟩
  have q:decide (255<j)=false:=(by simpa using C);have HO:H (dm ⟨g,j,S,L⟩=true):=km.2 (by simp only;omega);go_wp2;go_roundw
  case rel=>exact⟨k+1,om,by go_num,aN,X.o HO.o⟩
  simp[intOf];omega
 have v:k=c:=om;subst v;rw[E.o,eL]at d;exact absurd d n.o
theorem Kv(l:List ai)(p:Option Addr)(cap:Nat)(d:aO w rb F W need q E)(hgl:nF l=true)(hs:cZ w p l)(hok:∀x,x∈l->dm x=true)(hE:E.length+1<=1000)(hne:l≠[]):
  Φ prog 50 #[Y (O ⟨rb,0,J⟩),M p l.length cap] w λe w'=>e=N (I Q 0)/\aO w' rb (rC F w w') W need 0 (E++[l])/\ax F w w':=by
 have mixed:prog.follows .mixedOrders=true:=kr;have hmm:=@run_makeMap prog;obtain⟨i61,hi61,hz61,hs61,hb61⟩:=eb Gb;obtain⟨i73,hi73,hz73,hs73,hb73⟩:=eb Gc;have hl:=(pb.1 hgl).1;obtain⟨f,hN⟩:∃f,f=l.length:=⟨_,rfl⟩;have HN:=hid hN;rw[<-hN]at hl⊢;have HS:=hid hs;have HOK:=hid hok;have HGL:=hid hgl;have hNI:(f:Int)<=20000:=om;obtain⟨fb,m,v,Df,ps,d⟩:=d.b;have HD:=hid d;have c2:=d.z;have a4:=d.u;clear hN hs hok hgl d;go_enter func50,ntmps50;go_wp2;go_loopw [5] (λi V=>∃k:Nat,k<=f/\i=I Q (k:Int)/\V=w) (λi _=>f-(intOf i).toNat)
 case atStart=>exact⟨0,aX _,rfl,rfl⟩
 obtain⟨k,hk,rfl,rfl⟩:=hrel;by_cases hlt:k<f
 case pos=>
  have hkI:(k:Int)<f:=om;have hk':k<l.length:=(by rw[<-HN.o];exact hlt);have hne:l≠[]:=(by intro e;rw[e]at hk';simp at hk');obtain⟨b,o,hpe,hb,hc⟩:=HS.o.a hne;subst hpe;obtain⟨a0,a1,a2,a3⟩:=hc k _ (bc hk');have hx:=HOK.o _ (eG hk');generalize l[k]=x at *;obtain⟨xp,xs,xt,xg⟩:=x;simp only at a0 a1 a2 a3;obtain⟨⟨P,h2⟩,h3,h4⟩:=km.1 hx;simp only at P h2 h3 h4;have h1d:decide (xp<0)=false:=(by simpa using P);have h2d:decide (7<xp)=false:=(by simpa using h2);have h3d:decide (xs<0)=false:=(by simpa using h3);have h4d:decide (255<xs)=false:=(by simpa using h4);go_wp2;go_roundw
  case rel=>exact⟨k+1,om,by go_num,aN⟩
  simp[intOf];omega
 have hkk:k=f:=om;subst hkk;have hII:¬(k:Int)<k:=om;go_wp2;have a6:=hid c2;obtain⟨b,o,hpe,hb,hc⟩:=HS.o.a hne;subst hpe;have HNEW:H (∀j u,(bL l)[j]?=O u->wr.drew.cell? ((⟨b,o,J⟩:Addr).add j)=O u):=λj u hu=>Mk hc j u hu;have HLEN:H ((bL l).length=k*4):=(by show _=_;rw[qg,HN.o]);have hkpos:0<k:=(by rw[HN.o];exact jl.2 hne);have HML:H (0+k<=maxLen):=(by show _<=_;unfold maxLen;omega);have HBY:H ((0+k)*40<=140737488355328):=(by show _<=_;omega);have HML2:H (E.length+1<=maxLen):=(by show _<=_;unfold maxLen;omega);have HBY2:H ((E.length+1)*24<=140737488355328):=(by show _<=_;omega);have hcc0:=c2;have hS0:=aN;refine fG (S:=λ_=>True) kr aN (λ_=>?_);refine ar 0 42 (Y (O ⟨rb,0,J⟩)) aN ?_;refine ar 1 43 (Y (O ⟨rb,0,J⟩)) aN ?_;refine ar 2 44 (Y (O ⟨rb,0,J⟩)) aN ?_;refine ar 3 45 (Y (O ⟨rb,2,J⟩)) aN ?_;refine ar 5 47 (M (O ⟨b,o,J⟩) k cap) aN ?_;refine a9 (rs:=[4,6]) kr sm ?_;refine aQ rfl (λK C=>?qa) (aQ rfl (λK C=>?qb) aZ)
 case' qa=>
  have hld:=hcc0;go_simp;refine C.out _ _ aN (λ_=>?_);refine a9 (rs:=[6]) kr sm ?_;refine aQ rfl (λK C=>?_) aZ;refine iX _ (by rfl) (.const (M J 0 0)) (.tmp 47) 122 (by rfl) 0 156 i61 (.agg #[I Q 0,I Q 0,I Q 0,Z ⟨#[]⟩]) 4 40 underlying122 hi61 hz61 hs61 hb61 rfl om (M J 0 0) 0 [] (by rfl) (fH _ _ _ _) ⟨b,o,J⟩ k cap (bL l) (by rfl) HLEN.o HNEW.o (λu hu=>EC hu) om HML.o HBY.o (aX _) _ rfl ?_;intro r n y R g a5 hlt1;have D:H (B wr.1.size wr y):=⟨g.os,g.tape,g.output,g.size,λk hk=>g.block k hk (by simp[Value.ownBlock])⟩;have hcc1:y.cell? ⟨rb,2,J⟩=O v:=(by rw[D.o.cell a4];exact a6.o);have U:H (y.ownsRow 0 156 4 (M (O ⟨r,0,J⟩) (0+k) n) (0+k) ([]++bL l)/\(r=wr.1.size)):=⟨R,by rcases a5 with h|h;cases h;exact h⟩;refine C.out _ _ aN (λ_=>?_);change wpAnyH _ _ _ _ _ _ _ (Act.put _ (O 48) _) _;simp only[Act.put,az,aA,aB,dj];refine a9 (rs:=[7]) kr sm ?_;refine aQ rfl (λK C=>?_) aZ;go_simp;refine C.out _ _ aN (λ_=>?_);have A:H (B wr.1.size wr (y.alloc (Δ #[M (O ⟨r,0,J⟩) k n] 122))):=D.o.l D.o.size _;have HL1:H (cZ (y.alloc (Δ #[M (O ⟨r,0,J⟩) k n] 122)) (O ⟨r,0,J⟩) l):=(by obtain⟨P,h2⟩:=U.o;rw[dj,j9]at P;rw[HN.o]at P;obtain⟨p',c',he,L⟩:=AA P;simp at he;rw[<-he.1]at L;exact L.e ((aj _ y).l nl _));have HPB:H (l≠[]->∃b o,(O ⟨r,0,J⟩:Option Addr)=O ⟨b,o,J⟩/\wr.1.size<=b):=λ_=>⟨r,0,rfl,by rw[U.o.2];exact aa _⟩
  have T:H (∀j u,([gM l (O ⟨r,0,J⟩,n)]:List Value)[j]?=O u->(y.alloc (Δ #[M (O ⟨r,0,J⟩) k n] 122)).cell? ((⟨y.1.size,0,J⟩:Addr).add j)=O u):=by
   intro j u X;rw[dD]
   match j,X with
  |0,X=>simp at X;subst X;simp[gM,HN.o]
 case' qb=>
  refine iX _ (by rfl) (.const (M J 0 0)) (.tmp 47) 122 (by rfl) 0 156 i61 (.agg #[I Q 0,I Q 0,I Q 0,Z ⟨#[]⟩]) 4 40 underlying122 hi61 hz61 hs61 hb61 rfl om (M J 0 0) 0 [] (by rfl) (fH _ _ _ _) ⟨b,o,J⟩ k cap (bL l) (by rfl) HLEN.o HNEW.o (λu hu=>EC hu) om HML.o HBY.o (aX _) _ rfl ?_;intro r n y R g a5 hlt1;have D:H (B wr.1.size wr y):=⟨g.os,g.tape,g.output,g.size,λk hk=>g.block k hk (by simp[Value.ownBlock])⟩;have hcc1:y.cell? ⟨rb,2,J⟩=O v:=(by rw[D.o.cell a4];exact a6.o);have U:H (y.ownsRow 0 156 4 (M (O ⟨r,0,J⟩) (0+k) n) (0+k) ([]++bL l)/\(r=wr.1.size)):=⟨R,by rcases a5 with h|h;cases h;exact h⟩;refine C.out _ _ aN (λ_=>?_);change wpAnyH _ _ _ _ _ _ _ (Act.put _ (O 48) _) _;simp only[Act.put,az,aA,aB,dj];refine a9 (rs:=[4,7]) kr sm ?_;refine aQ rfl (λK C=>?qc) (aQ rfl (λK C=>?qd) aZ)
  case' qc=>
   have hld:=hcc1;go_simp;refine C.out _ _ aN (λ_=>?_);refine a9 (rs:=[7]) kr sm ?_;refine aQ rfl (λK C=>?_) aZ;go_simp;refine C.out _ _ aN (λ_=>?_);have A:H (B wr.1.size wr (y.alloc (Δ #[M (O ⟨r,0,J⟩) k n] 122))):=D.o.l D.o.size _;have HL1:H (cZ (y.alloc (Δ #[M (O ⟨r,0,J⟩) k n] 122)) (O ⟨r,0,J⟩) l):=(by obtain⟨P,h2⟩:=U.o;rw[dj,j9]at P;rw[HN.o]at P;obtain⟨p',c',he,L⟩:=AA P;simp at he;rw[<-he.1]at L;exact L.e ((aj _ y).l nl _));have HPB:H (l≠[]->∃b o,(O ⟨r,0,J⟩:Option Addr)=O ⟨b,o,J⟩/\wr.1.size<=b):=λ_=>⟨r,0,rfl,by rw[U.o.2];exact aa _⟩
   have T:H (∀j u,([gM l (O ⟨r,0,J⟩,n)]:List Value)[j]?=O u->(y.alloc (Δ #[M (O ⟨r,0,J⟩) k n] 122)).cell? ((⟨y.1.size,0,J⟩:Addr).add j)=O u):=by
    intro j u X;rw[dD]
    match j,X with
   |0,X=>simp at X;subst X;simp[gM,HN.o]
  case' qd=>
   go_simp;refine C.out _ _ aN (λ_=>?_);have A:H (B wr.1.size wr (y.alloc (Δ #[M (O ⟨r,0,J⟩) k n] 122))):=D.o.l D.o.size _;have HL1:H (cZ (y.alloc (Δ #[M (O ⟨r,0,J⟩) k n] 122)) (O ⟨r,0,J⟩) l):=(by obtain⟨P,h2⟩:=U.o;rw[dj,j9]at P;rw[HN.o]at P;obtain⟨p',c',he,L⟩:=AA P;simp at he;rw[<-he.1]at L;exact L.e ((aj _ y).l nl _));have HPB:H (l≠[]->∃b o,(O ⟨r,0,J⟩:Option Addr)=O ⟨b,o,J⟩/\wr.1.size<=b):=λ_=>⟨r,0,rfl,by rw[U.o.2];exact aa _⟩
   have T:H (∀j u,([gM l (O ⟨r,0,J⟩,n)]:List Value)[j]?=O u->(y.alloc (Δ #[M (O ⟨r,0,J⟩) k n] 122)).cell? ((⟨y.1.size,0,J⟩:Addr).add j)=O u):=by
    intro j u X;rw[dD]
    match j,X with
   |0,X=>simp at X;subst X;simp[gM,HN.o]
   have hcc2:(y.alloc (Δ #[M (O ⟨r,0,J⟩) k n] 122)).cell? ⟨rb,2,J⟩=O v:=(by rw[A.o.cell a4];exact a6.o);refine a9 (rs:=[4]) kr sm ?_;refine aQ rfl (λK C=>?_) aZ;have hld:=hcc2;go_simp;refine C.out _ _ aN (λ_=>?_)
 all_goals
  refine a9 (rs:=[8]) kr sm ?_;refine aQ rfl (λK C=>?_) aZ;have HROW:=hid (aS HD.o.c (λb hb=>A.o.block b (aU HD.o.c hb)));refine iX _ (by rfl) (.tmp 46) (.tmp 49) 39 (by rfl) 0 122 i73 (M J 0 0) 1 24 underlying39 hi73 hz73 hs73 hb73 rfl om v E.length (List.zipWith gM E ps) (by rfl) HROW.o ⟨y.1.size,0,J⟩ 1 1 [gM l (O ⟨r,0,J⟩,n)] (by rfl) rfl T.o (λu hu=>by simp at hu;subst hu;rfl) om HML2.o HBY2.o (aX _) _ rfl ?_;intro g2 G V3 hown3 t hat3 hlt3;have hc3:V3.cell? ⟨rb,2,J⟩=O v:=t.cell (by rw[A.o.cell a4];exact a6.o) (λe=>(HD.o.s e.symm).1 rfl);have hf3:V3.frozen? ⟨rb,2,J⟩=false:=(by have P:=(t.block rb (by have:=A.o.size;omega) (λe=>(HD.o.s e.symm).1 rfl)).trans (A.o.block rb a4);simp[World.frozen?,P,HD.o.a]);have HFIN:=GH (pc:=(O ⟨r,0,J⟩,n)) HD.o A.o HL1.o HPB.o hown3 t hat3 hE HGL.o (kQ.2 HOK.o);have HR3:=hid (((t.block rb (by have:=A.o.size;omega) (λe=>(HD.o.s e.symm).1 rfl)).trans (A.o.block rb a4)).trans HD.o.a);have HFI:=hid HFIN;have hsz3:=(bP.1 HR3.o).1;refine C.out _ _ aN (λ_=>?_);change wpAnyH _ _ _ _ _ _ _ (Act.put _ (O 50) _) _;simp only[Act.put,az,aA,aB];refine ar 9 51 (Y (O ⟨rb,0,J⟩)) aN ?_;refine ar 10 52 (Y (O ⟨rb,2,J⟩)) aN ?_;refine a9 (rs:=[11]) kr sm ?_;refine aQ rfl (λK C=>?_) aZ;go_simp;refine C.out _ _ aN (λ_=>?_);refine ea kr ?_ _;have hR4:∀o,((V3.setCell ⟨rb,2,J⟩ (M (O ⟨g2,0,J⟩) (E.length+1) G)).alloc o).1[rb]?=O (Δ #[I Q (W:Int),I Q (need:Int),M (O ⟨g2,0,J⟩) (E.length+1) G,.map (O fb)] 42):=λo=>(by rw[cX _ _ _ (by simp[World.setCell];exact hsz3)];simp[World.setCell,dU,HR3.o]);have hc4:∀o,((V3.setCell ⟨rb,2,J⟩ (M (O ⟨g2,0,J⟩) (E.length+1) G)).alloc o).cell? ⟨rb,3,J⟩=O (.map (O fb)):=λo=>(by simp[World.cell?,hR4 o]);have hf4:∀o,((V3.setCell ⟨rb,2,J⟩ (M (O ⟨g2,0,J⟩) (E.length+1) G)).alloc o).frozen? ⟨rb,3,J⟩=false:=λo=>(by simp[World.frozen?,hR4 o]);have hz4:(V3.setCell ⟨rb,2,J⟩ (M (O ⟨g2,0,J⟩) (E.length+1) G)).1.size=V3.1.size:=(by simp[World.setCell]);go_wp2;go_ret;exact⟨rfl,HFI.o⟩
theorem Mj(l:List ai)(p:Option Addr)(cap:Nat)(d:aO w rb F W need q E)(R:nF l=true)(hs:cZ w p l)(hok:∀x,x∈l->dm x=true)(hE:E.length+1<=1000)(L:l=[]):
  Φ prog 50 #[Y (O ⟨rb,0,J⟩),M p l.length cap] w λe w'=>e=N (I Q 0)/\aO w' rb (rC F w w') W need 0 (E++[l])/\ax F w w':=by
 have mixed:prog.follows .mixedOrders=true:=kr;have hmm:=@run_makeMap prog;obtain⟨i61,hi61,hz61,hs61,hb61⟩:=eb Gb;obtain⟨i73,X,a8,hs73,hb73⟩:=eb Gc;have hl:=(pb.1 R).1;obtain⟨f,hN⟩:∃f,f=l.length:=⟨_,rfl⟩;have HN:=hid hN;rw[<-hN]at hl⊢;have HS:=hid hs;have a7:=hid hok;have HGL:=hid R;have hNI:(f:Int)<=20000:=om;obtain⟨fb,m,v,Df,ps,d⟩:=d.b;have P:H (jX w rb fb m v Df ps F W need q E):=d;have c2:=d.z;have G:=d.u;clear hN hs hok R d;go_enter func50,ntmps50;go_wp2;go_loopw [5] (λi V=>∃k:Nat,k<=f/\i=I Q (k:Int)/\V=w) (λi _=>f-(intOf i).toNat)
 case atStart=>exact⟨0,aX _,rfl,rfl⟩
 obtain⟨k,hk,rfl,rfl⟩:=hrel;by_cases hlt:k<f
 case pos=>
  have hkI:(k:Int)<f:=om;have D:k<l.length:=(by rw[<-HN.o];exact hlt);have L:l≠[]:=(by intro e;rw[e]at D;simp at D);obtain⟨b,o,hpe,hb,hc⟩:=HS.o.a L;subst hpe;obtain⟨a0,a1,a2,a3⟩:=hc k _ (bc D);have hx:=a7.o _ (eG D);generalize l[k]=x at *;obtain⟨xp,xs,xt,xg⟩:=x;simp only at a0 a1 a2 a3;obtain⟨⟨h1,h2⟩,h3,h4⟩:=km.1 hx;simp only at h1 h2 h3 h4;have h1d:decide (xp<0)=false:=(by simpa using h1);have h2d:decide (7<xp)=false:=(by simpa using h2);have h3d:decide (xs<0)=false:=(by simpa using h3);have h4d:decide (255<xs)=false:=(by simpa using h4);go_wp2;go_roundw
  case rel=>exact⟨k+1,om,by go_num,aN⟩
  simp[intOf];omega
 have hkk:k=f:=om;subst hkk;have hII:¬(k:Int)<k:=om;go_wp2;have HC2:=hid c2;have hk0:k=0:=(by rw[HN.o,L];rfl);subst hk0;have y:=hid L;have HML2:H (E.length+1<=maxLen):=(by show _<=_;unfold maxLen;omega);have HBY2:H ((E.length+1)*24<=140737488355328):=(by show _<=_;omega);have a4:=c2;have hS0:=aN;refine fG (S:=λ_=>True) kr aN (λ_=>?_);refine ar 0 42 (Y (O ⟨rb,0,J⟩)) aN ?_;refine ar 1 43 (Y (O ⟨rb,0,J⟩)) aN ?_;refine ar 2 44 (Y (O ⟨rb,0,J⟩)) aN ?_;refine ar 3 45 (Y (O ⟨rb,2,J⟩)) aN ?_;refine ar 5 47 (M p 0 cap) aN ?_;refine aF 6 48 (M J 0 0) rfl rfl kr (λ_ _ _ h=>h) (af ⟨by rfl,λwx _=>by cases p<;>go_simp⟩) aN ?_;simp only[Act.put,az,aA,aB];refine a9 (rs:=[4,7]) kr sm ?_;refine aQ rfl (λK t=>?qa) (aQ rfl (λK t=>?qb) aZ)
 case' qa=>
  have hld:=a4;go_simp;refine t.out _ _ aN (λ_=>?_);refine a9 (rs:=[7]) kr sm ?_;refine aQ rfl (λK t=>?_) aZ;go_simp;refine t.out _ _ aN (λ_=>?_);clear t K;have n:H (B wr.1.size wr ((wr.alloc (Δ #[M J 0 0] 122)).drew)):=((aj _ wr).l nl _).drew;have HL1:H (cZ ((wr.alloc (Δ #[M J 0 0] 122)).drew) J l):=(by show cZ _ _ _;rw[y.o];exact cZ.c);have a6:H (l≠[]->∃b o,(J:Option Addr)=O ⟨b,o,J⟩/\wr.1.size<=b):=λh=>absurd y.o h
  have A:H (∀j u,([gM l (J,0)]:List Value)[j]?=O u->((wr.alloc (Δ #[M J 0 0] 122)).drew).cell? ((⟨wr.1.size,0,J⟩:Addr).add j)=O u):=by
   intro j u C;rw[dD]
   match j,C with
  |0,C=>simp at C;subst C;rw[y.o];show (wr.alloc _).cell? _=_;simp[gM]
 case' qb=>
  go_simp;refine t.out _ _ aN (λ_=>?_);clear t K;have n:H (B wr.1.size wr ((wr.alloc (Δ #[M J 0 0] 122)).drew)):=((aj _ wr).l nl _).drew;have HL1:H (cZ ((wr.alloc (Δ #[M J 0 0] 122)).drew) J l):=(by show cZ _ _ _;rw[y.o];exact cZ.c);have a6:H (l≠[]->∃b o,(J:Option Addr)=O ⟨b,o,J⟩/\wr.1.size<=b):=λh=>absurd y.o h
  have A:H (∀j u,([gM l (J,0)]:List Value)[j]?=O u->((wr.alloc (Δ #[M J 0 0] 122)).drew).cell? ((⟨wr.1.size,0,J⟩:Addr).add j)=O u):=by
   intro j u C;rw[dD]
   match j,C with
  |0,C=>simp at C;subst C;rw[y.o];show (wr.alloc _).cell? _=_;simp[gM]
  have hcc2:((wr.alloc (Δ #[M J 0 0] 122)).drew).cell? ⟨rb,2,J⟩=O v:=(by rw[n.o.cell G];exact HC2.o);refine a9 (rs:=[4]) kr sm ?_;refine aQ rfl (λK t=>?_) aZ;have hld:=hcc2;go_simp;refine t.out _ _ aN (λ_=>?_)
 all_goals
  refine a9 (rs:=[8]) kr sm ?_;refine aQ rfl (λK t=>?_) aZ;have HROW:H (((wr.alloc (Δ #[M J 0 0] 122)).drew).ownsRow 0 122 1 v E.length (List.zipWith gM E ps)):=aS P.o.c (λb hb=>n.o.block b (aU P.o.c hb));refine iX _ (by rfl) (.tmp 46) (.tmp 49) 39 (by rfl) 0 122 i73 (M J 0 0) 1 24 underlying39 X a8 hs73 hb73 rfl om v E.length (List.zipWith gM E ps) (by rfl) HROW.o ⟨wr.1.size,0,J⟩ 1 1 [gM l (J,0)] (by rfl) rfl A.o (λu hu=>by simp at hu;subst hu;rfl) om HML2.o HBY2.o (aX _) _ rfl ?_;intro g2 r T U g hat3 hlt3;have hc3:T.cell? ⟨rb,2,J⟩=O v:=g.cell (by rw[n.o.cell G];exact HC2.o) (λe=>(P.o.s e.symm).1 rfl);have hf3:T.frozen? ⟨rb,2,J⟩=false:=(by have h1:=(g.block rb (by have:=n.o.size;omega) (λe=>(P.o.s e.symm).1 rfl)).trans (n.o.block rb G);simp[World.frozen?,h1,P.o.a]);have HFIN:=GH (pc:=(J,0)) P.o n.o HL1.o a6.o U g hat3 hE HGL.o (kQ.2 a7.o);have HR3:=hid (((g.block rb (by have:=n.o.size;omega) (λe=>(P.o.s e.symm).1 rfl)).trans (n.o.block rb G)).trans P.o.a);have HFI:=hid HFIN;have hsz3:=(bP.1 HR3.o).1;refine t.out _ _ aN (λ_=>?_);change wpAnyH _ _ _ _ _ _ _ (Act.put _ (O 50) _) _;simp only[Act.put,az,aA,aB];refine ar 9 51 (Y (O ⟨rb,0,J⟩)) aN ?_;refine ar 10 52 (Y (O ⟨rb,2,J⟩)) aN ?_;refine a9 (rs:=[11]) kr sm ?_;refine aQ rfl (λK t=>?_) aZ;go_simp;refine t.out _ _ aN (λ_=>?_);refine ea kr ?_ _;have a5:∀o,((T.setCell ⟨rb,2,J⟩ (M (O ⟨g2,0,J⟩) (E.length+1) r)).alloc o).1[rb]?=O (Δ #[I Q (W:Int),I Q (need:Int),M (O ⟨g2,0,J⟩) (E.length+1) r,.map (O fb)] 42):=λo=>(by rw[cX _ _ _ (by simp[World.setCell];exact hsz3)];simp[World.setCell,dU,HR3.o]);have hc4:∀o,((T.setCell ⟨rb,2,J⟩ (M (O ⟨g2,0,J⟩) (E.length+1) r)).alloc o).cell? ⟨rb,3,J⟩=O (.map (O fb)):=λo=>(by simp[World.cell?,a5 o]);have hf4:∀o,((T.setCell ⟨rb,2,J⟩ (M (O ⟨g2,0,J⟩) (E.length+1) r)).alloc o).frozen? ⟨rb,3,J⟩=false:=λo=>(by simp[World.frozen?,a5 o]);have hz4:(T.setCell ⟨rb,2,J⟩ (M (O ⟨g2,0,J⟩) (E.length+1) r)).1.size=T.1.size:=(by simp[World.setCell]);go_wp2;go_ret;exact⟨rfl,HFI.o⟩
theorem Mh(l:List ai)(p:Option Addr)(cap:Nat)(d:aO w rb F W need q E)(s:nF l=true)(C:cZ w p l)(D:E.length+1<=1000):
  Φ prog 50 #[Y (O ⟨rb,0,J⟩),M p l.length cap] w λe g=>e=N (I Q (if l.all dm=true then 0 else 1:Nat))/\aO g rb (rC F w g) W need q (if l.all dm=true then E++[l] else E)/\ax F w g:=by
 by_cases h:l.all dm=true
 ·simp only[ak h]
  have P:Φ prog 50 #[Y (O ⟨rb,0,J⟩),M p l.length cap] w λe g=>e=N (I Q 0)/\aO g rb (rC F w g) W need 0 (E++[l])/\ax F w g:=by
   by_cases u:l=[]
   ·exact Mj l p cap d s C (kQ.1 h) D u
   exact Kv l p cap d s C (kQ.1 h) D u
  refine P.m ?_;rintro e g ⟨rfl,z,A⟩;exact⟨rfl,z.a (aX _),A⟩
 ·simp only[ag h];refine(Mi l p cap (pb.1 s).1 C (λS=>h (kQ.2 S))).m ?_;rintro e g ⟨rfl,L⟩;subst L;refine⟨rfl,?_,ax.j _ _⟩;obtain⟨U,m,v,V,T,d⟩:=d.b
  exact⟨U,m,v,V,T,d.a,d.f,d.c,λk l G z A=>⟨(d.p k l G z A).1,λR=>by
   obtain⟨b,o,r1,K,X⟩:=(d.p k l G z A).2 R;exact⟨b,o,r1,af K,X⟩⟩,d.d,d.y,d.x,af d.h,af d.r,λb h=>af (d.j b h),λb h=>by
   rcases h with h|h
   ·exact d.i b h
   ·exact h.2,d.n,d.t⟩
end
end
section
open Go.RowKit Go.Maps
def qK:List Value->Nat->List Value->List Value
 |xs,_,[]=>xs
 |xs,o,v::r=>qK (xs.set o v) (o+1) r
theorem EF:∀(cs X A:List Value),cs.length=X.length->qK (A++X) A.length cs=A++cs
 |[],X,A,h=>by have:X=[]:=iG.1 h.symm;subst this;rfl
 |v::r,[],A,h=>by simp at h
 |v::r,x::X,A,h=>by
  show qK ((A++x::X).set A.length v) (A.length+1) r=A++v::r;have a:(A++x::X).set A.length v=(A++[v])++X:=by simp
  have b:A.length+1=(A++[v]).length:=by simp
  rw[a,b,EF r X (A++[v]) (by simpa using h)];simp
theorem Ap{a n g cap:Nat}{e:TypeId}:∀(cs:List Value)(off:Nat)(w:Ω)(xs:List Value),w.ownsRow a e 1 (M (O ⟨g,0,J⟩) n cap) n xs->(w.setCells g off cs).ownsRow a e 1 (M (O ⟨g,0,J⟩) n cap) n (qK xs off cs)/\w.grownBy (w.setCells g off cs) (O g)
 |[],off,w,xs,h=>⟨h,⟨rfl,rfl,rfl,aa _,λ_ _ _=>rfl⟩⟩
 |v::r,off,w,xs,h=>by obtain⟨j,b⟩:=h.stored off v;obtain⟨i,c⟩:=Ap r (off+1) _ _ j;refine⟨i,⟨c.os.trans b.os,c.tape.trans b.tape,c.output.trans b.output,aP b.size c.size,λk d f=>(c.block k (bg d b.size) f).trans (b.block k d f)⟩⟩
def cH(s:ByteArray):Value:=Z s
theorem EE(L:List Value)(z s:Value)(k:Nat)(g:k<=L.length):(qK (L++[z]) (k+1) (L.drop k)).set k s=L.take k++s::L.drop k:=by
 obtain⟨A,a,rfl,rfl⟩:∃A a,L=A++a/\A.length=k:=⟨L.take k,L.drop k,(rN k L).symm,by simp;omega⟩;rw[List.drop_left,List.take_left]
 obtain⟨y,X,c⟩:∃y X,a++[z]=y::X:=by
  cases a with
 |nil=>exact⟨z,[],rfl⟩
 |cons b a=>exact⟨b,a++[z],rfl⟩
 have d:a.length=X.length:=by have:=congrArg List.length c;simp at this;omega
 have e:A++a++[z]=(A++[y])++X:=by rw[lY,c];simp
 have f:A.length+1=(A++[y]).length:=by simp
 rw[e,f,EF a X (A++[y]) d];simp
theorem Qr{a b:ByteArray}(h:Op.bytesLess a.toList b.toList=true):a.toList<b.toList:=by rw[bytesLess_eq]at h;simpa using h
theorem Ov{a b:ByteArray}(h:Op.bytesLess a.toList b.toList=false)(c:¬a=b):b.toList<a.toList:=by
 rw[bytesLess_eq]at h;have f:¬a.toList<b.toList:=by simpa using h
 have g:b.toList<=a.toList:=List.not_lt.1 f;rcases Classical.em (b.toList<a.toList) with h3|h3
 ·exact h3
 have e:a.toList<=b.toList:=List.not_lt.1 h3;have d:=List.le_antisymm e g;exact absurd (pW (by rw[<-cY,<-cY];exact d)) c
theorem Fx{L:List ByteArray}{s:ByteArray}{k:Nat}(m:L.Pairwise (λa b=>a.toList<b.toList))(e:∀i y,i<k->L[i]?=O y->y.toList<s.toList)(l:∀y,L[k]?=O y->s.toList<y.toList)(r:k<=L.length):(L.take k++s::L.drop k).Pairwise (λa b=>a.toList<b.toList):=by
 obtain⟨A,c,rfl,rfl⟩:∃A c,L=A++c/\A.length=k:=⟨L.take k,L.drop k,(rN k L).symm,by simp;omega⟩;rw[List.take_left,List.drop_left];rw[List.pairwise_append]at m⊢;obtain⟨q,o,g⟩:=m
 have j:∀y,y∈c->s.toList<y.toList:=by
  cases c with
 |nil=>intro y d;simp at d
 |cons b c=>
   have n:=l b sm;intro y d;rcases jN.1 d with rfl|d
   ·exact n
   exact List.lt_trans n ((List.pairwise_cons.1 o).1 y d)
 have f:∀y,y∈A->y.toList<s.toList:=λy d=>by obtain⟨i,h,rfl⟩:=List.mem_iff_getElem.1 d;exact e i _ h (by rw[gO h,bc h])
 refine⟨q,List.pairwise_cons.2 ⟨j,o⟩,λx p y d=>?_⟩;rcases jN.1 d with rfl|d
 ·exact f x p
 exact g x p y d
theorem Fz{L:List ByteArray}{s g:ByteArray}{k:Nat}:g∈L.take k++s::L.drop k↔g∈L\/s=g:=by
 rw[dP,jN];have h:g∈L↔g∈L.take k\/g∈L.drop k:=by rw[<-dP,rN]
 rw[h];constructor
 ·rintro(h|rfl|h)
  ·exact af (af h)
  ·exact ah rfl
  exact af (ah h)
 rintro((h|h)|rfl)
 ·exact af h
 ·exact ah (ah h)
 exact ah (af rfl)
theorem AN{V:Ω}{a g n cap:Nat}{e:TypeId}{b:Nat}{xs:List Value}(h:V.ownsRow a e b (M (O ⟨g,0,J⟩) n cap) n xs):n<=cap:=by
 rcases h.2 with ⟨h',_⟩|⟨g',cap',cur,h',_,_,hnc,_⟩
 ·simp at h'
 simp at h';omega
theorem DL{V:Ω}{a g n cap h:Nat}{L:List Value}{k:Option Addr}(o:V.ownsRow a 9 1 (M (O ⟨g,0,J⟩) (n+1) cap) (n+1) (L++[Z ⟨#[]⟩]))(q:L.length=n)(f:∀v∈L,v.oneCell'=true)(x:h<=n)(t:k=(if cap=h+1 then (O ⟨g,0,J⟩:Option Addr) else O ⟨g,h+1,J⟩)):
  (Builtin.copy_ #[22,22] 3 #[M k (n-h) (cap-(h+1)),M (O ⟨g,h,J⟩) (n+1-h) (cap-h)]).run prog V.drew=.ok (goInt ((n-h:Nat):Int)) (V.drew.setCells g (h+1) (L.drop h)):=by
 have i:(prog.info? 9).map (·.size)=O 1:=kr;have p:=AN o;have d:V.drew.ownsRow a 9 1 (M (O ⟨g,0,J⟩) (n+1) cap) (n+1) (L++[Z ⟨#[]⟩]):=aS o (λb _=>rfl);by_cases u:h=n
 ·subst u;have w:L.drop h=[]:=List.drop_eq_nil_of_le om;rw[w,Nat.sub_self];exact run_copy_none (P:=prog) V.drew 22 22 3 9 k _ 0 _ _ _ underlying22 i sm
 have m:k=O ⟨g,h+1,J⟩:=by rw[t,ag om]
 have c:(L.drop h).length=n-h:=by simp[q]
 subst m;have:=run_copy_cells (P:=prog) V.drew 22 22 3 9 g (h+1) (n-h) (cap-(h+1)) ⟨g,h,J⟩ (n+1-h) (cap-h) (L.drop h) underlying22 i (by rw[c];exact(Nat.min_eq_right om).symm) ?_ ?_ ?_ ?_
 ·rw[c]at this;exact this
 ·intro j v e;rw[Addr.add_mid];rw[pR]at e
  have s:h+j<n:=by
   rcases gQ (h+j) L.length with h'|h'
   ·omega
   rw[iV h']at e;cases e
  rw[d.cellAt (h+j) om,gO om];exact e
 ·intro j r;rw[d.cellAt (h+1+j) om,bc (by simp;omega)];rfl
 ·intro j r;exact d.frozenAt _
 intro v e;have l:v∈L:=List.mem_of_mem_drop e;exact f v l
theorem Bt:(prog.info? 9).map (λi=>(i.zero,i.size,i.bytes))=O (O (Z ⟨#[]⟩),1,16):=kr
theorem Fy(L:List ByteArray)(s:ByteArray)(k:Nat):(L.take k++s::L.drop k).map cH=(L.map cH).take k++cH s::(L.map cH).drop k:=by simp[List.map_take,List.map_drop]
section
variable {w:Ω}{rb W need:Nat}{p:Option Addr}{cap:Nat}{E:List (List ai)}
structure qB (V:Ω) (B:Nat) (v:Value) (L:List ByteArray):Prop where
 c:V.ownsRow B 9 1 v L.length (L.map cH)
 d:L.Pairwise (λa b=>a.toList<b.toList)
theorem EG(u:Nat)(d:mB w rb W need p cap E):
  Φ prog 53 #[Y (O ⟨rb,0,J⟩),I Q (u:Int)] w λe w'=>∃v,e=N v/\∃L,qB w' w.1.size v L/\L.length<=20000000/\(∀g,g∈L↔aG g (E.take (u+1))=true)/\B w.1.size w w':=by
 have mixed:prog.follows .mixedOrders=true:=kr;obtain⟨i9,hi9,hz9,hs9,hb9⟩:=eb Bt;obtain⟨f,hN⟩:∃f,f=E.length:=⟨_,rfl⟩;have HN:H (f=E.length):=hN;have HD:H (mB w rb W need p cap E):=d;have hn25:=(kY.1 d.c).1;rw[<-hN]at hn25;clear hN d;go_enter func53,ntmps53;go_wp2;go_loopw [5,6,7,8,9] (λv i _ _ _ V=>∃(k:Nat) (L:List ByteArray),k<=f/\k<=u+1/\i=I Q (k:Int)/\qB V w.1.size v L/\L.length<=k*20000/\(∀g,g∈L↔aG g (E.take k)=true)/\B w.1.size w V) (λ_ i _ _ _ _=>f-(intOf i).toNat)
 case atStart=>exact⟨0,[],aX _,aX _,rfl,⟨fH _ _ _ _,List.Pairwise.nil⟩,aa _,λg=>by simp[aG],aj _ _⟩
 obtain⟨k,L0,hk,hku,rfl,hT0,hL0,hM0,P⟩:=hrel;have ap:H (B w.1.size w wr):=P;have HT0:H (qB wr w.1.size u5 L0):=hT0;have HM0:H (∀g,g∈L0↔aG g (E.take k)=true):=hM0;have c2:wr.cell? ⟨rb,2,J⟩=O (M p f cap):=by rw[P.cell HD.o.b,HN.o];exact HD.o.a
 by_cases hlt:k<f/\k<=u
 case neg=>
  have HEN:H (E.take k=E.take (u+1)):=by
   show _=_;by_cases hx:k<f
   ·have:k=u+1:=om;rw[this]
   have X:k=f:=om;rw[ip (by rw[<-HN.o];omega),ip (by rw[<-HN.o];omega)]
  by_cases hx:k<f
  ·have hI1:(k:Int)<f:=om;have hI2:¬(k:Int)<=u:=om;clear hT0 hM0 P;go_wp2;go_ret;exact⟨_,rfl,L0,HT0.o,om,by rw[<-HEN.o];exact HM0.o,ap.o⟩
  have hI1:¬(k:Int)<f:=om;clear hT0 hM0 P;go_wp2;go_ret;exact⟨_,rfl,L0,HT0.o,om,by rw[<-HEN.o];exact HM0.o,ap.o⟩
 have hkI:(k:Int)<f:=om;have hkI2:(k:Int)<=u:=om;have av:k<E.length:=(by rw[<-HN.o];exact hlt.1);obtain⟨b,o,rfl,hb,hc⟩:=HD.o.d.c (by intro e;rw[e]at av;simp at av);obtain⟨q,cp,k0,hs⟩:=hc k _ (bc av);have HTK:H (∀g,aG g (E.take (k+1))=(aG g (E.take k)||bz g E[k])):=λg=>DD av;obtain⟨hm25,hg20⟩:=pb.1 ((kY.1 HD.o.c).2 _ (eG av));generalize E[k]=l at *;obtain⟨m,hm⟩:∃m,m=l.length:=⟨_,rfl⟩;have HM:H (m=l.length):=hm;rw[<-hm]at k0 hm25;have HS:H (cZ w q l):=hs;have HG20:H (∀x,x∈l->x.a.size<=20):=hg20;have hrb:=HD.o.b;have c2w:w.cell? ⟨rb,2,J⟩=O (M (O ⟨b,o,J⟩) f cap):=(by rw[HN.o];exact HD.o.a);have HK0:H (∀V,B w.1.size w V->V.cell? ⟨b,o+k,J⟩=O (M q m cp)/\V.cell? ⟨rb,2,J⟩=O (M (O ⟨b,o,J⟩) f cap)):=λV hV=>⟨by rw[hV.cell hb];exact k0,by rw[hV.cell hrb];exact c2w⟩;have k0':=(HK0.o wr ap.o).1;clear hT0 hM0 P hc hs hm k0 c2w hg20;go_wp2;clear k0' c2;go_loopw [5,7,8,9] (λv i _ _ V=>∃(j:Nat) (L:List ByteArray),j<=m/\i=I Q (j:Int)/\qB V w.1.size v L/\L.length<=k*20000+j/\(∀g,g∈L↔(aG g (E.take k)||bz g (l.take j))=true)/\B w.1.size w V) (λ_ i _ _ _=>m-(intOf i).toNat)
 case atStart=>exact⟨0,L0,aX _,rfl,HT0.o,hL0,λg=>by rw[HM0.o g];simp[bz],ap.o⟩
 clear HT0 HM0 ap;obtain⟨j,L,hj,rfl,hT,hL,hMm,P⟩:=hrel;have HB:H (B w.1.size w wr):=P;have HT:H (qB wr w.1.size u5 L):=hT;have a7:H (∀g,g∈L↔(aG g (E.take k)||bz g (l.take j))=true):=hMm;obtain⟨k0,c2⟩:=HK0.o wr P;by_cases hlj:j<m
 case neg=>have hjj:j=m:=om;subst hjj;have hII:¬(j:Int)<j:=om;clear hT hMm P hlj;go_wp2;refine⟨⟨k+1,L,om,om,by go_num,HT.o,om,λg=>?_,HB.o⟩,by simp[intOf];omega⟩;rw[a7.o g,HTK.o g,HM.o,eL]
 have hjI:(j:Int)<m:=om;have am:j<l.length:=(by rw[<-HM.o];exact hlj);obtain⟨b',o',rfl,hb',hc'⟩:=HS.o.a (by intro e;rw[e]at am;simp at am);have a3:=((hc' j _ (bc am)).a (P.block b' hb')).c;have hgx:=HG20.o _ (eG am);have HSN:H (∀g,bz g (l.take (j+1))=(bz g (l.take j)||decide (l[j].a=g))):=λg=>DC am;generalize l[j]=x at *;obtain⟨xp,xs,xt,G⟩:=x;simp only at a3 hgx HSN;clear hc' hMm hT P;obtain⟨V1,hV1⟩:∃V1,V1=wr:=⟨_,rfl⟩;rw[<-hV1]at HB HT a3 k0 c2⊢;clear hV1;obtain⟨n,hn⟩:∃n,n=L.length:=⟨_,rfl⟩;have R:H (n=L.length):=hn;rw[<-hn]at hL;clear hn
 obtain⟨pv,cv,hv,a5⟩:∃pv cv,u5=M pv n cv/\∀i y,L[i]?=O y->∃g,pv=O ⟨g,0,J⟩/\V1.cell? ⟨g,i,J⟩=O (Z y):=by
  rw[R.o];rcases Nat.eq_zero_or_pos L.length with h0|h0
  ·have:L=[]:=iG.1 h0;subst this;rcases HT.o.c.2 with ⟨rfl,_⟩|⟨g,cap,cur,hv,_⟩
   ·exact⟨J,0,rfl,λi y h=>by simp at h⟩
   exact⟨_,cap,hv,λi y h=>by simp at h⟩
  obtain⟨g,cap,hv,_,_⟩:=HT.o.c.form h0;refine⟨O ⟨g,0,J⟩,cap,hv,λi y h=>⟨g,rfl,?_⟩⟩;have hown:=HT.o.c;rw[hv]at hown;have:=hown.cells (g:=g) rfl i (cH y) (by simp[h]);rw[dD]at this;exact this
 subst hv;have HCE:H (∀i y,L[i]?=O y->∃g,pv=O ⟨g,0,J⟩/\V1.cell? ⟨g,i,J⟩=O (Z y)):=a5;have hn625:n<=21000000:=om;have hnI:(n:Int)<=21000000:=om;clear a5;go_wp2;clear a3 k0 c2;go_loopw [9] (λi V=>∃h:Nat,h<=n/\i=I Q (h:Int)/\V=V1/\∀i y,i<h->L[i]?=O y->y.toList<G.toList) (λi _=>n-(intOf i).toNat)
 case atStart=>exact⟨0,aX _,rfl,rfl,λi y hi=>by omega⟩
 obtain⟨h,hh,rfl,rfl,hlow⟩:=hrel;have a8:H (∀i y,i<h->L[i]?=O y->y.toList<G.toList):=hlow;clear hlow;by_cases hhn:h<n
 case pos=>
  have hhI:(h:Int)<n:=om;have hh':h<L.length:=(by rw[<-R.o];exact hhn);obtain⟨g,rfl,hcell⟩:=HCE.o h _ (bc hh');generalize hy:L[h]=y at *;have HY:H (L[h]?=O y):=(by show _=_;rw[bc hh',hy]);clear hy;cases P:Op.bytesLess y.toList G.toList with
 |true=>
   go_wp2;go_roundw
   case rel=>
    refine⟨h+1,om,by go_num,aN,λi z hi hz=>?_⟩;by_cases e:i=h
    ·rw[e,HY.o]at hz;simp at hz;rw[<-hz];exact Qr P
    exact a8.o i z om hz
   simp[intOf];omega
 |false=>
   by_cases hq:y=G
   ·have hqb:=pd hq;have HQ:H (y=G):=hq;clear hq;go_wp2;refine⟨⟨j+1,L,om,by go_num,by have:=HT.o;exact this,by rw[<-R.o];omega,λg=>?_,HB.o⟩,by simp[intOf];omega⟩;rw[a7.o g,HSN.o g];have hin:G∈L:=(by rw[<-HQ.o];exact iW HY.o);have X:=(a7.o G).1 hin;by_cases hg:G=g
    ·rw[<-hg];simp only[Bool.or_eq_true]at X⊢;rcases X with X|X
     ·simp[X]
     simp[X]
    simp[hg]
   have hqb:=o9 hq;have HUP:H (∀y,L[h]?=O y->G.toList<y.toList):=λz hz=>(by rw[HY.o]at hz;simp at hz;rw[<-hz];exact Ov P hq);have a2:(wr.alloc (Δ #[Z ⟨#[]⟩] 9)).ownsRow w.1.size 9 1 (M (O ⟨g,0,J⟩) n cv) n (L.map cH):=(by have:=HT.o.c.alloc (Δ #[Z ⟨#[]⟩] 9);rw[<-R.o]at this;exact this);have a0:H ((L.map cH).length=n):=(by show _=_;rw[jp,R.o]);go_wp2_with (at_builtin;refine iB _ rfl _ _ 22 rfl w.1.size 9 i9 (Z ⟨#[]⟩) 1 16 underlying22 hi9 hz9 hs9 hb9 rfl dc _ _ _ rfl a2 ⟨wr.1.size,0,J⟩ 1 1 [Z ⟨#[]⟩] rfl rfl ?q1 ?q2 om ?q3 ?q4 ?q5 (wr.1.size+1) ?q6 ?_)
   try case q1=>
    intro j u hj
    match j,hj with
   |0,hj=>simp at hj;subst hj;simp[Addr.add]
   try case q2=>first|rfl|(intro u hu;simp at hu;subst hu;rfl)
   try case q3=>unfold maxLen;omega
   try case q4=>omega
   try case q5=>have:=HB.o.size;simp;omega
   try case q6=>simp
   intro C A U F s hat3 hlt3;have ao:w.1.size<=C:=(F.lt C rfl).1;have ab:H (B w.1.size w U):=(by have X:B w.1.size w (wr.alloc (Δ #[Z ⟨#[]⟩] 9)):=HB.o.l HB.o.size _;refine X.t ⟨s.os,s.tape,s.output,s.size,λb hb=>s.block b (by have:=X.size;omega) (λe=>?_)⟩;have:=(a2.lt b e.symm).1;omega);have D:H (U.ownsRow w.1.size 9 1 (M (O ⟨C,0,J⟩) (n+1) A) (n+1) (L.map cH++[Z ⟨#[]⟩])):=F;clear F s hat3 hlt3 a2;go_wp2;have hcap2:n+1<=A:=AN D.o;have hhI2:(h:Int)<=n:=om;have hcI:(n:Int)+1<=A:=om;have hcne:¬A=h:=om;obtain⟨D1,aw⟩:∃D1,D1=(if A=h+1 then (O ⟨C,0,J⟩:Option Addr) else O ⟨C,h+1,J⟩):=⟨_,rfl⟩;have a4:H (D1=(if A=h+1 then (O ⟨C,0,J⟩:Option Addr) else O ⟨C,h+1,J⟩)):=aw;clear aw;have a6:H ((Builtin.copy_ #[22,22] 3 #[M D1 (n-h) (A-(h+1)),M (O ⟨C,h,J⟩) (n+1-h) (A-h)]).run prog U.drew=.ok (goInt ((n-h:Nat):Int)) (U.drew.setCells C (h+1) ((L.map cH).drop h))):=DL D.o a0.o (λv hv=>by obtain⟨y,_,rfl⟩:=iH.1 hv;rfl) hh a4.o;have r:H ((U.drew.setCells C (h+1) ((L.map cH).drop h)).ownsRow w.1.size 9 1 (M (O ⟨C,0,J⟩) (n+1) A) (n+1) (qK (L.map cH++[Z ⟨#[]⟩]) (h+1) ((L.map cH).drop h))/\B w.1.size w (U.drew.setCells C (h+1) ((L.map cH).drop h))):=(by obtain⟨s1,s2⟩:=Ap ((L.map cH).drop h) (h+1) U.drew _ (aS D.o (λb _=>rfl));have h3:B w.1.size w U.drew:=ab.o.t ((gp U 1).m ab.o.size);exact⟨s1,h3.t (tH s2 ao h3.size)⟩);refine fG (S:=λ_=>True) kr aN (λ_=>?_);refine ar 0 76 (M (O ⟨C,0,J⟩) (n+1) A) aN ?_;refine ar 1 77 (I Q (h:Int)) aN ?_;refine aF 2 78 (I Q ((h:Int)+1)) rfl rfl kr (λ_ _ _ h=>h) (af ⟨by rfl,λwx _=>by go_simp;try exact IntWalk.i64_in _ om⟩) aN ?_;simp only[Act.put,az,aA,aB];refine ar 4 80 (M (O ⟨C,0,J⟩) (n+1) A) aN ?_;refine ar 5 81 (I Q (h:Int)) aN ?_;refine aF 3 79 (M D1 (n-h) (A-(h+1))) rfl rfl kr (λ_ _ _ h=>h) (af ⟨by rfl,λwx _=>by rw[a4.o];go_simp;try (intro hneg;omega)⟩) aN ?_;simp only[Act.put,az,aA,aB];refine aF 6 82 (M (O ⟨C,h,J⟩) (n+1-h) (A-h)) rfl rfl kr (λ_ _ _ h=>h) (af ⟨by rfl,λwx _=>by go_simp;try (intro hneg;omega)⟩) aN ?_;simp only[Act.put,az,aA,aB];refine a9 (rs:=[7]) kr sm ?_;refine aQ rfl (λK hK=>?_) aZ;have hcp:=a6.o;go_simp;clear hcp;refine hK.out _ _ aN (λ_=>?_);clear hK K;refine ea kr ?_ _;obtain⟨V4,an⟩:∃V4,V4=U.drew.setCells C (h+1) ((L.map cH).drop h):=⟨_,rfl⟩;rw[<-an]at r⊢;clear an a6 a4 D;have k4:∃u,V4.cell? ⟨C,h,J⟩=O u:=(by have X:=r.o.1.cellAt h om;have h2:h<(qK (L.map cH++[Z ⟨#[]⟩]) (h+1) ((L.map cH).drop h)).length:=(by have:=r.o.1.1;omega);rw[bc h2]at X;exact⟨_,X⟩);obtain⟨u4,k4⟩:=k4;have f4:=r.o.1.frozenAt h;have T:H (qB (V4.setCell ⟨C,h,J⟩ (Z G)) w.1.size (M (O ⟨C,0,J⟩) (n+1) A) (L.take h++G::L.drop h)/\B w.1.size w (V4.setCell ⟨C,h,J⟩ (Z G))/\(L.take h++G::L.drop h).length=n+1):=by obtain⟨s1,s2⟩:=r.o.1.stored h (Z G);have a1:(L.take h++G::L.drop h).length=n+1:=(by simp;have:=R.o;omega);refine⟨⟨?_,Fx HT.o.d a8.o HUP.o (by rw[<-R.o];exact hh)⟩,r.o.2.t (tH s2 ao r.o.2.size),a1⟩;rw[a1,Fy,<-EE (L.map cH) (Z ⟨#[]⟩) (cH G) h (by rw[a0.o];exact hh)];exact s1
   have ad:H (∀g,g∈L.take h++G::L.drop h↔(aG g (E.take k)||bz g (l.take (j+1)))=true):=λg=>by
    rw[Fz,a7.o g,HSN.o g];by_cases hg:G=g
    ·simp[hg]
    simp[hg]
   clear r;go_wp2;refine⟨⟨j+1,L.take h++G::L.drop h,om,by go_num,T.o.1,by rw[T.o.2.2];omega,ad.o,T.o.2.1⟩,by simp[intOf];omega⟩
 have hII:¬(h:Int)<n:=om;have HUP:H (∀y,L[h]?=O y->G.toList<y.toList):=λz hz=>(by rw[iV (by rw[<-R.o];omega)]at hz;cases hz);have a2:(wr.alloc (Δ #[Z ⟨#[]⟩] 9)).ownsRow w.1.size 9 1 (M pv n cv) n (L.map cH):=(by have:=HT.o.c.alloc (Δ #[Z ⟨#[]⟩] 9);rw[<-R.o]at this;exact this);have a0:H ((L.map cH).length=n):=(by show _=_;rw[jp,R.o]);go_wp2_with (at_builtin;refine iB _ rfl _ _ 22 rfl w.1.size 9 i9 (Z ⟨#[]⟩) 1 16 underlying22 hi9 hz9 hs9 hb9 rfl dc _ _ _ rfl a2 ⟨wr.1.size,0,J⟩ 1 1 [Z ⟨#[]⟩] rfl rfl ?q1 ?q2 om ?q3 ?q4 ?q5 (wr.1.size+1) ?q6 ?_)
 try case q1=>
  intro j u hj
  match j,hj with
 |0,hj=>simp at hj;subst hj;simp[Addr.add]
 try case q2=>first|rfl|(intro u hu;simp at hu;subst hu;rfl)
 try case q3=>unfold maxLen;omega
 try case q4=>omega
 try case q5=>have:=HB.o.size;simp;omega
 try case q6=>simp
 intro C A U F s hat3 hlt3;have ao:w.1.size<=C:=(F.lt C rfl).1;have ab:H (B w.1.size w U):=(by have X:B w.1.size w (wr.alloc (Δ #[Z ⟨#[]⟩] 9)):=HB.o.l HB.o.size _;refine X.t ⟨s.os,s.tape,s.output,s.size,λb hb=>s.block b (by have:=X.size;omega) (λe=>?_)⟩;have:=(a2.lt b e.symm).1;omega);have D:H (U.ownsRow w.1.size 9 1 (M (O ⟨C,0,J⟩) (n+1) A) (n+1) (L.map cH++[Z ⟨#[]⟩])):=F;clear F s hat3 hlt3 a2;go_wp2;have hcap2:n+1<=A:=AN D.o;have hhI2:(h:Int)<=n:=om;have hcI:(n:Int)+1<=A:=om;have hcne:¬A=h:=om;obtain⟨D1,aw⟩:∃D1,D1=(if A=h+1 then (O ⟨C,0,J⟩:Option Addr) else O ⟨C,h+1,J⟩):=⟨_,rfl⟩;have a4:H (D1=(if A=h+1 then (O ⟨C,0,J⟩:Option Addr) else O ⟨C,h+1,J⟩)):=aw;clear aw;have a6:H ((Builtin.copy_ #[22,22] 3 #[M D1 (n-h) (A-(h+1)),M (O ⟨C,h,J⟩) (n+1-h) (A-h)]).run prog U.drew=.ok (goInt ((n-h:Nat):Int)) (U.drew.setCells C (h+1) ((L.map cH).drop h))):=DL D.o a0.o (λv hv=>by obtain⟨y,_,rfl⟩:=iH.1 hv;rfl) hh a4.o;have r:H ((U.drew.setCells C (h+1) ((L.map cH).drop h)).ownsRow w.1.size 9 1 (M (O ⟨C,0,J⟩) (n+1) A) (n+1) (qK (L.map cH++[Z ⟨#[]⟩]) (h+1) ((L.map cH).drop h))/\B w.1.size w (U.drew.setCells C (h+1) ((L.map cH).drop h))):=(by obtain⟨s1,s2⟩:=Ap ((L.map cH).drop h) (h+1) U.drew _ (aS D.o (λb _=>rfl));have h3:B w.1.size w U.drew:=ab.o.t ((gp U 1).m ab.o.size);exact⟨s1,h3.t (tH s2 ao h3.size)⟩);refine fG (S:=λ_=>True) kr aN (λ_=>?_);refine ar 0 76 (M (O ⟨C,0,J⟩) (n+1) A) aN ?_;refine ar 1 77 (I Q (h:Int)) aN ?_;refine aF 2 78 (I Q ((h:Int)+1)) rfl rfl kr (λ_ _ _ h=>h) (af ⟨by rfl,λwx _=>by go_simp;try exact IntWalk.i64_in _ om⟩) aN ?_;simp only[Act.put,az,aA,aB];refine ar 4 80 (M (O ⟨C,0,J⟩) (n+1) A) aN ?_;refine ar 5 81 (I Q (h:Int)) aN ?_;refine aF 3 79 (M D1 (n-h) (A-(h+1))) rfl rfl kr (λ_ _ _ h=>h) (af ⟨by rfl,λwx _=>by rw[a4.o];go_simp;try (intro hneg;omega)⟩) aN ?_;simp only[Act.put,az,aA,aB];refine aF 6 82 (M (O ⟨C,h,J⟩) (n+1-h) (A-h)) rfl rfl kr (λ_ _ _ h=>h) (af ⟨by rfl,λwx _=>by go_simp;try (intro hneg;omega)⟩) aN ?_;simp only[Act.put,az,aA,aB];refine a9 (rs:=[7]) kr sm ?_;refine aQ rfl (λK hK=>?_) aZ;have hcp:=a6.o;go_simp;clear hcp;refine hK.out _ _ aN (λ_=>?_);clear hK K;refine ea kr ?_ _;obtain⟨V4,an⟩:∃V4,V4=U.drew.setCells C (h+1) ((L.map cH).drop h):=⟨_,rfl⟩;rw[<-an]at r⊢;clear an a6 a4 D;have k4:∃u,V4.cell? ⟨C,h,J⟩=O u:=(by have X:=r.o.1.cellAt h om;have h2:h<(qK (L.map cH++[Z ⟨#[]⟩]) (h+1) ((L.map cH).drop h)).length:=(by have:=r.o.1.1;omega);rw[bc h2]at X;exact⟨_,X⟩);obtain⟨u4,k4⟩:=k4;have f4:=r.o.1.frozenAt h;have T:H (qB (V4.setCell ⟨C,h,J⟩ (Z G)) w.1.size (M (O ⟨C,0,J⟩) (n+1) A) (L.take h++G::L.drop h)/\B w.1.size w (V4.setCell ⟨C,h,J⟩ (Z G))/\(L.take h++G::L.drop h).length=n+1):=by obtain⟨s1,s2⟩:=r.o.1.stored h (Z G);have a1:(L.take h++G::L.drop h).length=n+1:=(by simp;have:=R.o;omega);refine⟨⟨?_,Fx HT.o.d a8.o HUP.o (by rw[<-R.o];exact hh)⟩,r.o.2.t (tH s2 ao r.o.2.size),a1⟩;rw[a1,Fy,<-EE (L.map cH) (Z ⟨#[]⟩) (cH G) h (by rw[a0.o];exact hh)];exact s1
 have ad:H (∀g,g∈L.take h++G::L.drop h↔(aG g (E.take k)||bz g (l.take (j+1)))=true):=λg=>by
  rw[Fz,a7.o g,HSN.o g];by_cases hg:G=g
  ·simp[hg]
  simp[hg]
 clear r;go_wp2;refine⟨⟨j+1,L.take h++G::L.drop h,om,by go_num,T.o.1,by rw[T.o.2.2];omega,ad.o,T.o.2.1⟩,by simp[intOf];omega⟩
theorem Ml(d:mB w rb W need p cap E):
  Φ prog 53 #[Y (O ⟨rb,0,J⟩),I Q (E.length:Int)] w λe a=>∃v,e=N v/\∃L,qB a w.1.size v L/\L.length<=20000000/\(∀g,g∈L↔aG g E=true)/\B w.1.size w a:=by
 refine(EG E.length d).m ?_;rintro e a ⟨v,rfl,L,f,h,b,c⟩;exact⟨v,rfl,L,f,h,λg=>by rw[b g,ip om],c⟩
end
end
section
open Go.RowKit Go.Maps
theorem GJ(v:Value)(b:List (List UInt8))(w:Ω)(a:Nat)(h:w.ownsRow a 9 1 v b.length (b.map encStr))(i:b.length<=100000):
  Φ prog 198 #[v] w λe d=>e=N (Ψ #[])/\d.ownsRow a 9 1 v b.length ((b.mergeSort leB).map encStr)/\w.grownBy d v.ownBlock:=by
 have c:=h;rcases h.2 with ⟨rfl,h0⟩|⟨g,cap,cur,rfl,hg,hb,h1,h2,h3,h4⟩
 ·have f:=iG.1 h0;subst f;refine(slices_Sort_string_none J 0 w).m ?_;rintro e d ⟨rfl,rfl⟩;have e:([]:List (List UInt8)).mergeSort leB=[]:=by simp
  rw[e];exact⟨rfl,c,⟨rfl,rfl,rfl,aa _,λ_ _ _=>rfl⟩⟩
 refine(slices_Sort_string g 0 cap b w (holds_of_block hb (by simpa using h4)) (bP.1 hb).1 om).m ?_;rintro e d ⟨rfl,n,j,rfl⟩;exact⟨rfl,ownsRow_sorted (List.length_mergeSort _) hg hb h1 h2 h3,grownBy_sorted _⟩
section
variable {w:Ω}{tb:Nat}{who:Nat->Nat×ByteArray×Nat}{W need n r:Nat}{ep:Nat->List ai}
theorem EL(d:cd w tb who W need n r ep)(hr:r<=80000):
  Φ prog 197 #[Y (O ⟨tb,0,J⟩)] w λe w'=>e=N (.func (.func 239) #[] #[Y (O ⟨w.1.size,0,J⟩)])/\∃(v:Value) (i:List (List UInt8)),w'.cell? ⟨w.1.size,0,J⟩=O v/\w'.ownsRow w.1.size 9 1 v i.length (i.map encStr)/\i.length<=80000/\i.Nodup/\(∀g:ByteArray,g.1.toList∈i↔∃e,bz g (ep e)=true)/\B w.1.size w w'/\w.1.size<w'.1.size:=by
 obtain⟨i9,hi9,hz9,hs9,hb9⟩:=eb Bt;obtain⟨mb,m,D,tr,sp,d⟩:=d.c;have HD:=hid d;have hmr:=d.t;have hmlt:=d.ζ;have hD1:∀o,dI (w.alloc o) tb mb m D tr sp who W need n r ep:=λo=>d.k ((aj _ w).l nl o);have c3:∀o,(w.alloc o).cell? ⟨tb,3,J⟩=O (.map (O mb)):=λo=>(hD1 o).y;have X:∀o,(w.alloc o).ownsMap prog 9 cB mb m D:=λo=>(hD1 o).h;have HB0:H (∀o,B w.1.size w (w.alloc o)):=λo=>(aj _ w).l nl o;go_enter func197,ntmps197;go_wp2_with (first|(at_range;refine wpList_range_own _ rfl _ 219 rfl 9 290 ju underlying219 _ mb m D rfl (X _) ?_;intro w0 L G hs0));go_frame;have HC0:=hid ((G.block _ sm sm).trans (bn w _));have HBB:=hid ((HB0.o _).t ⟨G.os,G.tape,G.output,G.size,λk hk=>G.block k (by simp;omega) sm⟩);rw[fi]at L hs0⊢;obtain⟨RB,hRB⟩:∃RB,RB=w.1.size+1:=⟨_,rfl⟩;rw[<-hRB]at L hs0⊢;have HRB:=hid hRB;have hRBw:w.1.size<RB:=om;clear hRB c3 X;go_loopw [4] (λ_ V=>∃left cn i v,V.ranges prog 9 cB mb RB m D left cn/\Collected D left i/\V.1[w.1.size]?=O (Δ #[v] 22)/\V.ownsRow (w.1.size+1) 9 1 v i.length (i.map encStr)/\i.length+cn<=Maps.size D/\B w.1.size w V) (λ_ V=>V.rangeLeft mb RB)
 case atStart=>exact⟨_,_,[],M J 0 0,L,Collected.start D,HC0.o,fH _ _ _ _,by simp,HBB.o⟩
 obtain⟨left,cn,i,v,U,hC,hbx,hrow,hlen,hbl⟩:=hrel;have hsz:=U.owns.size_le;have HC:=hid hC;have T:=hid hbx;have q:=hid hrow;have HBL:=hid hbl;have R:=hid U;have hBs:=(bP.1 hbx).1;go_wp2_with (first|(at_next;refine wpList_next_ranges (α:=List UInt8) (β:=Value) _ rfl _ rfl 9 ju cB encStr (λv=>v) (λkey kl hk=>(by obtain⟨x,hx,_⟩:=Maps.keyOf_str underlying9 hk;exact⟨x,hx⟩)) (λv y _=>⟨v,rfl⟩) mb RB m _ _ _ rfl U ?_ ?_))
 ·intro hc0 hl0;have hperm:=HC.o.perm R.o.owns ju underlying9 hl0;have k0:wr.cell? ⟨w.1.size,0,J⟩=O v:=(by simp[World.cell?,T.o]);have HND:=hid HC.o.1
  have HMEM:H (∀g:ByteArray,g.1.toList∈i↔∃e,bz g (ep e)=true):=λg=>by
   rw[HC.o.2,hl0];simp only[and_true];rw[<-HD.o.u g];constructor
   ·intro h;cases ht:tr g with
   |some b=>rfl
   |none=>
     have:=has_false_of_atKey (D:=D) (k:=.string g.1.toList) (λz=>by rw[HD.o.f g z,ht];rfl);rw[h]at this;cases this
   intro h;obtain⟨b,hb⟩:=Option.isSome_iff_exists.1 h;exact has_true_of_atKey (y:=.held (.map (O b))) (λz=>by rw[HD.o.f g z,hb];rfl)
  have hl9:i.length<=80000:=om;go_wp2_with fail;refine(GJ v i wr (w.1.size+1) q.o om).m ?_;rintro e K ⟨rfl,ho2,a⟩;have hne:O w.1.size≠v.ownBlock:=row_ne_low q.o om;have HX2:H (K.1[w.1.size]?=O (Δ #[v] 22)):=(a.block _ hBs hne).trans T.o;have HO2:H (K.ownsRow w.1.size 9 1 v (i.mergeSort leB).length ((i.mergeSort leB).map encStr)):=(by show World.ownsRow _ _ _ _ _ _ _;rw[List.length_mergeSort];exact sk ho2 om);have HB2:=hid (HBL.o.t ⟨a.os,a.tape,a.output,a.size,λk hk=>a.block k om (row_ne_low q.o om)⟩);have hs2:w.1.size<K.1.size:=(by have:=a.size;omega);go_wp2;go_ret;refine⟨rfl,v,i.mergeSort leB,by simp[World.cell?,HX2.o],HO2.o,by rw[List.length_mergeSort];exact hl9,(tu i leB).nodup_iff.2 HND.o,λg=>?_,HB2.o,hs2⟩;rw[(tu i leB).mem_iff];exact HMEM.o g
 intro x c kl yd yp K cnt2 a4 hlk hv hat a1 hlt a hs2 hen;obtain⟨x',ex,rfl,_⟩:=Maps.keyOf_str underlying9 a4;obtain rfl:x=x':=encStr_inj ex;have E:=(a.block _ hBs (λe=>by simp at e;omega)).trans T.o;have A:=aS q.o (λb hb=>a.block b (aU q.o hb) (λe=>row_ne_iter q.o R.o (by rw[hb];exact e.symm)));obtain⟨xb,hxb⟩:∃xb,encStr x=Z xb:=⟨_,rfl⟩;have HXB:=hid hxb;have hpo:=A.alloc (Δ #[Z xb] 9);rw[hxb]at hen⊢;have k0:∀o,(K.alloc o).cell? ⟨w.1.size,0,J⟩=O v:=λo=>(by have h1:=(cX K o _ om).trans E;simp[World.cell?,h1]);have k0':K.cell? ⟨w.1.size,0,J⟩=O v:=(by simp[World.cell?,E]);have HBX2:=hid E;have s:=hid A;have a0:=hid a1;have HCS:=hid (HC.o.step hlk hat);have HBL2:=hid (HBL.o.t ⟨a.os,a.tape,a.output,a.size,λk hk=>a.block k om (λe=>by simp at e;omega)⟩);have HLT:=hid hlt;have hs2':w.1.size<K.1.size:=om;clear a4 hlk hv hat a1 hlt a hs2 A E U HC q T HBL ex hxb;go_wp2_with (at_builtin;refine iB _ rfl _ _ 22 rfl (w.1.size+1) 9 i9 (Z ⟨#[]⟩) 1 16 underlying22 hi9 hz9 hs9 hb9 rfl dc _ _ _ rfl hpo ⟨K.1.size,0,J⟩ 1 1 [Z xb] rfl rfl ?q1 ?q2 om ?q3 ?q4 ?q5 (K.1.size+1) ?q6 ?_)
 try case q1=>
  intro j u hj
  match j,hj with
 |0,hj=>simp at hj;subst hj;simp[Addr.add]
 try case q2=>first|rfl|(intro u hu;simp at hu;subst hu;rfl)
 try case q3=>unfold maxLen;omega
 try case q4=>omega
 try case q5=>simp;omega
 try case q6=>simp
 intro g3 S V3 P C hat3 hlt3;have hne3:O w.1.size≠v.ownBlock:=row_ne_low s.o om;have hX3:=(C.block _ (by simp;omega) hne3).trans ((cX K _ _ om).trans HBX2.o);have k3:V3.cell? ⟨w.1.size,0,J⟩=O v:=(by simp[World.cell?,hX3]);have f3:V3.frozen? ⟨w.1.size,0,J⟩=false:=(by simp[World.frozen?,hX3]);have HX4:H ((V3.setCell ⟨w.1.size,0,J⟩ (M (O ⟨g3,0,J⟩) (i.length+1) S)).1[w.1.size]?=O (Δ #[M (O ⟨g3,0,J⟩) (i.length+1) S] 22)):=(by show _=_;simp[World.setCell,dU,hX3]);have F:=hid ((World.grownBy_alloc K _ _).trans C);have HO3:H (V3.ownsRow (w.1.size+1) 9 1 (M (O ⟨g3,0,J⟩) (i.length+1) S) (i.length+1) ((i++[x]).map encStr)):=(by have:(i++[x]).map encStr=i.map encStr++[Z xb]:=(by rw[iY,<-HXB.o];rfl);show World.ownsRow _ _ _ _ _ _ _;rw[this];exact P);have hgne:g3≠w.1.size:=(by have:=(P.lt g3 rfl).1;omega);go_wp2;have a3:V3.grownBy (V3.setCell ⟨w.1.size,0,J⟩ (M (O ⟨g3,0,J⟩) (i.length+1) S)) (O w.1.size):=⟨rfl,rfl,rfl,by simp[World.setCell],λb _ hn=>bN _ _ _ _ (λe=>hn (by rw[e]))⟩;have hrgA:=a0.o.kept F.o (row_ne_low s.o om) (row_ne_iter s.o a0.o);have a2:=hrgA.kept a3 (λe=>by simp at e;omega) (λe=>by simp at e;omega);refine⟨⟨_,_,i++[x],M (O ⟨g3,0,J⟩) (i.length+1) S,a2,HCS.o,HX4.o,?_,?_,?_⟩,?_⟩
 ·rw[bU];exact aS HO3.o (λb hb=>a3.block b (aU HO3.o hb) (λe=>by simp[Value.ownBlock]at hb;simp at e;omega))
 ·have:=HLT.o;simp;omega
 ·have h1:=HBL2.o.t ⟨F.o.os,F.o.tape,F.o.output,F.o.size,λk hk=>F.o.block k om (row_ne_low s.o om)⟩;exact h1.c (p:=⟨w.1.size,0,J⟩) nl _
 rw[a2.left_eq,R.o.left_eq];exact HLT.o
end
end
section
open Go.RowKit Go.Maps Go.Shelf
attribute [local go_sem] Oper.semAt_some
def lr(S:Nat->Prop)(A B:Ω):Prop:=∀b,S b->B.1[b]?=A.1[b]?
theorem Bu{S:Nat->Prop}{A a C:Ω}(h:lr S A a)(k:lr S a C):lr S A C:=λb c=>(k b c).trans (h b c)
theorem GK{S:Nat->Prop}{w:Ω}(d:∀b,S b->b<w.1.size)(W:Ω)(l:Nat)(o a:Obj)(f:w.1.size<=l)(_:W.1[l]?=O o)(_:o.isCells=false)(_:o.isWalk=false):lr S W (W.putObj l a):=λb c=>World.putObj_heap_other (λe=>by have:=d b c;omega)
section
variable {A:ByteArray->Prop}
structure sU (W:Ω) (Bs:Nat) (p:Option Addr) (xs:List { x:ByteArray // A x }) (cap:Nat):Prop where
 c:W.cell? ⟨Bs,0,J⟩=O (M p xs.length cap)
 a:∀j x,xs[j]?=O x->∃b,p=O ⟨b,0,J⟩/\W.cell? ⟨b,j,J⟩=O (Z x.1)
theorem Qw(n:Nat)(hn:1<=n)(l Bs:Nat)(p:Option Addr)(cap:Nat)(xs:List { x:ByteArray // A x })(S:Nat->Prop)(K:∀b o,p=O ⟨b,o,J⟩->S b)(hl:xs.length<=80000)(d C:List { x:ByteArray // A x }->Ω->Prop)
  (hY:∀pre x W1,d pre W1->pre.length<xs.length->YieldAt Fence.wide (n-1) prog l #[Z x.1] W1 λe h=>(e=N (.bool true)/\d (pre++[x]) h/\lr S W1 h)\/(e=N (.bool false)/\C (pre++[x]) h))
  (W:Ω)(R:sU W Bs p xs cap)(h0:d [] W):
  CallsIn Fence.wide n prog 239 #[.func (.yield l) #[] #[],Y (O ⟨Bs,0,J⟩)] W λe h=>(∃v,e=N v)/\((∃ys,ys=xs/\d ys h)\/(∃pre,pre <+: xs/\C pre h)):=by
 have j:=R.c;have HT:=hid R;obtain⟨f,X⟩:∃f,f=xs.length:=⟨_,rfl⟩;have HN:=hid X;have y:=hid K;have E:=hid h0;have HY:=hid hY;rw[<-X]at j hl;have hNI:(f:Int)<=80000:=om;refine callsIn_of_wp func239 rfl aN ?_ rfl;simp only[ntmps239,List.size_toArray,eF,mH,Nat.reduceAdd,Nat.reduceSub,Array.replicate_succ,Array.replicate_zero,List.push_toArray,List.append_toArray,j9,ni];gi_wp2;gi_loopw [4,7] (λ_ i wr=>∃k:Nat,k<=f/\i=I Q (k:Int)/\d (xs.take k) wr/\lr S W wr) (λ_ i _=>f-(intOf i).toNat)
 case atStart=>exact⟨0,aX _,rfl,E.o,λ_ _=>rfl⟩
 obtain⟨k,hk,rfl,hJ,z⟩:=hrel;have V:=hid hJ;have q:=hid z;by_cases D:k<f
 ·have hkI:(k:Int)<f:=om;have r:k<xs.length:=(by rw[<-HN.o];exact D);obtain⟨b,m,hc⟩:=HT.o.a k _ (bc r);have P:wr.cell? ⟨b,k,J⟩=O (Z xs[k].1):=(by rw[bW (q.o b (y.o b 0 m))];exact hc);have s:H (xs.take k++[xs[k]]=xs.take (k+1)):=(by show _=_;rw[jL,bc r];rfl);obtain⟨fn,tmps,u,U,hy,hR⟩:=HY.o (xs.take k) xs[k] wr V.o (by rw[fj];omega);generalize xs[k]=x at *;obtain⟨x,hx⟩:=x;simp only at P hy hR;subst m;gi_wp2;refine hR.mono ?_;rintro e T (⟨rfl,w,G⟩|⟨rfl,t⟩)
  ·have g:H (d (xs.take (k+1)) T):=(by rw[<-s.o];exact w);have L:=hid (Bu q.o G);gi_wp2;go_roundw
   case rel=>exact⟨k+1,om,by go_num,g.o,L.o⟩
   simp[intOf];omega
  have g:H (C (xs.take (k+1)) T):=(by rw[<-s.o];exact t);gi_wp2;refine bK (results_none rfl _ _ _) rfl ?_;exact⟨⟨_,rfl⟩,.inr ⟨_,List.take_prefix _ _,g.o⟩⟩
 have F:k=f:=om;subst F;have hII:¬(k:Int)<k:=om;gi_wp2;go_end0;refine⟨⟨_,rfl⟩,.inl ?_⟩;have:=V.o;rw[HN.o,eL]at this;exact this
theorem sU.d{W i:Ω}{e:Nat}{p:Option Addr}{xs:List { x:ByteArray // A x }}{cap:Nat}{S:Nat->Prop}(h:sU W e p xs cap)(g:S e)(f:∀b o,p=O ⟨b,o,J⟩->S b)(k:lr S W i):sU i e p xs cap where
 c:=by rw[bW (k e g)];exact h.c
 a:=λj x n=>by obtain⟨b,l,m⟩:=h.a j x n;exact⟨b,l,by rw[bW (k b (f b 0 l))];exact m⟩
theorem C6(n:Nat)(s:1<=n)(w:Ω)(e:Nat)(p:Option Addr)(cap:Nat)(xs:List { x:ByteArray // A x })(S:Nat->Prop)(h:S e)(c:∀b o,p=O ⟨b,o,J⟩->S b)(q:xs.length<=80000)(g:∀b,S b->b<w.1.size)(j:sU w e p xs cap):
  SeqStopsK Fence.wide n prog 239 #[Y (O ⟨e,0,J⟩)] (λx:{ x:ByteArray // A x }=>#[Z x.1]) (lr S) (λu=>u=xs) (λf=>f <+: xs) xs.length w:=λl a r W t _ _ i m=>
 Qw n s l e p cap xs S c q a r i W (j.d h c (λb k=>t.block b (g b k))) m
end
end
end Go.Proofs.YtlaodjjfmhipnaaGreatDoor
