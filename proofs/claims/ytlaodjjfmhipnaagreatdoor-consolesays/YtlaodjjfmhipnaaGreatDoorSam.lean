/-
  Part of it.
-/
import Derived.Test.YtlaodjjfmhipnaaGreatDoorSae
import Derived.Test.YtlaodjjfmhipnaaGreatDoorSal
set_option maxRecDepth 100000
set_option maxHeartbeats 8000000
set_option linter.all false
namespace Go.Proofs.YtlaodjjfmhipnaaGreatDoor
open Go.Proofs.Tryz
open Value renaming int→I,string→Z,pointer→Y,slice→M,tuple→Ψ
open Ending renaming returned→N
open Obj renaming cells→Δ
open Go renaming World→Ω,Calls→Φ
open IntKind renaming i64→Q
open Option renaming some→O,none→J
open RowKit renaming Below→B,Hid→H
section
open Go.RowKit Go.Maps
structure lV where
 a:ByteArray
 b:Option Addr
 d:Nat
structure nG (V:Ω) (q:Option Addr) (cs:List lV) (ep:Nat->List ai) (W need L n:Nat):Prop where
 a:∀i x,cs[i]?=O x->∃b,q=O ⟨b,0,J⟩/\b<V.1.size/\V.cell? ⟨b,i*3,J⟩=O (Z x.a)/\V.cell? ⟨b,i*3+1,J⟩=O (I Q (aD x.a:Int))/\V.cell? ⟨b,i*3+1+1,J⟩=O (M x.b n x.d)/\oA V x.b (aI x.a ep W need) L n
theorem nG.c{V V':Ω}{q:Option Addr}{g:List lV}{ep:Nat->List ai}{W e L n:Nat}(h:nG V q g ep W e L n)(f:B V.1.size V V'):nG V' q g ep W e L n where
 a:=λi x l=>by obtain⟨b,o,d,m,p,j,k⟩:=h.a i x l;exact⟨b,o,bg d f.size,by rw[f.cell d];exact m,by rw[f.cell d];exact p,by rw[f.cell d];exact j,k.a f⟩
structure pG (w V:Ω) (g was:ByteArray) (pg:Option Addr) (n cg:Nat) (p:ByteArray) (c:Nat) (wb:Bool):Prop where
 b:B w.1.size w V
 e:V.1[w.1.size]?=O (Δ #[Z g,I Q (aD g:Int),M pg n cg] 279)
 h:V.1[w.1.size+1]?=O (Δ #[Z was] 284)
 d:V.1[w.1.size+1+1]?=O (Δ #[Z ⟨#[]⟩,I Q 0,.bool false] 281)
 a:V.1[w.1.size+1+1+1]?=O (Δ #[Z p,I Q (c:Int),.bool wb] 281)
theorem pG.i{w V V':Ω}{g j:ByteArray}{k:Option Addr}{n o:Nat}{p:ByteArray}{c:Nat}{l:Bool}(h:pG w V g j k n o p c l)(f:B V.1.size V V'):pG w V' g j k n o p c l where
 b:=h.b.t (f.m h.b.size)
 e:=(f.block _ (bP.1 h.e).1).trans h.e
 h:=(f.block _ (bP.1 h.h).1).trans h.h
 d:=(f.block _ (bP.1 h.d).1).trans h.d
 a:=(f.block _ (bP.1 h.a).1).trans h.a
theorem pG.j(w:Ω)(g a:ByteArray)(b:Option Addr)(n c:Nat):pG w ((((w.alloc (Δ #[Z g,I Q (aD g:Int),M b n c] 279)).alloc (Δ #[Z a] 284)).alloc (Δ #[Z ⟨#[]⟩,I Q 0,.bool false] 281)).alloc (Δ #[Z ⟨#[]⟩,I Q 0,.bool false] 281)) g a b n c ⟨#[]⟩ 0 false:=by
 have q:=bn w (Δ #[Z g,I Q (aD g:Int),M b n c] 279);have p:=fi w (Δ #[Z g,I Q (aD g:Int),M b n c] 279);generalize hX1:w.alloc (Δ #[Z g,I Q (aD g:Int),M b n c] 279)=X1 at *;have f:=bn X1 (Δ #[Z a] 284);have k:=fi X1 (Δ #[Z a] 284);have o:=cX X1 (Δ #[Z a] 284);generalize hX2:X1.alloc (Δ #[Z a] 284)=X2 at *;have e:=bn X2 (Δ #[Z ⟨#[]⟩,I Q 0,.bool false] 281);have i:=fi X2 (Δ #[Z ⟨#[]⟩,I Q 0,.bool false] 281);have m:=cX X2 (Δ #[Z ⟨#[]⟩,I Q 0,.bool false] 281);generalize hX3:X2.alloc (Δ #[Z ⟨#[]⟩,I Q 0,.bool false] 281)=X3 at *;have h:=bn X3 (Δ #[Z ⟨#[]⟩,I Q 0,.bool false] 281);have d:=cX X3 (Δ #[Z ⟨#[]⟩,I Q 0,.bool false] 281);rw[p]at f k;rw[k]at e i;rw[i]at h;refine⟨?_,?_,?_,?_,h⟩
 ·rw[<-hX3,<-hX2,<-hX1];exact((((aj _ w).l nl _).l sm _).l (by simp;omega) _).l (by simp;omega) _
 ·rw[d _ om,m _ om,o _ om];exact q
 ·rw[d _ om,m _ om];exact f
 rw[d _ om];exact e
theorem dR{V:Ω}{b i:Nat}{a:Array Value}{t:TypeId}{v:Value}(h:V.1[b]?=O (Δ a t))(c:a[i]?=O v):V.cell? ⟨b,i,J⟩=O v:=by simp[World.cell?,h,c]
theorem qC{V:Ω}{b i:Nat}{a:Array Value}{t:TypeId}(h:V.1[b]?=O (Δ a t)):V.frozen? ⟨b,i,J⟩=false:=by simp[World.frozen?,h]
theorem TW{X V:Ω}{d:Nat}{a b c:Value}(f:B X.1.size X V)(e:X.1.size<=d):B X.1.size X (((V.setCell ⟨d,0,J⟩ a).setCell ⟨d,1,J⟩ b).setCell ⟨d,2,J⟩ c):=
 ((f.c (p:=⟨d,0,J⟩) e _).c (p:=⟨d,1,J⟩) e _).c (p:=⟨d,2,J⟩) e _
theorem TV{V w' X:Ω}{a b c:Value}{t:TypeId}(g:B V.1.size V w')(e:V.1=X.1.push (Δ #[a,b,c] t)):w'.cell? ⟨X.1.size,0,J⟩=O a/\w'.cell? ⟨X.1.size,1,J⟩=O b/\w'.cell? ⟨X.1.size,2,J⟩=O c/\(∀i,w'.frozen? ⟨X.1.size,i,J⟩=false)/\H (w'.1[X.1.size]?=O (Δ #[a,b,c] t)):=by
 have f:X.1.size<V.1.size:=by rw[e];simp
 have d:w'.1[X.1.size]?=O (Δ #[a,b,c] t):=by rw[g.block _ f,e];simp
 exact⟨dR (i:=0) d rfl,dR (i:=1) d rfl,dR (i:=2) d rfl,λi=>qC d,d⟩
structure BJ (e:Ending) (T:ByteArray->Nat) (score:Nat) (g was:ByteArray) (l:List ByteArray):Prop where
 a:∃(p:ByteArray) (c:Nat) (wb:Bool),e=N (.agg #[Z p,I Q (c:Int),.bool wb])/\jH aD T score g was l p c wb/\c<=8
section
variable {w:Ω}{tb xb:Nat}{F:Nat->Prop}{W need span score k L n:Nat}{ep:Nat->List ai}{f:Nat->ByteArray->ByteArray}
theorem FC(g s:ByteArray)(K:Option Addr)(cg:Nat)(q:Option Addr)(cap:Nat)(C:List lV)(x:ga w xb tb F span score k f)(hg:oA w K (aI g ep W need) L n)(hc:nG w q C ep W need L n)(hn:n<=8)(hl:C.length<=80000)(h1:1<=score)(h8:score<=8):
  Φ prog 196 #[Y (O ⟨xb,0,J⟩),.agg #[Z g,I Q (aD g:Int),M K n cg],M q C.length cap,.agg #[Z s]] w λe U=>BJ e (λy=>dX (aI g ep W need) (aI y ep W need) L n) score g s (C.map (·.a))/\B w.1.size w U:=by
 have HB0:=pG.j w g s K n cg;have HB0:H _:=HB0;have HG:H (oA w K (aI g ep W need) L n):=hg;have HC:H (nG w q C ep W need L n):=hc;obtain⟨xv,ms,x⟩:=x.b;have HX:H (w.cell? ⟨xb,2,J⟩=O (I Q (score:Int))/\xb<w.1.size):=⟨x.t,x.a⟩;obtain⟨T,hT⟩:∃T:ByteArray->Nat,T=λy=>dX (aI g ep W need) (aI y ep W need) L n:=⟨_,rfl⟩;have HT:H (T=λy=>dX (aI g ep W need) (aI y ep W need) L n):=hT;obtain⟨r,hN⟩:∃r,r=C.length:=⟨_,rfl⟩;have HN:H (r=C.length):=hN;rw[<-hT,<-hN];rw[<-hN]at hl;have hNI:(r:Int)<=80000:=om;have hsI:(score:Int)<=8:=om;obtain⟨kg,hkg⟩:∃kg,kg=aD g:=⟨_,rfl⟩;rw[<-hkg]at HB0⊢;have HKG:H (kg=aD g):=hkg;have hkg3:(kg:Int)<=3:=by have:=vO g;omega
 clear hg hc x hT hN hkg;go_enter func196,ntmps196;go_wp2;go_loopw [11,12,15] (λ_ _ i V=>∃(m:Nat) (p:ByteArray) (c:Nat) (z:Bool),m<=r/\i=I Q (m:Int)/\pG w V g s K n cg p c z/\jH aD T score g s ((C.map (·.a)).take m) p c z/\c<=8) (λ_ _ i _=>r-(intOf i).toNat)
 case atStart=>exact⟨0,⟨#[]⟩,0,false,aX _,rfl,HB0.o,by rw[List.take_zero];exact jH.h,om⟩
 obtain⟨m,p,c,z,hm,rfl,hB,hBs,hc8⟩:=hrel;have HB:H (pG w wr g s K n cg p c z):=hB;have HBs:H (jH aD T score g s ((C.map (·.a)).take m) p c z):=hBs;clear hB hBs HB0;by_cases hlt:m<r
 case neg=>have hmm:m=r:=om;subst hmm;have hII:¬(m:Int)<m:=om;have k90:=dR (i:=0) HB.o.a rfl;have k91:=dR (i:=1) HB.o.a rfl;have k92:=dR (i:=2) HB.o.a rfl;have k80:=dR (i:=0) HB.o.d rfl;have k81:=dR (i:=1) HB.o.d rfl;have k82:=dR (i:=2) HB.o.d rfl;have f8:=λi=>qC (i:=i) HB.o.d;have HF:H (∀V:Ω,V=(((wr.setCell ⟨w.1.size+1+1,0,J⟩ (Z p)).setCell ⟨w.1.size+1+1,1,J⟩ (I Q (c:Int))).setCell ⟨w.1.size+1+1,2,J⟩ (.bool z))->V.1[w.1.size+1+1]?=O (Δ #[Z p,I Q (c:Int),.bool z] 281)/\B w.1.size w V):=(by rintro V rfl;refine⟨by simp[World.setCell,dU,HB.o.d],?_⟩;exact((HB.o.b.c (p:=⟨w.1.size+1+1,0,J⟩) (by show _<=w.1.size+1+1;omega) _).c (p:=⟨w.1.size+1+1,1,J⟩) (by show _<=w.1.size+1+1;omega) _).c (p:=⟨w.1.size+1+1,2,J⟩) (by show _<=w.1.size+1+1;omega) _);have HE:H (jH aD T score g s (C.map (·.a)) p c z):=(by have:=HBs.o;rw[HN.o,ip sm]at this;exact this);go_wp2;obtain⟨hv,hbv⟩:=HF.o _ rfl;have v0:=dR (i:=0) hv rfl;have v1:=dR (i:=1) hv rfl;have v2:=dR (i:=2) hv rfl;generalize (((wr.setCell ⟨w.1.size+1+1,0,J⟩ (Z p)).setCell ⟨w.1.size+1+1,1,J⟩ (I Q (c:Int))).setCell ⟨w.1.size+1+1,2,J⟩ (.bool z))=V at *;exact bK (v:=.agg #[Z p,I Q (c:Int),.bool z]) (by simp[results,results196,go_sem,v0,v1,v2]) rfl ⟨⟨p,c,z,rfl,HE.o,hc8⟩,hbv⟩
 have hmI:(m:Int)<r:=om;have hm':m<C.length:=(by rw[<-HN.o];exact hlt);obtain⟨b,hqb,hblt,e0,e1,e2,hpo⟩:=(HC.o.c HB.o.b).a m _ (bc hm');have HTK:H ((C.map (·.a)).take (m+1)=(C.map (·.a)).take m++[C[m].a]):=(by show _=_;rw[jL,bc (by simpa using hm')];simp);generalize C[m]=y at *;obtain⟨u,yp,yc⟩:=y;simp only at e0 e1 e2 hpo HTK;subst hqb;obtain⟨ky,hky⟩:∃ky,ky=aD u:=⟨_,rfl⟩;have HKY:H (ky=aD u):=hky;have hky3:(ky:Int)<=3:=(by have:=vO u;omega);rw[<-hky]at e1;have HPO:H (oA wr yp (aI u ep W need) L n):=hpo;have hsw:=HB.o.b.size;have hws:w.1.size+1+1+1<wr.1.size:=(bP.1 HB.o.a).1;have HA:H (∀o,pG w (wr.alloc o) g s K n cg p c z):=λo=>HB.o.i ((aj _ wr).l nl o);have k51:∀o,(wr.alloc o).cell? ⟨w.1.size,1,J⟩=O (I Q (kg:Int)):=λo=>(by rw[HKG.o];exact dR (i:=1) (HA.o o).e rfl);clear hpo hky;by_cases hkk:ky<=kg
 ·have hkI:(ky:Int)<=kg:=om;go_wp2;go_roundw
  case rel=>exact⟨m+1,p,c,z,om,by go_num,HA.o _,by rw[HTK.o];exact HBs.o.b (af (by rw[<-HKG.o,<-HKY.o];omega)),hc8⟩
  simp[intOf];omega
 have hkI:¬(ky:Int)<=kg:=om;obtain⟨X,hX⟩:∃X,X=wr.alloc (Δ #[Z u,I Q (ky:Int),M yp n yc] 279):=⟨_,rfl⟩;have G:H (pG w X g s K n cg p c z):=(by rw[hX];exact HA.o _);have hbX:B wr.1.size wr X:=(by rw[hX];exact(aj _ wr).l nl _);have hXs:X.1.size=wr.1.size+1:=(by rw[hX];simp);have HXS:H (X.1.size=wr.1.size+1):=hXs;have hb2:X.1[wr.1.size]?=O (Δ #[Z u,I Q (ky:Int),M yp n yc] 279):=(by rw[hX];exact bn wr _);have x0:=dR (i:=0) hb2 rfl;have x1:=dR (i:=1) hb2 rfl;have x2:=dR (i:=2) hb2 rfl;have y0:=dR (i:=0) G.o.e rfl;have y1:X.cell? ⟨w.1.size,1,J⟩=O (I Q (kg:Int)):=(by rw[HKG.o];exact dR (i:=1) G.o.e rfl);have y2:=dR (i:=2) G.o.e rfl;have z0:=dR (i:=0) G.o.h rfl;have HTG:H (∀V,B X.1.size X V->Φ prog 237 #[.agg #[Z g,I Q (kg:Int),M K n cg],.agg #[Z u,I Q (ky:Int),M yp n yc]] V λe U=>e=N (I Q ((T u:Nat):Int))/\B V.1.size V U):=λV A=>(by have hBV:B w.1.size w V:=G.o.b.t (A.m G.o.b.size);have h:=IU g u (kg:Int) (ky:Int) K yp cg yc (aI g ep W need) (aI u ep W need) L n V (HG.o.a hBV) ((HPO.o.a hbX).a A) hn;rw[HT.o];exact h);have R:H (∀V,B X.1.size X V->(V.cell? ⟨wr.1.size,0,J⟩=O (Z u)/\V.cell? ⟨wr.1.size,1,J⟩=O (I Q (ky:Int))/\V.cell? ⟨wr.1.size,2,J⟩=O (M yp n yc)/\V.cell? ⟨w.1.size,0,J⟩=O (Z g)/\V.cell? ⟨w.1.size,1,J⟩=O (I Q (kg:Int))/\V.cell? ⟨w.1.size,2,J⟩=O (M K n cg)/\V.cell? ⟨w.1.size+1,0,J⟩=O (Z s))/\B X.1.size X V):=λV A=>⟨⟨aH A x0,aH A x1,aH A x2,aH A y0,aH A y1,aH A y2,aH A z0⟩,A⟩;have hXX:B X.1.size X X:=aj _ _;have HTY:H (T u<=8):=(by rw[HT.o];exact aP (vW _ _ _ _) hn);have hX':=hX;clear hX hXs hb2 hbX;go_wp2_with fail;rw[<-hX'];clear hX' e0 e1 e2 k51;go_cut [12] from 24 to 34 (λa V=>∃S:Nat,a=Y (O ⟨S,0,J⟩)/\V.1[S]?=O (Δ #[Z u,I Q ((T u:Nat):Int),.bool (u.toList == s.toList)] 281)/\X.1.size<=S/\B X.1.size X V)
 case first=>
  go_region_held3 (λV=>(V.cell? ⟨wr.1.size,0,J⟩=O (Z u)/\V.cell? ⟨wr.1.size,1,J⟩=O (I Q (ky:Int))/\V.cell? ⟨wr.1.size,2,J⟩=O (M yp n yc)/\V.cell? ⟨w.1.size,0,J⟩=O (Z g)/\V.cell? ⟨w.1.size,1,J⟩=O (I Q (kg:Int))/\V.cell? ⟨w.1.size,2,J⟩=O (M K n cg)/\V.cell? ⟨w.1.size+1,0,J⟩=O (Z s))/\B X.1.size X V)
   (first|exact R.o _ (ma ‹_›)|(go_split_ands;exact R.o _ (l9 _ ‹_›))|(go_split_ands;exact R.o _ (bQ ‹_› hb))|exact R.o _ (l9 _ (bQ (gp X _) hb))|exact R.o _ (l9 _ (bQ (ma br) hb))|(go_split_ands;exact R.o _ (TW ‹_› (by first|exact aa _|exact Below.size ‹_›))))
   (first|(go_at_call 237;go_split_ands;refine(HTG.o _ ‹_›).m ?_;rintro e U ⟨rfl,hb⟩;try (obtain⟨n0,n1,n2,nf,nh⟩:=TV (X:=X) (a:=Z ⟨#[]⟩) (b:=I Q 0) (c:=.bool false) (t:=281) hb rfl)))
  ·rename_i hH;go_wp2;go_meet;exact⟨U.1.size,rfl,bn U _,hb.size,hH.2⟩
  rename_i hH;go_wp2;go_meet;exact⟨X.1.size,rfl,by simp[World.setCell,dU,nh.o],aa _,hH.2⟩
 clear x0 x1 x2 y0 y1 y2 z0 hXX;obtain⟨S,rfl,hnb,hXn,hbV⟩:=hcut
 have hbool:(u.toList == s.toList)=decide (u=s):=by
  rw[jq,kO];constructor
  ·intro h;exact AG (by simpa using h)
  rintro rfl;simp
 rw[hbool]at hnb;have E:H (pG w wc g s K n cg p c z):=G.o.i hbV;have n0:=dR (i:=0) hnb rfl;have n1:=dR (i:=1) hnb rfl;have n2:=dR (i:=2) hnb rfl;have k90:=dR (i:=0) E.o.a rfl;have k91:=dR (i:=1) E.o.a rfl;have k92:=dR (i:=2) E.o.a rfl;have f9:=λi=>qC (i:=i) E.o.a;have kx:wc.cell? ⟨xb,2,J⟩=O (I Q (score:Int)):=(by rw[E.o.b.cell HX.o.2];exact HX.o.1);have D:H (∀V,B wc.1.size wc V->(V.cell? ⟨S,0,J⟩=O (Z u)/\V.cell? ⟨S,1,J⟩=O (I Q ((T u:Nat):Int))/\V.cell? ⟨S,2,J⟩=O (.bool (decide (u=s)))/\V.cell? ⟨w.1.size+1+1+1,0,J⟩=O (Z p)/\V.cell? ⟨w.1.size+1+1+1,1,J⟩=O (I Q (c:Int))/\V.cell? ⟨w.1.size+1+1+1,2,J⟩=O (.bool z)/\V.cell? ⟨xb,2,J⟩=O (I Q (score:Int)))/\B wc.1.size wc V):=λV A=>⟨⟨aH A n0,aH A n1,aH A n2,aH A k90,aH A k91,aH A k92,aH A kx⟩,A⟩;have HNB:H (S<wc.1.size/\wr.1.size<S):=⟨(bP.1 hnb).1,by have:=HXS.o;omega⟩;have hww:B wc.1.size wc wc:=aj _ _;have hT8:((T u:Nat):Int)<=8:=(by have:=HTY.o;omega);clear hnb hbV hXn R HTG G;by_cases P:score<=T u
 case neg=>
  have hd:decide (score<=T u)=false:=(by simpa using P);have HSK:H (jH aD T score g s ((C.map (·.a)).take (m+1)) p c z):=(by rw[HTK.o];exact HBs.o.b (ah om));clear P;go_wp2_with fail;go_quiet (fail);go_wp2;go_roundw
  case rel=>exact⟨m+1,p,c,z,om,by go_num,E.o.i (gp wc _),HSK.o,hc8⟩
  simp[intOf];omega
 have hd:decide (score<=T u)=true:=(by simpa using P);have hkgy:aD g<aD u:=(by rw[<-HKG.o,<-HKY.o];omega);cases hr:lU (T u) (decide (u=s)) u c z p with
 |false=>
  have HSK:H (jH aD T score g s ((C.map (·.a)).take (m+1)) p c z):=(by rw[HTK.o];exact HBs.o.d h1 P hr);have HCB:H (∀V,Φ prog 238 #[.agg #[Z u,I Q ((T u:Nat):Int),.bool (decide (u=s))],.agg #[Z p,I Q (c:Int),.bool z]] V λe U=>e=N (.bool false)/\B V.1.size V U):=λV=>(by have:=C5 (T u) c (decide (u=s)) z u p V;rw[hr]at this;exact this);clear P hr hkgy;go_wp2_with fail
  go_region_held3 (λV=>(V.cell? ⟨S,0,J⟩=O (Z u)/\V.cell? ⟨S,1,J⟩=O (I Q ((T u:Nat):Int))/\V.cell? ⟨S,2,J⟩=O (.bool (decide (u=s)))/\V.cell? ⟨w.1.size+1+1+1,0,J⟩=O (Z p)/\V.cell? ⟨w.1.size+1+1+1,1,J⟩=O (I Q (c:Int))/\V.cell? ⟨w.1.size+1+1+1,2,J⟩=O (.bool z)/\V.cell? ⟨xb,2,J⟩=O (I Q (score:Int)))/\B wc.1.size wc V)
   (first|exact D.o _ (ma ‹_›)|(go_split_ands;exact D.o _ (bQ ‹_› hb)))
   (first|(go_at_call 238;go_split_ands;refine(HCB.o _).m ?_;rintro e U ⟨rfl,hb⟩))
  rename_i hH;have HH:H _:=hH.2;clear hH;go_wp2;go_roundw
  case rel=>exact⟨m+1,p,c,z,om,by go_num,E.o.i HH.o,HSK.o,hc8⟩
  simp[intOf];omega
 |true=>
  have HSK:H (jH aD T score g s ((C.map (·.a)).take (m+1)) u (T u) (decide (u=s))):=(by rw[HTK.o];exact HBs.o.f hkgy P hr);have HCB:H (∀V,Φ prog 238 #[.agg #[Z u,I Q ((T u:Nat):Int),.bool (decide (u=s))],.agg #[Z p,I Q (c:Int),.bool z]] V λe U=>e=N (.bool true)/\B V.1.size V U):=λV=>(by have:=C5 (T u) c (decide (u=s)) z u p V;rw[hr]at this;exact this);clear P hr hkgy;go_wp2_with fail
  go_region_held3 (λV=>(V.cell? ⟨S,0,J⟩=O (Z u)/\V.cell? ⟨S,1,J⟩=O (I Q ((T u:Nat):Int))/\V.cell? ⟨S,2,J⟩=O (.bool (decide (u=s)))/\V.cell? ⟨w.1.size+1+1+1,0,J⟩=O (Z p)/\V.cell? ⟨w.1.size+1+1+1,1,J⟩=O (I Q (c:Int))/\V.cell? ⟨w.1.size+1+1+1,2,J⟩=O (.bool z)/\V.cell? ⟨xb,2,J⟩=O (I Q (score:Int)))/\B wc.1.size wc V)
   (first|exact D.o _ (ma ‹_›)|(go_split_ands;exact D.o _ (bQ ‹_› hb)))
   (first|(go_at_call 238;go_split_ands;refine(HCB.o _).m ?_;rintro e U ⟨rfl,hb⟩))
  rename_i hH;obtain⟨⟨l0,l1,l2,l3,l4,l5,l6⟩,hH⟩:=hH;have HH:H _:=hH;have HB2:H (pG w U g s K n cg p c z):=E.o.i hH;have f9':=λi=>qC (i:=i) HB2.o.a
  have HF:H (∀V:Ω,V=(((U.setCell ⟨w.1.size+1+1+1,0,J⟩ (Z u)).setCell ⟨w.1.size+1+1+1,1,J⟩ (I Q ((T u:Nat):Int))).setCell ⟨w.1.size+1+1+1,2,J⟩ (.bool (decide (u=s))))->pG w V g s K n cg u (T u) (decide (u=s))):=by
   rintro V rfl;have z9:w.1.size<=w.1.size+1+1+1:=om;refine⟨((HB2.o.b.c (p:=⟨w.1.size+1+1+1,0,J⟩) z9 _).c (p:=⟨w.1.size+1+1+1,1,J⟩) z9 _).c (p:=⟨w.1.size+1+1+1,2,J⟩) z9 _,?_,?_,?_,?_⟩
   ·rw[bN _ _ _ _ (by show _≠w.1.size+1+1+1;omega),bN _ _ _ _ (by show _≠w.1.size+1+1+1;omega),bN _ _ _ _ (by show _≠w.1.size+1+1+1;omega)];exact HB2.o.e
   ·rw[bN _ _ _ _ (by show _≠w.1.size+1+1+1;omega),bN _ _ _ _ (by show _≠w.1.size+1+1+1;omega),bN _ _ _ _ (by show _≠w.1.size+1+1+1;omega)];exact HB2.o.h
   ·rw[bN _ _ _ _ (by show _≠w.1.size+1+1+1;omega),bN _ _ _ _ (by show _≠w.1.size+1+1+1;omega),bN _ _ _ _ (by show _≠w.1.size+1+1+1;omega)];exact HB2.o.d
   simp[World.setCell,dU,HB2.o.a]
  clear hH D HCB;go_wp2;go_roundw
  case rel=>exact⟨m+1,u,T u,decide (u=s),om,by go_num,HF.o _ rfl,HSK.o,HTY.o⟩
  simp[intOf];omega
end
end
end Go.Proofs.YtlaodjjfmhipnaaGreatDoor
