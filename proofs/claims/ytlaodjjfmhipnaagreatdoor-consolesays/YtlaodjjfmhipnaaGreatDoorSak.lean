/-
  Part of it.
-/
import Derived.Test.YtlaodjjfmhipnaaGreatDoorSaj
set_option maxRecDepth 100000
set_option maxHeartbeats 8000000
set_option linter.all false
namespace Go.Proofs.YtlaodjjfmhipnaaGreatDoor
open Go.Proofs.Tryz
open Value renaming int→I,string→Z,pointer→Y,slice→M,tuple→Ψ
open Ending renaming returned→N
open Obj renaming cells→Δ
open Go renaming World→Ω,Calls→Φ
open IntKind renaming i64→Q
open Option renaming some→O,none→J
open RowKit renaming Below→B,Hid→H
section
open Go.RowKit
section
variable (s:ByteArray)(w:Ω)
theorem Pn(hs:s.size<=300)(q x1 x2 x3 L x5 G x7 E:List UInt8)(hc:mY s=[q,x1,x2,x3,L,x5,G,x7,E]):
   Φ prog 13 #[Z s] w λe w'=>yi s w e w':=by
  have hcl:∀x,x∈mY s->x.length<=300:=λx hx=>aP (EV hx) hs;have l0:q.length<=300:=hcl _ (by rw[hc];simp);have HS:H (∀r,bT s r->q≠[]/\(∀a o,lv x2 a o->a=r.c/\o=true)/\(∀a o,lv L a o->a=r.g/\o=true)/\(∀a o,lv E a o->a=r.d/\o=true)/\(∀a o,lv G a o->a=r.b/\o=true)/\ym q x1 r.c r.g r.d r.b=r):=λr C=>TZ C hc;have HCL:H (∀x,x∈[q,x1,x2,x3,L,x5,G,x7,E]->(ae x).size<=300):=by show ∀x,x∈[q,x1,x2,x3,L,x5,G,x7,E]->(ae x).size<=300;intro x hx;rw[aV];rw[<-hc]at hx;exact hcl x hx
  have HC:H (cK 32 [] [] s.1.toList=[q,x1,x2,x3,L,x5,G,x7,E]):=hc;clear hcl hc;go_enter func13,ntmps13;go_wp2_with fail;refine(tL s 32 _ hs).m ?_;rw[HC.o];rintro e w1 ⟨v,rfl,ht,hb⟩;obtain⟨g,cap,rfl,hw,hcap⟩:=zP ht sm;have HO:H (oO w w1 g [q,x1,x2,x3,L,x5,G,x7,E]):=⟨((aj _ w).l nl _).t (hb.m sm),⟨hw.a,by have h:=hw.c;simp at h;omega,hw.b⟩,(Ay w).p (hb.block _ sm) hb.size⟩;clear ht hb hw;rw[show ([q,x1,x2,x3,L,x5,G,x7,E]:List (List UInt8)).length=9 from rfl]at hcap⊢;obtain⟨y0,hy0⟩:∃y,y=ae q:=⟨_,rfl⟩;have hy0s:y0.size=q.length:=by rw[hy0];exact aV q
  have g0:=HO.o.c.a 0 q rfl;rw[<-hy0]at g0;have HY0:H (y0=ae q):=hy0;clear hy0;by_cases he:q.length=0
  case pos=>
   have e0:((y0.size:Int) == 0)=true:=by rw[beq_iff_eq];omega
   have z:H (¬∃r,bT s r):=λ⟨r,C⟩=>(HS.o r C).1 (iG.1 he);have S:=HO.o.a.m;have T:=HO.o.a.j;have R:=HO.o.a.k;have P:=HO.o.a.l;have U:=HO.o.a.g;have p5:=HO.o.a.h;have pf:=HO.o.a.n;go_wp2;refine bK (v:=Ψ #[aL eK,.bool false]) (by simp[results,results13,go_sem,aL,eK,S,T,R,P,U,p5]) rfl ⟨ah ⟨z.o,rfl⟩,?_⟩;exact(((((HO.o.b.c nl _).c nl _).c nl _).c nl _).c nl _).c nl _
  have e0:((y0.size:Int) == 0)=false:=by rw[oV];omega
  have hwr:IntKind.i64.wrap ((y0.size:Int)-1)=(y0.size:Int)-1:=by simp[IntKind.wrap,IntKind.bits,IntKind.signed];omega
  have e3:(1:Int)<=(y0.size:Int):=om;have e2:(y0.size:Int)-1<=(y0.size:Int):=om;have HYS:H (y0.size=q.length):=hy0s;have hyl:y0.size<=300:=om;clear hy0s he;go_upto_region 4 with fail
  have hO:=HO.o;go_cut [5] from 33 to 42 (λv V=>Hm w V v g [q,x1,x2,x3,L,x5,G,x7,E] (ae (q.take (q.length-1))))
  case first=>
   go_region_held3 (λV=>V.cell? ⟨g,0,J⟩=O (Z y0)/\oO w V g [q,x1,x2,x3,L,x5,G,x7,E])
    (first|exact⟨qi ‹_›,oO.e ‹_›⟩|(go_split_ands;exact⟨pY _ ‹_›,oO.d _ ‹_›⟩)|exact⟨qi (pY _ g0),oO.e (oO.d _ hO)⟩|exact⟨allocCell _ g0,OP.alloc _ hO⟩)
    (fail)
   rename_i hH;go_wp2;go_meet;have h1:=hO.c.c;have h2:=hO.c.b;have h3:=hO.a.o;refine⟨w1.1.size,rfl,hH.2,?_,om,om⟩;have hn:y0.extract 0 (y0.size-1)=ae (q.take (q.length-1)):=(by rw[HYS.o,HY0.o];apply ke;simp[ae,ByteArray.data_extract];exact List.dropLast_eq_take);rw[hn];have h4:ed (w1.alloc (Δ #[Z (ae (q.take (q.length-1))),I Q (-1),I Q 0,I Q 0,I Q (-1),I Q 0] 65)) w1.1.size (Z (ae (q.take (q.length-1)))) (I Q (-1)) (I Q 0) (I Q 0) (I Q (-1)) (I Q 0):=FH w1 ⟨ae (q.take (q.length-1)),-1,0,0,-1,0⟩;exact h4.p rfl nl
  obtain⟨rb,rfl,hos⟩:=hcut.a;have HOS:H _:=hos;have hnl:(ae (q.take (q.length-1))).size<=300:=(by rw[aV,fj];omega);clear hcut hos hO g0 e0 hwr e3 e2 hyl HY0 HYS;obtain⟨D,hnm⟩:∃D,D=ae (q.take (q.length-1)):=⟨_,rfl⟩;have HNM:H (D=ae (q.take (q.length-1))):=hnm;rw[<-hnm]at HOS hnl;clear hnm;obtain⟨y1,hy1⟩:∃y,y=ae x1:=⟨_,rfl⟩;have HY1:H (y1=ae x1):=hy1;clear hy1;go_wp2;go_loopw [6] (λi V=>∃k:Nat,k<=4/\i=I Q k/\ti w V g rb [q,x1,x2,x3,L,x5,G,x7,E] (Z D) (I Q (ia x1 k)) (I Q 0) (I Q 0) (I Q (-1)) (I Q 0)) (λi _=>4-(intOf i).toNat)
  case atStart=>exact⟨0,aX _,rfl,HOS.o⟩
  obtain⟨k,hk,rfl,hos⟩:=hrel;have f:H _:=hos;clear hos HOS;by_cases hk4:k<4
  case pos=>
   have hkI:(k:Int)<4:=om;have hkN:(0:Int)<=(k:Int):=om;have ik:=BA k hk4;have g1:=f.o.h.c.a 1 x1 rfl;rw[<-HY1.o]at g1;go_upto_region 8 with fail
   have kg1:=cell_regrown g1;refine wp_region_quiet_below kr kr ?_
   repeat (go_big_quiet_step (first|with_reducible exact Calls.regrown_of (yF _)))
   refine gq ?_;intro _ hw';obtain⟨⟨dq,osq⟩,hw''⟩:=hw';subst hw'';have HO3:H _:=f.o.l (below_regrown wr dq osq);clear kg1 g1 ik f;generalize Sort.grow (redrawn wr dq) osq=V3 at *;have HEQ:H (cR k=y1↔iw k=x1):=⟨λh=>by rw[HY1.o]at h;have h2:=congrArg (λb:ByteArray=>b.1.toList) h;simpa [cR,ae] using h2,λh=>by rw[HY1.o,<-h];rfl⟩;have f1:=HO3.o.i.n 1;have c1:=HO3.o.i.j;by_cases hb:cR k=y1
   case pos=>
    have hb':((cR k).toList == y1.toList)=true:=pX hb;have HU:H (ia x1 (k+1)=(k:Int)):=(by show ia x1 (k+1)=(k:Int);rw[ia,ak (HEQ.o.1 hb)]);have HO4:H _:=HO3.o.j (HO3.o.i.t (I Q (k:Int)));clear hb HEQ HO3;rw[hb'];go_wp2;go_roundw
    case rel=>exact⟨k+1,om,by go_num,by rw[HU.o];exact HO4.o⟩
    simp[intOf];omega
   have hb':((cR k).toList == y1.toList)=false:=pU hb;have HU:H (ia x1 (k+1)=ia x1 k):=(by show ia x1 (k+1)=ia x1 k;rw[ia,ag (λh=>hb (HEQ.o.2 h))]);clear hb HEQ f1 c1;rw[hb'];go_wp2;go_roundw
   case rel=>exact⟨k+1,om,by go_num,by rw[HU.o];exact HO3.o⟩
   simp[intOf];omega
  obtain rfl:k=4:=om;clear hk hk4;generalize hK:ia x1 4=K at *;have HK:H (ia x1 4=K):=hK;clear hK;obtain⟨a2,o2,hf2⟩:=sI x2;obtain⟨a4,o4,hf4⟩:=sI L;obtain⟨W,o6,hf6⟩:=sI G;obtain⟨a8,o8,hf8⟩:=sI E;have HF2:H (∀V:Ω,Φ prog 24 #[Z (ae x2)] V λe w'=>e=N (Ψ #[I Q a2,.bool o2])/\w'=V):=λV=>(by have h:=pS (ae x2) V (HCL.o x2 sm);rw[hf2.c]at h;exact h);have HF4:H (∀V:Ω,Φ prog 24 #[Z (ae L)] V λe w'=>e=N (Ψ #[I Q a4,.bool o4])/\w'=V):=λV=>(by have h:=pS (ae L) V (HCL.o L sm);rw[hf4.c]at h;exact h);have HF6:H (∀V:Ω,Φ prog 24 #[Z (ae G)] V λe w'=>e=N (Ψ #[I Q W,.bool o6])/\w'=V):=λV=>(by have h:=pS (ae G) V (HCL.o G sm);rw[hf6.c]at h;exact h);have HF8:H (∀V:Ω,Φ prog 24 #[Z (ae E)] V λe w'=>e=N (Ψ #[I Q a8,.bool o8])/\w'=V):=λV=>(by have h:=pS (ae E) V (HCL.o E sm);rw[hf8.c]at h;exact h);have HR:H (∀r,bT s r->o2=true/\o4=true/\o8=true/\o6=true/\r=⟨D,K,a2,a4,W,a8⟩):=λr C=>(by obtain⟨h2,h3,h4,h5,h6,h7⟩:=HS.o r C;obtain⟨rfl,b2⟩:=h3 _ _ hf2;obtain⟨rfl,b4⟩:=h4 _ _ hf4;obtain⟨rfl,b8⟩:=h5 _ _ hf8;obtain⟨rfl,b6⟩:=h6 _ _ hf6;refine⟨b2,b4,b8,b6,?_⟩;rw[<-h7];unfold ym;rw[<-HNM.o,HK.o]);clear hf2 hf4 hf6 hf8 HS;have g2:=f.o.h.c.a 2 x2 rfl;generalize ae x2=y2 at *;have g4:=f.o.h.c.a 4 L rfl;generalize ae L=y4 at *;have g6:=f.o.h.c.a 6 G rfl;generalize ae G=y6 at *;have g8:=f.o.h.c.a 8 E rfl;generalize ae E=y8 at *;go_wp2_with fail;refine(HF2.o _).m ?_;rintro e V ⟨rfl,hV⟩;subst hV;go_wp2_with fail;refine(HF4.o _).m ?_;rintro e V ⟨rfl,hV⟩;subst hV;go_wp2_with fail;refine(HF8.o _).m ?_;rintro e V ⟨rfl,hV⟩;subst hV;cases o2 with
 |false=>
   have z:H (¬∃r,bT s r):=λ⟨r,C⟩=>Bool.noConfusion (HR.o r C).1;have S:=f.o.h.a.m;have T:=f.o.h.a.j;have R:=f.o.h.a.k;have P:=f.o.h.a.l;have U:=f.o.h.a.g;have p5:=f.o.h.a.h;have pf:=f.o.h.a.n;go_wp2;refine bK (v:=Ψ #[aL eK,.bool false]) (by simp[results,results13,go_sem,aL,eK,S,T,R,P,U,p5]) rfl ⟨ah ⟨z.o,rfl⟩,?_⟩;exact(((((f.o.h.b.c nl _).c nl _).c nl _).c nl _).c nl _).c nl _
 |true=>
   cases o4 with
  |false=>
    have z:H (¬∃r,bT s r):=λ⟨r,C⟩=>Bool.noConfusion (HR.o r C).2.1;have S:=f.o.h.a.m;have T:=f.o.h.a.j;have R:=f.o.h.a.k;have P:=f.o.h.a.l;have U:=f.o.h.a.g;have p5:=f.o.h.a.h;have pf:=f.o.h.a.n;go_wp2;refine bK (v:=Ψ #[aL eK,.bool false]) (by simp[results,results13,go_sem,aL,eK,S,T,R,P,U,p5]) rfl ⟨ah ⟨z.o,rfl⟩,?_⟩;exact(((((f.o.h.b.c nl _).c nl _).c nl _).c nl _).c nl _).c nl _
  |true=>
    cases o8 with
   |false=>
     have z:H (¬∃r,bT s r):=λ⟨r,C⟩=>Bool.noConfusion (HR.o r C).2.2.1;have S:=f.o.h.a.m;have T:=f.o.h.a.j;have R:=f.o.h.a.k;have P:=f.o.h.a.l;have U:=f.o.h.a.g;have p5:=f.o.h.a.h;have pf:=f.o.h.a.n;go_wp2;refine bK (v:=Ψ #[aL eK,.bool false]) (by simp[results,results13,go_sem,aL,eK,S,T,R,P,U,p5]) rfl ⟨ah ⟨z.o,rfl⟩,?_⟩;exact(((((f.o.h.b.c nl _).c nl _).c nl _).c nl _).c nl _).c nl _
   |true=>
     have c0:=f.o.i.m;have c1:=f.o.i.j;have c4:=f.o.i.g;have c2:=f.o.i.k;have c3:=f.o.i.l;have c5:=f.o.i.h;have rf:=f.o.i.n;have HA:H _:=f.o.j (f.o.i.u (I Q a2));have HB:H _:=HA.o.j (HA.o.i.v (I Q a4));have HD:H _:=HB.o.j (HB.o.i.s (I Q a8));clear HA HB;have hne:=f.o.k;have hne2:g≠rb:=λe=>f.o.k e.symm;go_wp2_with fail;refine(HF6.o _).m ?_;rintro e V9 ⟨rfl,hV⟩;subst hV;cases o6 with
    |false=>
      have z:H (¬∃r,bT s r):=λ⟨r,C⟩=>Bool.noConfusion (HR.o r C).2.2.2.1;have S:=HD.o.h.a.m;have T:=HD.o.h.a.j;have R:=HD.o.h.a.k;have P:=HD.o.h.a.l;have U:=HD.o.h.a.g;have p5:=HD.o.h.a.h;have pf:=HD.o.h.a.n;go_wp2;refine bK (v:=Ψ #[aL eK,.bool false]) (by simp[results,results13,go_sem,aL,eK,S,T,R,P,U,p5]) rfl ⟨ah ⟨z.o,rfl⟩,?_⟩;exact(((((HD.o.h.b.c nl _).c nl _).c nl _).c nl _).c nl _).c nl _
    |true=>
      have HE:H _:=HD.o.j (HD.o.i.w (I Q W));clear HD;obtain⟨n,hn⟩:=vL ⟨D,K,a2,a4,W,a8⟩;have HFN:H (∀V:Ω,Φ prog 25 #[aL ⟨D,K,a2,a4,W,a8⟩] V λe w'=>e=N (I Q (n:Int))/\B V.1.size V w'):=λV=>wS ⟨D,K,a2,a4,W,a8⟩ V (by show D.size<=_;omega) hn;have HN:H _:=hn;unfold aL at HFN;simp only at HFN;clear hn HF2 HF4 HF6 g2 g4 g6;go_wp2_with fail;refine(HFN.o _).m ?_;rintro e V5 ⟨rfl,hb5⟩;have F:H _:=HE.o.l hb5;clear hb5 HE c0 c1 c2 c3 c4 c5 rf HFN;by_cases h0:n=0
      case neg=>have i0:decide ((0:Int)<(n:Int))=true:=(by simp;omega);have i1:(0:Int)<(n:Int):=om;have i2:0<n:=om;have z:H (¬∃r,bT s r):=λ⟨r,C⟩=>(by have h:=(HR.o r C).2.2.2.2;have h2:=C.1;rw[h]at h2;exact h0 ((mO HN.o).2 h2));clear h0;have S:=F.o.h.a.m;have T:=F.o.h.a.j;have R:=F.o.h.a.k;have P:=F.o.h.a.l;have U:=F.o.h.a.g;have p5:=F.o.h.a.h;have pf:=F.o.h.a.n;go_wp2;refine bK (v:=Ψ #[aL eK,.bool false]) (by simp[results,results13,go_sem,aL,eK,S,T,R,P,U,p5]) rfl ⟨ah ⟨z.o,rfl⟩,?_⟩;exact(((((F.o.h.b.c nl _).c nl _).c nl _).c nl _).c nl _).c nl _
      have hok:=(mO HN.o).1 h0;subst h0;have HTX:H (∀V:Ω,Φ prog 26 #[aL ⟨D,K,a2,a4,W,a8⟩] V λe w'=>e=N (Z (gV ⟨D,K,a2,a4,W,a8⟩))/\B V.1.size V w'):=λV=>DU V ⟨D,K,a2,a4,W,a8⟩ hok;have HT2:H (∀r,bT s r->gV ⟨D,K,a2,a4,W,a8⟩=s):=λr C=>(by have h:=(HR.o r C).2.2.2.2;have h2:=C.2;rw[h]at h2;exact h2);have HT3:H (gV ⟨D,K,a2,a4,W,a8⟩=s->bT s ⟨D,K,a2,a4,W,a8⟩):=λh=>⟨hok,h⟩;generalize gV ⟨D,K,a2,a4,W,a8⟩=X at *;unfold aL at HTX;simp only at HTX;have c0:=F.o.i.m;have c1:=F.o.i.j;have c2:=F.o.i.k;have c3:=F.o.i.l;have c4:=F.o.i.g;have c5:=F.o.i.h;clear hok HN HR;go_wp2_with fail;refine(HTX.o _).m ?_;rintro e V6 ⟨rfl,hb6⟩;have A:H _:=F.o.l hb6;clear hb6 F c0 c1 c2 c3 c4 c5 HTX;by_cases hx:X=s
      case neg=>have hb1:(X.toList == s.toList)=false:=pU hx;have hb2:(X.toList != s.toList)=true:=(by rw[bne,hb1];rfl);have z:H (¬∃r,bT s r):=λ⟨r,C⟩=>hx (HT2.o r C);clear hx;have S:=A.o.h.a.m;have T:=A.o.h.a.j;have R:=A.o.h.a.k;have P:=A.o.h.a.l;have U:=A.o.h.a.g;have p5:=A.o.h.a.h;have pf:=A.o.h.a.n;go_wp2;refine bK (v:=Ψ #[aL eK,.bool false]) (by simp[results,results13,go_sem,aL,eK,S,T,R,P,U,p5]) rfl ⟨ah ⟨z.o,rfl⟩,?_⟩;exact(((((A.o.h.b.c nl _).c nl _).c nl _).c nl _).c nl _).c nl _
      have HRD:H (bT s ⟨D,K,a2,a4,W,a8⟩):=HT3.o hx;subst hx;have hb1:(X.toList == X.toList)=true:=pX rfl;have hb2:(X.toList != X.toList)=false:=(by rw[bne,hb1];rfl);have c0:=A.o.i.m;have c1:=A.o.i.j;have c2:=A.o.i.k;have c3:=A.o.i.l;have c4:=A.o.i.g;have c5:=A.o.i.h;have S:=A.o.h.a.m;have T:=A.o.h.a.j;have R:=A.o.h.a.k;have P:=A.o.h.a.l;have U:=A.o.h.a.g;have p5:=A.o.h.a.h;have pf:=A.o.h.a.n;go_wp2;clear c0 c1 c2 c3 c4 c5;refine bK (v:=Ψ #[aL ⟨D,K,a2,a4,W,a8⟩,.bool true]) (by simp[results,results13,go_sem,aL,S,T,R,P,U,p5]) rfl ⟨af ⟨_,HRD.o,rfl⟩,?_⟩;exact(((((A.o.h.b.c nl _).c nl _).c nl _).c nl _).c nl _).c nl _
theorem Th{α:Type}{l:List α}(h:l.length=7):∃a b c d e f g,l=[a,b,c,d,e,f,g]:=by
 match l,h with
 |[a,b,c,d,e,f,g],_=>exact⟨a,b,c,d,e,f,g,rfl⟩
theorem Ti{α:Type}{l:List α}(h:l.length=9):∃a b c d e f g i j,l=[a,b,c,d,e,f,g,i,j]:=by
 match l,h with
 |[a,b,c,d,e,f,g,i,j],_=>exact⟨a,b,c,d,e,f,g,i,j,rfl⟩
theorem FI(k:s.size<=300): Φ prog 13 #[Z s] w λe n=>yi s w e n:=by
 by_cases l:(mY s).length=7
 ·obtain⟨a,b,c,d,e,f,g,h⟩:=Th l;exact MJ s w k a b c d e f g h
 by_cases m:(mY s).length=9
 ·obtain⟨a,b,c,d,e,f,g,i,j,h⟩:=Ti m;exact Pn s w k a b c d e f g i j h
 exact QR s w k l m
end
end
end Go.Proofs.YtlaodjjfmhipnaaGreatDoor
