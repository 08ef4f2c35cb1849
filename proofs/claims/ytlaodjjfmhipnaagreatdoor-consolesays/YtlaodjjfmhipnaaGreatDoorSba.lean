/-
  Part of it.
-/
import Derived.Test.YtlaodjjfmhipnaaGreatDoorSaz
import Derived.Test.YtlaodjjfmhipnaaGreatDoorSak
set_option maxRecDepth 100000
set_option maxHeartbeats 8000000
set_option linter.all false
namespace Go.Proofs.YtlaodjjfmhipnaaGreatDoor
open Go.Proofs.Tryz
open Value renaming int→I,string→Z,pointer→Y,slice→M,tuple→Ψ
open Ending renaming returned→N
open Obj renaming cells→Δ
open Go renaming World→Ω,Calls→Φ
open IntKind renaming i64→Q
open Option renaming some→O,none→J
open RowKit renaming Below→B,Hid→H
section
open Go.RowKit Go.Maps
def mA:bY->List (List UInt8)->bY->List (List UInt8)->Prop
 |S,[],S',as_=>S'=S/\as_=[]
 |S,l::ls,S',as_=>∃S1 t n r,oL S l S1 t n/\mA S1 ls S' r/\as_=eX t n::r
theorem mA.c{l:List UInt8}{b:bY}{t:List UInt8}{n:Nat}:∀{ls as_:List (List UInt8)} {S a:bY},mA S ls a as_->oL a l b t n->mA S (ls++[l]) b (as_++[eX t n])
 |[],_,_,_,h,hd=>by obtain⟨rfl,rfl⟩:=h;exact⟨_,t,n,[],hd,⟨rfl,rfl⟩,rfl⟩
 |x::ls,_,_,_,h,hd=>by obtain⟨a,d,g,r,e,f,rfl⟩:=h;exact⟨a,d,g,_,e,f.c hd,rfl⟩
theorem mA.b:∀{ls as_:List (List UInt8)} {S a:bY},mA S ls a as_->as_.length=ls.length
 |[],_,_,_,h=>by rw[h.2]
 |x::ls,_,_,_,h=>by obtain⟨a,d,f,r,e,c,rfl⟩:=h;simp[c.b]
theorem mA.a{k:Nat}:∀{ls as_:List (List UInt8)} {S b:bY},mA S ls b as_->lQ S k->lQ b (k+ls.length)
 |[],_,_,_,h,hi=>by rw[h.1];exact hi
 |x::ls,_,_,_,h,hi=>by obtain⟨b,f,g,r,c,e,rfl⟩:=h;have:=e.a (hi.d c);rw[show k+(x::ls).length=k+1+ls.length by simp;omega];exact this
def oN:bY:=⟨fQ,[],J⟩
theorem Gn:lQ oN 0:=⟨λW h=>(by cases h),aa _,λr h=>(by cases h)⟩
structure jA (w:Ω) (q:Option Addr) (L:List (List UInt8)):Prop where
 a:L≠[]->∃g o,q=O ⟨g,o,J⟩/\g<w.1.size/\∀(j:Nat) l,L[j]?=O l->w.cell? ⟨g,o+j,J⟩=O (Z (ae l))
theorem Tb(w:Ω)(n a:Nat)(b:a<=w.1.size)(c:n<=100):(w.alloc (Δ (madeCells #[Z ⟨#[]⟩] n) 9)).ownsRow a 9 1 (M (O ⟨w.1.size,0,J⟩) 0 n) 0 []:=
 ⟨rfl,ah ⟨w.1.size,n,_,rfl,b,bn w _,aX _,by unfold maxLen;omega,by simp[madeCells],by simp⟩⟩
theorem GX(b:Nat):∀(vs:List Value)(o:Nat)(w:Ω),(w.setCells b o vs).1.size=w.1.size
 |[],_,_=>rfl
 |v::r,o,w=>(GX b r (o+1) _).trans (by simp[World.setCell])
def yy:List Value->Nat->Array Value->Array Value
 |[],_,C=>C
 |v::r,o,C=>yy r (o+1) (C.setIfInBounds o v)
theorem Av(b t:Nat):∀(vs:List Value)(o:Nat)(w:Ω)(C:Array Value),w.1[b]?=O (Δ C t)->(w.setCells b o vs).1[b]?=O (Δ (yy vs o C) t)
 |[],_,_,_,h=>h
 |v::r,o,w,C,h=>Av b t r (o+1) _ _ (by simp only[World.setCell,dU,h,iP,kS,ie,iq,fL])
structure yx (w V:Ω) (A sb j n:Nat) (L:List (List UInt8)):Prop where
 d:∃S as_,mA oN (L.take j) S as_/\fU V sb (λb=>w.1.size<=b/\b≠A) S/\V.ownsRow w.1.size 9 1 (M (O ⟨A,0,J⟩) j n) j (as_.map fX)
 c:cQ V (λb=>w.1.size<=b/\b≠A)
 a:B w.1.size w V
theorem Pi(q:Option Addr)(n cap:Nat)(w:Ω)(h:100<n)(b:n<=1000):
  Φ prog 5 #[M q n cap] w λe a=>e=N (Ψ #[M J 0 0,.iface 57 (I Q 2)])/\a=w:=by
 have c:(100:Int)<n:=om;go_enter func5,ntmps5;go_wp2;go_ret2;exact⟨rfl,rfl⟩
theorem Gp(L:List (List UInt8))(q:Option Addr)(cap:Nat)(w:Ω)(hL:jA w q L)(hn:L.length<=100)(hl:∀l,l∈L->l.length<=400)(hT:aT w)(hg:cN w):
  Φ prog 5 #[M q L.length cap] w λe w'=>∃g S p,e=N (Ψ #[M (O ⟨g,0,J⟩) L.length L.length,.nilIface])/\mA oN L S p/\w'.ownsRow w.1.size 9 1 (M (O ⟨g,0,J⟩) L.length L.length) L.length (p.map fX)/\B w.1.size w w':=by
 have h1:¬(100:Int)<L.length:=om;have hmk:∀V:Ω,(Instr.makeSlice 22 (I Q 0) (I Q (L.length:Int))).run prog V=.ok (M (O ⟨V.1.size,0,J⟩) 0 L.length) (V.alloc (Δ (madeCells #[Z ⟨#[]⟩] L.length) 9)):=λV=>by obtain⟨i0,z,hz0,hz1,hz2⟩:=eb vY;have:=run_make V 22 9 i0 (Z ⟨#[]⟩) underlying22 z hz0 Q Q 0 (L.length:Int) om om (by rw[hz2];omega) om;rw[hz1,show (Z ⟨#[]⟩).cells=#[Z ⟨#[]⟩] from rfl]at this;simpa using this
 have HBl:H (Φ prog 10 #[] w λe w'=>e=N (.agg #[I Q 0,I Q 0,I Q 0,I Q 0,I Q 0,I Q 0,I Q (-1),I Q (-1),I Q (-1),I Q (-1),I Q (-1),I Q (-1),I Q (-1),I Q (-1),I Q (-1),I Q (-1),I Q (-1),I Q (-1),I Q (-1),I Q (-1),I Q (-1),I Q (-1)])/\B w.1.size w w'):=MH w;obtain⟨i9,hi9,hz9,hs9,hb9⟩:=eb vY;have HT:H (aT w):=hT;have HG:H (cN w):=hg;have HL:H (jA w q L):=hL;have HLL:H (∀l,l∈L->l.length<=400):=hl;clear hL hl hT hg;go_enter func5,ntmps5;go_wp2_with fail;refine HBl.o.m ?_;rintro e v ⟨rfl,hb1⟩;have K:H (B w.1.size w v):=hb1;clear hb1;have P:H (B w.1.size w (v.alloc (Δ #[I Q 0,I Q 0,I Q 0,I Q 0,I Q 0,I Q 0,I Q 0,I Q 0,I Q 0,I Q 0,I Q 0,I Q 0,I Q 0,I Q 0,I Q 0,I Q 0,I Q 0,I Q 0,I Q 0,I Q 0,I Q 0,I Q 0,M J 0 0,Y J] 61))):=K.o.l K.o.size _;have G:H ((v.alloc (Δ #[I Q 0,I Q 0,I Q 0,I Q 0,I Q 0,I Q 0,I Q 0,I Q 0,I Q 0,I Q 0,I Q 0,I Q 0,I Q 0,I Q 0,I Q 0,I Q 0,I Q 0,I Q 0,I Q 0,I Q 0,I Q 0,I Q 0,M J 0 0,Y J] 61)).1[v.1.size]?=O (Δ #[I Q 0,I Q 0,I Q 0,I Q 0,I Q 0,I Q 0,I Q 0,I Q 0,I Q 0,I Q 0,I Q 0,I Q 0,I Q 0,I Q 0,I Q 0,I Q 0,I Q 0,I Q 0,I Q 0,I Q 0,I Q 0,I Q 0,M J 0 0,Y J] 61)):=bn v _;obtain⟨W,hW⟩:∃W,v.alloc (Δ #[I Q 0,I Q 0,I Q 0,I Q 0,I Q 0,I Q 0,I Q 0,I Q 0,I Q 0,I Q 0,I Q 0,I Q 0,I Q 0,I Q 0,I Q 0,I Q 0,I Q 0,I Q 0,I Q 0,I Q 0,I Q 0,I Q 0,M J 0 0,Y J] 61)=W:=⟨_,rfl⟩;rw[hW]at P G;have HWE:H (v.alloc (Δ #[I Q 0,I Q 0,I Q 0,I Q 0,I Q 0,I Q 0,I Q 0,I Q 0,I Q 0,I Q 0,I Q 0,I Q 0,I Q 0,I Q 0,I Q 0,I Q 0,I Q 0,I Q 0,I Q 0,I Q 0,I Q 0,I Q 0,M J 0 0,Y J] 61)=W):=hW;have hth:W.there v.1.size 0 24:=λi z=>by rw[dj];obtain⟨p0,f0,_⟩:=ck G.o;exact⟨by rw[p0 i _ (oQ z)];rfl,f0 i⟩
 have z:(prog.info? 61).map (·.size)=O (cM fQ (M J 0 0) (Y J)).size:=kr;have ho:(cM fQ (M J 0 0) (Y J)).all (·.oneCell')=true:=by simp[cM,bj,fQ,Value.oneCell']
 clear hW;go_wp2_with (rw[HWE.o];refine wpList_store_mid rfl 61 (.tmp 4) (.tmp 13) rfl v.1.size 0 (cM fQ (M J 0 0) (Y J)) rfl rfl hth z ho ?_)
 have HST:H (yx w ((W.setCells v.1.size 0 (cM fQ (M J 0 0) (Y J)).toList).alloc (Δ (madeCells #[Z ⟨#[]⟩] L.length) 9)) W.1.size v.1.size 0 L.length L):=by
  have hsz:(W.setCells v.1.size 0 (cM fQ (M J 0 0) (Y J)).toList).1.size=W.1.size:=GX _ _ _ _;have hbW:=P.o.t (tA v.1.size (cM fQ (M J 0 0) (Y J)).toList 0 W w.1.size K.o.size);have hlt:v.1.size<W.1.size:=(bP.1 G.o).1;have hb0:=Av v.1.size 61 (cM fQ (M J 0 0) (Y J)).toList 0 W _ G.o;rw[show yy (cM fQ (M J 0 0) (Y J)).toList 0 #[I Q 0,I Q 0,I Q 0,I Q 0,I Q 0,I Q 0,I Q 0,I Q 0,I Q 0,I Q 0,I Q 0,I Q 0,I Q 0,I Q 0,I Q 0,I Q 0,I Q 0,I Q 0,I Q 0,I Q 0,I Q 0,I Q 0,M J 0 0,Y J]=cM fQ (M J 0 0) (Y J) from rfl]at hb0;generalize W.setCells v.1.size 0 (cM fQ (M J 0 0) (Y J)).toList=U at *;have hbA:B w.1.size w (U.alloc (Δ (madeCells #[Z ⟨#[]⟩] L.length) 9)):=hbW.l hbW.size _;have h11:=HT.o.b;have hs1:=K.o.size;refine⟨⟨oN,[],⟨rfl,rfl⟩,⟨M J 0 0,Y J,?_,⟨hs1,om⟩,⟨rfl,af ⟨rfl,rfl⟩⟩,λb y=>(by cases y),λr hr=>(by cases hr),aX _,af ⟨rfl,rfl⟩⟩,?_⟩,⟨HT.o.a hbA,p8 HG.o hbA,λb y=>?_,λb y=>om⟩,hbA⟩
  ·rw[cX _ _ _ om];exact hb0
  ·have:=Tb U L.length w.1.size hbW.size om;rw[hsz]at this;exact this
  rw[fi,hsz]at y;have:=P.o.size;exact⟨om,om⟩
 generalize (W.setCells v.1.size 0 (cM fQ (M J 0 0) (Y J)).toList).alloc (Δ (madeCells #[Z ⟨#[]⟩] L.length) 9)=U at *;generalize W.1.size=A at *;generalize v.1.size=sb at *;clear hth z ho HWE G P hmk HBl;go_loopw [5,7,19] (λl _ i V=>∃j:Nat,j<=L.length/\i=I Q (j:Int)/\l=M (O ⟨A,0,J⟩) j L.length/\yx w V A sb j L.length L) (λ_ _ i _=>L.length-(intOf i).toNat)
 case atStart=>exact⟨0,om,rfl,rfl,HST.o⟩
 case round=>
  obtain⟨j,hj,rfl,rfl,hR⟩:=hrel;have HR:H (yx w wr A sb j L.length L):=hR;clear hR HST;by_cases hlt:j<L.length
  case pos=>
   have hI:(j:Int)<L.length:=om;obtain⟨l,hl⟩:∃l,L[j]?=O l:=⟨L[j],by simp[hlt]⟩;obtain⟨g,o,rfl,hg,hc⟩:=HL.o.a (λe=>by rw[e]at hlt;cases hlt);have c0:wr.cell? ⟨g,o+j,J⟩=O (Z (ae l)):=cz HR.o.a (hc j l hl);obtain⟨S,p,hS,C,x⟩:=HR.o.d;have hin:=hS.a Gn;have hAN:H (Φ prog 11 #[Y (O ⟨sb,0,J⟩),Z (ae l)] wr (Hl wr sb (λb=>w.1.size<=b/\b≠A) S l)):=KG l C HR.o.c hin (by rw[fj];omega) (HLL.o l (iW hl));have E:H (wr.ownsRow w.1.size 9 1 (M (O ⟨A,0,J⟩) j L.length) j (p.map fX)):=x;have HSA:H (mA oN (L.take j) S p):=hS;have HLJ:H (L.take (j+1)=L.take j++[l]):=(by show _=_;rw[jL,hl];rfl);clear hc hg hl hS C x hin;go_wp2_with fail;refine hAN.o.m ?_;rintro e T ⟨S',t,n,rfl,hd,C,R⟩;obtain⟨X,hX⟩:∃X,X=eX t n:=⟨_,rfl⟩;rw[<-hX];have hcx:=HR.o.c.h R;have hb2:B w.1.size wr T:=R.i HR.o.a.size (λb y hF=>by omega);have D:B w.1.size w T:=HR.o.a.t hb2
   have hr2:T.ownsRow w.1.size 9 1 (M (O ⟨A,0,J⟩) j L.length) j (p.map fX):=aS E.o (λb y=>by
    have e:A=b:=(by simpa [Value.ownBlock] using y);subst e;exact R.b A (aU E.o rfl) (λh=>h.2 rfl))
   have hpo:=hr2.alloc (Δ #[Z (ae X)] 9);have HB3:H (B w.1.size w (T.alloc (Δ #[Z (ae X)] 9))):=D.l D.size _;have HC3:H (cQ (T.alloc (Δ #[Z (ae X)] 9)) (λb=>w.1.size<=b/\b≠A)):=hcx.c ba;have HS3:H (fU (T.alloc (Δ #[Z (ae X)] 9)) sb (λb=>w.1.size<=b/\b≠A) S'):=C.a ba;have HSS:H (mA oN (L.take (j+1)) S' (p++[X])):=(by rw[HLJ.o,hX];exact HSA.o.c hd);clear hd C R hX hcx hb2 D hr2;go_wp2_with (at_builtin;refine wpList_append_fits _ rfl _ _ 22 rfl w.1.size 9 i9 1 underlying22 hi9 hs9 A j L.length _ rfl hpo ⟨T.1.size,0,J⟩ 1 1 [Z (ae X)] rfl rfl ?q1 ?q2 om ?_)
   try case q1=>
    intro i u z
    match i,z with
   |0,z=>simp at z;subst z;simp[Addr.add]
   try case q2=>first|rfl|(intro u hu;simp at hu;subst hu;rfl)
   intro V3 F s
   have HR3:H (yx w V3 A sb (j+1) L.length L):=by
    have hb3:ax (λb=>b=A) (T.alloc (Δ #[Z (ae X)] 9)) V3:=eV s (λk e=>by injection e with e;exact e.symm);have hA:w.1.size<=A:=(bG E.o A rfl).1;have hbw:B w.1.size (T.alloc (Δ #[Z (ae X)] 9)) V3:=hb3.i HB3.o.size (λb y e=>by omega);refine⟨⟨S',p++[X],HSS.o,?_,?_⟩,?_,HB3.o.t hbw⟩
    ·obtain⟨rv,wv,hq⟩:=HS3.o.b;exact⟨rv,wv,hq.l s.size (λb y hF=>hb3.b b y hF.2)⟩
    ·rw[iY];exact F
    have h11:=HT.o.b;exact⟨HC3.o.a.c (hbw.m h11) nl,HC3.o.d.b (hbw.m h11) nl,λb y=>HC3.o.f b (aP s.size y),HC3.o.e⟩
   clear F s hpo;go_wp2;go_roundw
   case rel=>exact⟨j+1,om,by go_num,rfl,HR3.o⟩
   simp[intOf];omega
  have hI:¬(j:Int)<L.length:=om;have e5:j=L.length:=om;have HF:H (∃S p,mA oN L S p/\wr.ownsRow w.1.size 9 1 (M (O ⟨A,0,J⟩) L.length L.length) L.length (p.map fX)/\B w.1.size w wr):=(by obtain⟨S,p,hS,_,x⟩:=HR.o.d;rw[e5]at x;rw[e5,eL]at hS;exact⟨S,p,hS,x,HR.o.a⟩);have HE:H (j=L.length):=e5;clear HR e5;go_wp2;go_ret2;obtain⟨S,p,h1,h2,h3⟩:=HF.o;exact⟨A,by show Ending.returned (Ψ #[M (O ⟨A,0,J⟩) j L.length,.nilIface])=_;rw[HE.o],S,p,h1,h2,h3⟩
end
section
open Go.RowKit
theorem Jy(w:Ω): Φ prog 22 #[I Q (-1)] w λe d=>e=N (Z ⟨#[45,49]⟩)/\B w.1.size w d:=by
 have c:=FSx;go_enter func22,ntmps22;go_wp2;go_loopw [0,3,5] (λa b _ V=>a=I Q (-1)/\b=Z ⟨#[]⟩/\V=w) (λa _ _ _=>(intOf a).toNat)
 case atStart=>exact⟨rfl,rfl,rfl⟩
 obtain⟨rfl,rfl,rfl⟩:=hrel;go_wp2;go_ret;exact⟨rfl,ba⟩
theorem xz:Lib.itoa (-1)=[45,49]:=by unfold Lib.itoa;rw[ak dc];show 45::Lib.decDigits 1=_;rw[Lib.decDigits,dif_pos dc];rfl
theorem vy(n:Int)(w:Ω)(b:-1<=n)(c:n<=9223372036854775807):
  Φ prog 22 #[I Q n] w λe a=>e=N (Z (ae (Lib.itoa n)))/\B w.1.size w a:=by
 by_cases h:n=-1
 ·subst h;rw[xz];exact Jy w
 obtain⟨m,rfl⟩:∃m:Nat,n=(m:Int):=⟨n.toNat,om⟩;rw[tU];exact jM m w om
theorem kf(n:Nat)(w:Ω)(h:n<=9): Φ prog 12 #[I Q (n:Int)] w λe b=>e=N (Z (ae (iE n)))/\B w.1.size w b:=by
 have g:=aV (Lib.itoa n);have d:=sO n om om;have c:H ((⟨#[101,114,114,111,114,32]⟩:ByteArray)++ae (Lib.itoa n)=ae (iE n)):=by show _=_;unfold iE;rw[<-pq];rfl
 go_enter func12,ntmps12;go_wp2_with (go_at_call 22;refine(vy (n:Int) w om om).m ?_;rintro e f ⟨rfl,a⟩);go_ret;exact⟨by rw[c.o];rfl,a⟩
theorem xA(m:Int)(n:Nat)(w:Ω)(h:n<=9)(d:-1<=m)(i:m<=9223372036854775807): Φ prog 28 #[I Q m,I Q (n:Int)] w λe f=>e=N (Z (ae (eX (fM m n) n)))/\B w.1.size w f:=by
 by_cases c:n=0
 ·subst c;have b:H (eX (fM m 0) 0=Lib.itoa m):=rfl;go_enter func28,ntmps28;go_wp2_with (go_at_call 22;refine(vy m w d i).m ?_;rintro e g ⟨rfl,a⟩);go_ret;exact⟨by rw[b.o];rfl,a⟩
 have b:H (eX (fM m n) n=iE n):=by show _=_;unfold eX;rw[ag c]
 have j:(0:Int)<n:=om;go_enter func28,ntmps28;go_wp2_with (go_at_call 12;refine(kf n w h).m ?_;rintro e g ⟨rfl,a⟩);go_ret;exact⟨by rw[b.o];rfl,a⟩
theorem xj{x:List UInt8}{n:Int}:eo x=O n↔Lib.itoa n=x/\-1<=n/\n<=99999:=by
 constructor
 ·intro h;unfold eo at h;split at h
  ·split at h
   ·rename_i hc;injection h with h
    rw[<-h];exact hc
   cases h
  cases h
 rintro⟨rfl,a,b⟩
 have:Lib.atoiAll (Lib.itoa n)=.ok n:=by
  by_cases h:n=-1
  ·subst h;rw[xz];decide
  obtain⟨m,rfl⟩:∃m:Nat,n=(m:Int):=⟨n.toNat,om⟩;rw[tU];exact yV (nZ m) (uk m) (ue m) om
 unfold eo;rw[this];show (if _ then _ else _)=_;rw[ak ⟨rfl,a,b⟩]
end
section
open Go.RowKit
theorem lG(x:List UInt8):(ae x).toList=x:=by rw[cY,bX]
def wh(x:List UInt8)(w:Ω)(e:Ending)(w':Ω):Prop:=∃v,e=N (Ψ #[I Q v,.bool (eo x).isSome])/\(∀m,eo x=O m->v=m)/\B w.1.size w w'
theorem Pj{x:List UInt8}{m:Int}(b:x≠[45,49])(h:eo x=O m):∃k:Nat,m=(k:Int)/\x=aK k/\k<=99999:=by
 obtain⟨a,e,d⟩:=xj.1 h;by_cases c:m=-1
 ·subst c;exact absurd (a.symm.trans xz) b
 obtain⟨k,rfl⟩:∃k:Nat,m=(k:Int):=⟨m.toNat,om⟩;exact⟨k,rfl,by rw[<-a,tU],om⟩
theorem QO{x:List UInt8}{k:Nat}(h:x=aK k)(b:k<=99999):jw (ae x)=Ψ #[I Q (k:Int),.bool true]/\x.length<6:=by have a:(aK k).length<=5:=(ud dc).2 om;rw[h];exact⟨tQ (nZ k) (uk k) (ue k) om,om⟩
theorem BZ(x:List UInt8)(w:Ω)(K:x.length<=300): Φ prog 16 #[Z (ae x)] w (wh x w):=by
 by_cases q:x=[45,49]
 ·subst q;have t:eo [45,49]=O (-1):=xj.2 ⟨xz,dc,dc⟩;have c:H (eo [45,49]=O (-1)):=t;rw[show ae [45,49]=⟨#[45,49]⟩ from rfl];clear t;go_enter func16,ntmps16;go_wp2;go_ret2;exact⟨-1,by rw[c.o];rfl,λm h=>(by rw[c.o]at h;injection h),aj _ _⟩
 have S:((ae x).toList == [45,49])=false:=by rw[lG];simpa using q
 obtain⟨n,b,t,f⟩:=zW (ae x);have y:H (Φ prog 24 #[Z (ae x)] w λe r=>e=N (Ψ #[I Q (n:Int),.bool b])/\r=w):=by rw[<-f];exact pS (ae x) w (by rw[aV];exact K)
 have W:=aV x;have l:H (∀m,eo x=O m->m=(n:Int)/\b=true/\x.length<6/\aK n=x):=λm i=>by obtain⟨k,rfl,d,D⟩:=Pj q i;obtain⟨L,p⟩:=QO d D;rw[L]at f;simp at f;obtain⟨j,s⟩:=f;have e:k=n:=om;subst e;exact⟨rfl,s,p,d.symm⟩
 have F:H (x.length<6->aK n=x->eo x=O (n:Int)):=λT d=>by have D:n<10^5:=(ud dc).1 (by rw[d];omega);exact xj.2 ⟨by rw[tU,d],om,om⟩
 have g:H ((eo x).isSome=false->∀V v,B w.1.size w V->wh x w (N (Ψ #[I Q v,.bool false])) V):=λh V v A=>⟨v,by rw[h],λm i=>(by rw[i]at h;cases h),A⟩;have C:(x.length:Int)<6↔x.length<6:=om;clear f q;cases b with
 |false=>
  have c:H ((eo x).isSome=false):=by
   show _=_;cases h:eo x with
  |none=>rfl
  |some m=>have:=(l.o m h).2.1;cases this
  go_enter func16,ntmps16;go_wp2_with (go_at_call 24;refine y.o.m ?_;rintro e E ⟨rfl,rfl⟩);go_ret2;exact g.o c.o _ _ br
 |true=>
  by_cases p:x.length<6
  ·have u:(x.length:Int)<6:=om;have P:H (Φ prog 22 #[I Q (n:Int)] w λe r=>e=N (Z (ae (aK n)))/\B w.1.size w r):=jM n w om
   have U:((ae (aK n)).toList == (ae x).toList)=(eo x).isSome:=by
    rw[lG,lG];by_cases j:aK n=x
    ·rw[F.o p j];simpa using j
    cases s:eo x with
   |none=>simpa using j
   |some m=>exact absurd (l.o m s).2.2.2 j
   have G:H (∀V,B w.1.size w V->wh x w (N (Ψ #[I Q (n:Int),.bool (eo x).isSome])) V):=λV A=>⟨n,rfl,λm i=>(l.o m i).1.symm,A⟩;generalize (eo x).isSome=a at *;clear C;go_enter func16,ntmps16;go_wp2_with fail;refine y.o.m ?_;rintro e E ⟨rfl,rfl⟩;go_wp2_with (go_at_call 22;refine P.o.m ?_;rintro e R ⟨rfl,z⟩);go_ret2;exact G.o _ z
  have u:¬(x.length:Int)<6:=om
  have c:H ((eo x).isSome=false):=by
   show _=_;cases h:eo x with
  |none=>rfl
  |some m=>exact absurd (l.o m h).2.2.1 p
  clear C;go_enter func16,ntmps16;go_wp2_with (go_at_call 24;refine y.o.m ?_;rintro e E ⟨rfl,rfl⟩);go_ret2;exact g.o c.o _ _ br
end
section
open Go.RowKit
def qQ:Option (Nat×Nat)->Value
 |some (a,b)=>Ψ #[I Q (a:Int),I Q (b:Int)]
 |none=>Ψ #[I Q (-1),I Q 0]
theorem Pk{l:List UInt8}(h:eS l=J):((ae l).toList == [115,101,116])=false/\((ae l).toList == [97,116])=false/\((ae l).toList == [115,116,97,114,116])=false/\((ae l).toList == [102,101,101,100])=false/\((ae l).toList == [114,101,97,100])=false/\((ae l).toList == [116,105,99,107])=false/\((ae l).toList == [119,104,101,114,101])=false/\((ae l).toList == [105,110])=false/\((ae l).toList == [119,97,114,109])=false/\((ae l).toList == [97,108,101,114,116,115])=false/\((ae l).toList == [100,114,111,112,115])=false:=by
 rw[lG]
 have a:∀k,(∃p,eS k=O p)->(l == k)=false:=λk ⟨p,b⟩=>by
  cases e:l == k with
 |false=>rfl
 |true=>rw[eq_of_beq e]at h;rw[h]at b;cases b
 exact⟨a _ ⟨_,rfl⟩,a _ ⟨_,rfl⟩,a _ ⟨_,rfl⟩,a _ ⟨_,rfl⟩,a _ ⟨_,rfl⟩,a _ ⟨_,rfl⟩,a _ ⟨_,rfl⟩,a _ ⟨_,rfl⟩,a _ ⟨_,rfl⟩,a _ ⟨_,rfl⟩,a _ ⟨_,rfl⟩⟩
theorem ET(l:List UInt8)(w:Ω): Φ prog 15 #[Z (ae l)] w λe d=>e=N (qQ (eS l))/\d=w:=by
 cases h:eS l with
 |none=>
  obtain⟨a,n,f,m,i,g,k,j,o,b,c⟩:=Pk h;unfold qQ;clear h;go_enter func15,ntmps15;go_wp2;go_ret2;exact⟨rfl,rfl⟩
 |some p=>
  rcases Bj h with a|a|a|a|a|a|a|a|a|a|a|a
  all_goals subst a
  all_goals first
  |(cases h;done)
  |(cases h;unfold qQ;(first
    |rw[show ae kB=⟨#[115,101,116]⟩ from rfl]
    |rw[show ae kG=⟨#[97,116]⟩ from rfl]
    |rw[show ae ku=⟨#[115,116,97,114,116]⟩ from rfl]
    |rw[show ae nC=⟨#[102,101,101,100]⟩ from rfl]
    |rw[show ae mt=⟨#[114,101,97,100]⟩ from rfl]
    |rw[show ae mP=⟨#[116,105,99,107]⟩ from rfl]
    |rw[show ae ml=⟨#[119,104,101,114,101]⟩ from rfl]
    |rw[show ae nL=⟨#[105,110]⟩ from rfl]
    |rw[show ae ot=⟨#[119,97,114,109]⟩ from rfl]
    |rw[show ae nB=⟨#[97,108,101,114,116,115]⟩ from rfl]
    |rw[show ae mj=⟨#[100,114,111,112,115]⟩ from rfl]);go_enter func15,ntmps15;go_wp2;go_ret2;exact⟨rfl,rfl⟩)
end
section
open Go.RowKit
theorem Tc(c:UInt8)(k:Nat)(g:k<16):(((nJ.getD k 0).toNat:Int) == (c.toNat:Int))=decide (dg c=(k:Int)):=by
 have e:(((nJ.getD k 0).toNat:Int) == (c.toNat:Int))=decide (nJ.getD k 0=c):=by
  rw[jq];simp only[beq_iff_eq,kO];constructor
  ·intro h;exact UInt8.toNat_inj.1 om
  intro h;rw[h]
 rw[e,jq];simp only[kO];constructor
 ·intro h;have i:nJ[k]?=O c:=by rw[<-h,en,bc (show k<nJ.length from g)];rfl
  by_cases l:dg c=-1
  ·exact absurd i (Lib.indexByte_none l k)
  have n:=vV c;obtain⟨o,m⟩:∃o:Nat,dg c=(o:Int):=⟨(dg c).toNat,om⟩;have j:=(Lib.indexByte_some m).1;have d:∀a:Fin 16,∀b:Fin 16,nJ[a.val]?=nJ[b.val]?->a=b:=(by decide);have f:=d ⟨k,g⟩ ⟨o,om⟩ (i.trans j.symm);injection f with f
  omega
 intro h;have:=(Lib.indexByte_some h).1;rw[en,this];rfl
def oE(l:List UInt8)(i:Nat):List Value:=(List.range ((i+1)/2)).map λp=>I .u8 (if 2*p+1<i then mQ l p else 16*dg (l.getD (2*p) 0))
theorem Pm(l:List UInt8){i p:Nat}(h:i=2*p):oE l (i+1)=oE l i++[I .u8 (16*dg (l.getD i 0))]:=by
 subst h;unfold oE;rw[show (2*p+1+1)/2=p+1 by omega,show (2*p+1)/2=p by omega,l8,iY];congr 1
 ·refine tw λq a=>?_;have:=List.mem_range.1 a;rw[ak om,ak om]
 simp
theorem FF(l:List UInt8){p:Nat}:oE l (2*p)=(List.range p).map λq=>I .u8 (mQ l q):=by unfold oE;rw[show (2*p+1)/2=p by omega];refine tw λq a=>?_;have:=List.mem_range.1 a;rw[ak om]
theorem QP(l:List UInt8){i p:Nat}(h:i=2*p+1):oE l (i+1)=(oE l i).set p (I .u8 (mQ l p)):=by
 subst h;rw[show 2*p+1+1=2*(p+1) by omega,FF];refine List.ext_getElem? λq=>?_;rw[List.getElem?_set];unfold oE;rw[show (2*p+1+1)/2=p+1 by omega];simp only[eE,jp,List.length_range];by_cases e:p=q
 ·subst e;simp
 rw[ag e];by_cases h:q<p+1
 ·rw[rR h];simp only[kS];rw[ak om]
 rw[iV (by simp;omega)];rfl
theorem Sa(l:List UInt8)(w:Ω)(b:l.length<=400)(h:¬l.length%2=0):
  Φ prog 30 #[Z (ae l)] w λe a=>e=N (Ψ #[Z ⟨#[]⟩,.bool false])/\B w.1.size w a:=by
 have d:=aV l;have c:(0:Int)<(l.length:Int)%2:=om;go_enter func30,ntmps30;go_wp2;go_ret2;exact⟨rfl,aj _ _⟩
end
section
open Go.RowKit
theorem Td:(prog.info? 5).map (λi=>(i.zero,i.size,i.bytes))=O (O (I .u8 0),1,1):=kr
structure pK (w V:Ω) (l:List UInt8) (i:Nat) (v:Value):Prop where
 c:V.ownsRow w.1.size 5 1 v ((i+1)/2) (oE l i)
 a:B w.1.size w V
 b:∀j,j<i->dg (l.getD j 0)≠-1
theorem pK.d{w V:Ω}{l:List UInt8}{i:Nat}{v:Value}(h:pK w V l i v)(n:Nat):pK w (V.drewN n) l i v:=⟨h.c,h.a.t ((gp V n).m h.a.size),h.b⟩
theorem FG(l:List UInt8)(w:Ω)(hl:l.length<=400)(h:l.length%2=0):
  Φ prog 30 #[Z (ae l)] w λe w'=>((js l/\e=N (Ψ #[Z (ae (fS l)),.bool true]))\/(¬js l/\e=N (Ψ #[Z ⟨#[]⟩,.bool false])))/\B w.1.size w w':=by
 have hz:=aV l;have h1:¬(0:Int)<(l.length:Int)%2:=om;obtain⟨i5,hi5,hz5,hs5,hb5⟩:=eb Td;have HU0:H (pK w w l 0 (M J 0 0)):=⟨⟨rfl,af ⟨rfl,rfl⟩⟩,aj _ _,λj hj=>by omega⟩;go_enter func30,ntmps30;go_wp2;go_loopw [4,5,6,7] (λb i _ _ V=>∃j:Nat,j<=l.length/\i=I Q (j:Int)/\pK w V l j b) (λ_ i _ _ _=>l.length-(intOf i).toNat)
 case atStart=>exact⟨0,om,rfl,HU0.o⟩
 case round=>
  obtain⟨j,hj,rfl,hU⟩:=hrel;have s:H (pK w wr l j u4):=hU;clear hU HU0;by_cases X:j<l.length
  case pos=>
   have hJ:(j:Int)<l.length:=om;have hjs:j<(ae l).size:=om;obtain⟨c,hc⟩:∃c,(ae l)[j]=c:=⟨_,rfl⟩;have ec:l.getD j 0=c:=(by rw[<-hc,en,bc X];rfl);have T:H (l.getD j 0=c):=ec;have hI:∀V:Ω,(Instr.index 9 (Z (ae l)) (I Q (j:Int))).run prog V=.ok (I .u8 (c.toNat:Int)) V:=λV=>(by rw[run_index_string V 9 (ae l) Q _ underlying9,dif_pos om];simp only[ir,hc]);clear hc ec;go_wp2_with fail;go_loopw [6,7] (λd k V=>∃m:Nat,m<=16/\k=I Q (m:Int)/\d=I Q (if 0<=dg c/\dg c<m then dg c else -1)/\pK w V l j u4) (λ_ k _=>16-(intOf k).toNat)
   case atStart=>exact⟨0,om,rfl,by rw[ag om],s.o⟩
   obtain⟨m,hm,rfl,rfl,hU⟩:=hrel;clear s;have s:H (pK w wr l j u4):=hU;clear hU;by_cases hmt:m<16
   case pos=>
    have hM:(m:Int)<16:=om
    have hI2:∀V:Ω,(Instr.index 9 (Z ⟨#[48,49,50,51,52,53,54,55,56,57,97,98,99,100,101,102]⟩) (I Q (m:Int))).run prog V=.ok (I .u8 ((nJ.getD m 0).toNat:Int)) V:=λV=>by
     rw[run_index_string V 9 ⟨#[48,49,50,51,52,53,54,55,56,57,97,98,99,100,101,102]⟩ Q _ underlying9,dif_pos (by exact⟨om,by simpa [ByteArray.size] using hM⟩)]
     match m,hmt with
    |0,_|1,_|2,_|3,_|4,_|5,_|6,_|7,_|8,_|9,_|10,_|11,_|12,_|13,_|14,_|15,_=>rfl
    have hq:=Tc c m hmt;have R:H (∀n,pK w (wr.drewN n) l j u4):=λn=>s.o.d n;generalize ((nJ.getD m 0).toNat:Int)=y at *;generalize hD:(if 0<=dg c/\dg c<(m:Int) then dg c else -1)=D at *;have HD:H ((if 0<=dg c/\dg c<(m:Int) then dg c else -1)=D):=hD;clear hD;by_cases L:dg c=(m:Int)
    ·have hq1:(y == (c.toNat:Int))=true:=(by rw[hq];simpa using L);have HE:H (dg c=(m:Int)):=L;clear hq L;go_wp2_with fail;go_quiet (fail);go_wp2;go_roundw
     case rel=>exact⟨m+1,om,by go_num,by rw[HE.o,ak om],R.o _⟩
     simp[intOf];omega
    have hq1:(y == (c.toNat:Int))=false:=(by rw[hq];simpa using L);have HE:H (¬dg c=(m:Int)):=L;clear hq L;go_wp2_with fail;go_quiet (fail);go_wp2;go_roundw
    case rel=>
     refine⟨m+1,om,by go_num,?_,R.o _⟩;rw[<-HD.o];have:=HE.o;by_cases K:0<=dg c/\dg c<(m:Int)
     ·rw[ak K,ak om]
     rw[ag K,ag om]
    simp[intOf];omega
   have hM:¬(m:Int)<16:=om;have hle:=vV c;rw[show (if 0<=dg c/\dg c<(m:Int) then dg c else -1)=dg c by by_cases K:0<=dg c/\dg c<(m:Int);rw[ak K];rw[ag K];omega];by_cases C:dg c=-1
   ·have hn:dg c<0:=om;have HNO:H (¬js l):=λh=>h.2 j X (by rw[T.o];exact C);generalize dg c=D at *;go_wp2;go_ret2;exact⟨ah ⟨HNO.o,rfl⟩,s.o.a⟩
   obtain⟨z,E⟩:∃z:Nat,dg c=(z:Int):=⟨(dg c).toNat,om⟩;have HZ:H (dg (l.getD j 0)=(z:Int)):=by rw[T.o];exact E
   have S:H (∀i,i<j+1->dg (l.getD i 0)≠-1):=λi A=>by
    by_cases e:i=j
    ·rw[e,HZ.o];omega
    exact s.o.b i om
   rw[E]at hle⊢;clear E C;by_cases hpar:j%2=0
   ·have hp1:((j:Int)%2 == 0)=true:=(by simp;omega);obtain⟨p,hp⟩:∃p,j=2*p:=⟨j/2,om⟩;have hw16:(16*(z:Int))%256=16*(z:Int):=om;have f:=s.o.c;rw[show (j+1)/2=p by omega]at f;have G:=f.alloc (Δ #[I .u8 (16*(z:Int))] 5);have hs1:w.1.size<=wr.1.size:=s.o.a.size;have W:H (j=2*p):=hp;clear f;go_wp2_with (at_builtin;refine iB _ rfl _ _ 117 rfl w.1.size 5 i5 (I .u8 0) 1 1 underlying117 hi5 hz5 hs5 hb5 rfl dc _ _ _ rfl G ⟨wr.1.size,0,J⟩ 1 1 [I .u8 (16*(z:Int))] rfl rfl ?q1 ?q2 om ?q3 ?q4 ?q5 (wr.1.size+1) ?q6 ?_)
    try case q1=>
     intro i u A
     match i,A with
    |0,A=>simp at A;subst A;simp[Addr.add]
    try case q2=>first|rfl|(intro u hu;simp at hu;subst hu;rfl)
    try case q3=>unfold maxLen;omega
    try case q4=>omega
    try case q5=>first|omega|(have:=s.out.bl.size;rw[World.size_alloc];omega)|(have:=s.out.bl.size;simp;omega)
    try case q6=>simp
    intro g3 cv3 V3 r q hat3 hlt3
    have F:H (pK w V3 l (j+1) (M (O ⟨g3,0,J⟩) (p+1) cv3)):=by
     refine⟨?_,?_,S.o⟩
     ·rw[show (j+1+1)/2=p+1 by omega,Pm l W.o,HZ.o]
      first|exact r|(rw[<-W.o]at r;exact r)
     have hb:=s.o.a.l s.o.a.size (Δ #[I .u8 (16*(z:Int))] 5);refine hb.t ⟨q.os,q.tape,q.output,q.size,λb hb'=>q.block b (bg hb' hb.size) (λe=>?_)⟩;have:=(bG G b e.symm).1;omega
    clear r q hat3 hlt3 G;go_wp2;go_roundw
    case rel=>exact⟨j+1,om,by go_num,F.o⟩
    simp[intOf];omega
   have hp1:((j:Int)%2 == 0)=false:=(by simp;omega);obtain⟨p,hp⟩:∃p,j=2*p+1:=⟨j/2,om⟩;have W:H (j=2*p+1):=hp;have hq2:(j:Int)/2=(p:Int):=om;have f:=s.o.c;rw[show (j+1)/2=p+1 by omega]at f;have x:H (wr.ownsRow w.1.size 5 1 u4 (p+1) (oE l j)):=f
   obtain⟨g,v,rfl⟩:∃g v,u4=M (O ⟨g,0,J⟩) (p+1) v:=by
    rcases f.2 with ⟨_,h0⟩|⟨g,v,_,hv,_⟩
    ·cases h0
    exact⟨g,v,hv⟩
   have HX:H (dg (l.getD (2*p) 0)≠-1):=s.o.b (2*p) om;have hxl:=vV (l.getD (2*p) 0);obtain⟨y,hy⟩:∃y:Nat,dg (l.getD (2*p) 0)=(y:Int):=⟨(dg (l.getD (2*p) 0)).toNat,by have:=HX.o;omega⟩;have cp:wr.cell? ⟨g,p,J⟩=O (I .u8 (16*(y:Int))):=(by have K:=World.ownsRow.cellAt x.o p om;rw[K];unfold oE;rw[eE,rR om];simp only[kS];rw[ag om,hy]);have fp:wr.frozen? ⟨g,p,J⟩=false:=World.ownsRow.frozenAt x.o p;have HAT:H (mQ l p=16*(y:Int)+(z:Int)):=(by show _=_;unfold mQ;rw[hy,<-W.o,HZ.o]);rw[hy]at hxl;have hw1:(z:Int)%256=(z:Int):=om;have hw2:(16*(y:Int)+(z:Int))%256=16*(y:Int)+(z:Int):=om;have hpI:(p:Int)<(p:Int)+1:=om;have F:H (pK w (wr.setCell ⟨g,p,J⟩ (I .u8 (16*(y:Int)+(z:Int)))) l (j+1) (M (O ⟨g,0,J⟩) (p+1) v)):=(by refine⟨?_,s.o.a.c (bG x.o g rfl).1 _,S.o⟩;rw[show (j+1+1)/2=p+1 by omega,QP l W.o,HAT.o];exact(World.ownsRow.stored x.o p _).1);clear f hy hp;go_wp2;go_roundw
   case rel=>exact⟨j+1,om,by go_num,F.o⟩
   simp[intOf];omega
  case neg=>
   have hJ:¬(j:Int)<l.length:=om;obtain⟨k,hk⟩:∃k,l.length=2*k:=⟨l.length/2,om⟩;have U:j=2*k:=om;have HY:H (js l):=⟨h,λi A=>s.o.b i om⟩;have f:=s.o.c;rw[show (j+1)/2=k by omega,U,FF]at f
   have hcv:(convert 117 9 u4).run prog wr=.ok (Z (ae (fS l))) wr:=by
    have hS:strOfNums ((List.range k).map (mQ l))=ae (fS l):=(by unfold strOfNums fS ae;rw[hk,show 2*k/2=k by omega];simp);rcases f.2 with ⟨rfl,h0⟩|⟨g,v,_,rfl,_⟩
    ·rw[<-hS,h0];rfl
    ·rw[<-hS]
     exact run_convert_bytes_arg (P:=prog) wr 117 5 underlying117 underlying5 g 0 k v ((List.range k).map (mQ l)) sm (λi A=>by
      rw[dj,World.ownsRow.cellAt f i om,en,eE,eE,rR A];rfl) 9 underlying9
   clear f U hk;go_wp2;go_ret2;exact⟨af ⟨HY.o,rfl⟩,s.o.a⟩
theorem Te(l:List UInt8)(w:Ω)(a:l.length<=400)(h:¬js l):
  Φ prog 30 #[Z (ae l)] w λe b=>e=N (Ψ #[Z ⟨#[]⟩,.bool false])/\B w.1.size w b:=by
 by_cases c:l.length%2=0
 ·exact(FG l w a c).m λe b ⟨d,f⟩=>⟨d.elim (λk=>absurd k.1 h) (λk=>k.2),f⟩
 exact Sa l w a c
theorem Sb(l:List UInt8)(w:Ω)(b:l.length<=400)(h:js l):
  Φ prog 30 #[Z (ae l)] w λe a=>e=N (Ψ #[Z (ae (fS l)),.bool true])/\B w.1.size w a:=
 (FG l w b h.1).m λe a ⟨c,d⟩=>⟨c.elim (λk=>k.2) (λk=>absurd h k.1),d⟩
end
section
open Go.RowKit
section
variable {w:Ω}{q p:Option Addr}{c d:Nat}
theorem jA.b{V:Ω}{L:List (List UInt8)}(h:jA w q L)(c:B w.1.size w V):jA V q L where
 a:=λf=>by obtain⟨g,o,i,k,e⟩:=h.a f;exact⟨g,o,i,bg k c.size,λj l d=>cz c (e j l d)⟩
theorem yC(L:List (List UInt8))(s:jA w q L)(r:jA w p L)(z:L.length<=1000):
  Φ prog 9 #[M q L.length c,M p L.length d] w λe v=>e=N (.bool true)/\B w.1.size w v:=by
 have u:H (jA w q L):=s;have x:H (jA w p L):=r;clear s r;go_enter func9,ntmps9;go_wp2;go_loopw [5] (λi V=>∃j n:Nat,j<=L.length/\i=I Q (j:Int)/\V=w.drewN n) (λi _=>L.length-(intOf i).toNat)
 case atStart=>exact⟨0,0,om,rfl,rfl⟩
 obtain⟨j,n,A,rfl,rfl⟩:=hrel;by_cases f:j<L.length
 case pos=>
  have t:(j:Int)<L.length:=om;have b:L≠[]:=λe=>(by rw[e]at f;cases f);obtain⟨g,o,rfl,_,m⟩:=u.o.a b;obtain⟨E,y,rfl,_,h⟩:=x.o.a b;obtain⟨l,k⟩:∃l,L[j]?=O l:=⟨L[j],by simp[f]⟩;have C:=m j l k;have D:=h j l k;clear m h k b;go_wp2_with fail;go_quiet (fail);go_wp2;go_roundw
  case rel=>exact⟨j+1,_,om,by go_num,rfl⟩
  simp[intOf];omega
 have t:¬(j:Int)<L.length:=om;go_wp2;go_ret;exact⟨rfl,gp _ _⟩
end
end
section
open Go.RowKit Go.Maps
structure mE (w:Ω) (sb:Nat) (F:Nat->Prop) (S:bY) (q:Nat) (rv wv:Value):Prop where
 a:w.1[sb]?=O (Δ (cM S.b rv wv) 38)
 e:F sb
 d:w.ownsRow 0 65 6 rv S.a.length (cS S.a)
 c:∀b,rv.ownBlock=O b->F b/\b≠sb
 g:∀r,r∈S.a->r.h
 j:S.a.length<=1000
 i:(S.c=J/\wv=Y J)\/∃W rb od,S.c=O W/\wv=Y (O ⟨rb,0,J⟩)/\dF w rb od W.b W.d W.a (W.a.c W.b) q/\dH W.b W.a/\W.d.length<=6/\(∀b,od b≠0->F b/\b≠sb/\rv.ownBlock≠O b)/\∃t,S.a=W.d++t
structure io (w:Ω) (sb:Nat) (F:Nat->Prop) (S:bY) (q:Nat):Prop where
 a:∃rv wv,mE w sb F S q rv wv
theorem vU{V:Ω}{c i:Nat}{x f:eJ}{rv d a b v:Value}(h:V.1[c]?=O (Δ (cM x rv d) 38))(e:(cM x rv d).setIfInBounds i v=cM f a b):(V.setCell ⟨c,i,J⟩ v).1[c]?=O (Δ (cM f a b) 38):=by simp only[World.setCell,dU,h,iP,kS,ie,iq,fL];rw[e]
section
variable {w w' V:Ω}{sb rb q:Nat}{F:Nat->Prop}{S:bY}{W:fP}{rv wv:Value}{od od':Nat->Nat}
theorem mE.h(h:mE w sb F S q rv wv):sb<w.1.size:=(bP.1 h.a).1
theorem ya{c:aE}{rs:List aq}{s:ay}{k:Nat}(h:dF w rb od c rs s k q){b:Nat}(e:od b≠0):b<w.1.size:=by obtain⟨p,h⟩:=h.a;exact h.d b e
theorem Sc{c:aE}{rs:List aq}{s:ay}{k b:Nat}(h:dF w rb od c rs s k q)(r:q<=b):dF w rb od c rs s k b:=by obtain⟨p,h⟩:=h.a;obtain⟨F,e,o⟩:=h.l;exact⟨p,h.m,h.a,h.d,h.h,h.g,h.n,h.j,h.i,h.f,⟨F,e.a r,o⟩⟩
theorem Ub{c:aE}(h:c.h):dH c ay.k:=⟨h,aX _,aX _,λx a=>(by cases a),(by simp[ay.d,ay.m,ay.k])⟩
theorem mE.l(h:mE w sb F S q rv wv)(n:w.1.size<=w'.1.size)(k:∀b,b<w.1.size->F b->w'.1[b]?=w.1[b]?):mE w' sb F S q rv wv where
 a:=(k sb h.h h.e).trans h.a
 e:=h.e
 d:=aS h.d (λb f=>k b (aU h.d f) (h.c b f).1)
 c:=h.c
 g:=h.g
 j:=h.j
 i:=by
  rcases h.i with h1|⟨W,rb,od,h1,h2,h3,h4,h5,h6,h7⟩
  ·exact af h1
  exact ah ⟨W,rb,od,h1,h2,h3.d n (λb f m=>k b f (h6 b m).1),h4,h5,h6,h7⟩
theorem mE.f(h:mE w sb F S q rv wv)(c:B w.1.size w w'):mE w' sb F S q rv wv:=h.l c.size (λb a _=>c.block b a)
theorem io.b(h:io w sb F S q)(e:B w.1.size w w'):io w' sb F S q:=by obtain⟨c,d,h⟩:=h.a;exact⟨c,d,h.f e⟩
theorem mE.k(h:mE w sb F S q rv wv){x:eJ}(a:w'.1[sb]?=O (Δ (cM x rv wv) 38))(l:ax (λb=>b=sb) w w'):io w' sb F { S with b:=x } q:=by
 have m:∀b,b<w.1.size->b≠sb->w'.1[b]?=w.1[b]?:=λb a f=>l.b b a f;refine⟨rv,wv,a,h.e,aS h.d (λb a=>m b (aU h.d a) (h.c b a).2),h.c,h.g,h.j,?_⟩;rcases h.i with h1|⟨W,rb,od,h1,h2,h3,h4,h5,h6,h7⟩
 ·exact af h1
 exact ah ⟨W,rb,od,h1,h2,h3.d l.c (λb a f=>m b a (h6 b f).2.1),h4,h5,h6,h7⟩
theorem mE.m(h:mE w sb F S q rv wv){u:aq}{g cap:Nat}(D:u.h)(A:S.a.length+1<=1000)(z:∀b,w.1.size<=b->F b)(n:V.ownsRow 0 65 6 (M (O ⟨g,0,J⟩) (S.a.length+1) cap) (S.a.length+1) (cS S.a++dV u))(p:w.grownBy V rv.ownBlock)(j:rv.ownBlock=O g\/g=w.1.size):
  io (V.setCell ⟨sb,22,J⟩ (M (O ⟨g,0,J⟩) (S.a.length+1) cap)) sb F { S with a:=S.a++[u] } q/\ax F w (V.setCell ⟨sb,22,J⟩ (M (O ⟨g,0,J⟩) (S.a.length+1) cap)):=by
 have o:g≠sb:=by
  rcases j with e|e
  ·exact(h.c g e).2
  have:=h.h;omega
 have x:F g:=by
  rcases j with e|e
  ·exact(h.c g e).1
  exact z g om
 have s:ax F w V:=eV p (λb f=>(h.c b f).1);have v:V.1[sb]?=O (Δ (cM S.b rv wv) 38):=(p.block sb h.h (λe=>(h.c sb e.symm).2 rfl)).trans h.a;refine⟨⟨M (O ⟨g,0,J⟩) (S.a.length+1) cap,wv,?_⟩,qw s h.e⟩;have y:∀b,b≠sb->(V.setCell ⟨sb,22,J⟩ (M (O ⟨g,0,J⟩) (S.a.length+1) cap)).1[b]?=V.1[b]?:=λb f=>bN _ _ _ _ f;have l:∀b,(M (O ⟨g,0,J⟩) (S.a.length+1) cap).ownBlock=O b->b=g:=λb f=>by simp[Value.ownBlock]at f;exact f.symm
 refine⟨vU v rfl,h.e,?_,λb f=>by rw[l b f];exact⟨x,o⟩,λr E=>?_,by simpa using A,?_⟩
 ·have e:cS (S.a++[u])=cS S.a++dV u:=by simp[cS]
  simp only[bU,List.length_singleton];rw[e];exact aS n (λb f=>y b (by rw[l b f];exact o))
 ·rcases dP.1 E with h1|h1
  ·exact h.g r h1
  simp at h1;rw[h1];exact D
 rcases h.i with h1|⟨W,rb,od,h1,h2,h3,h4,h5,h6,t,h7⟩
 ·exact af h1
 refine ah ⟨W,rb,od,h1,h2,h3.d (by simpa [World.setCell] using p.size) (λb f k=>(y b (h6 b k).2.1).trans (p.block b f (λe=>(h6 b k).2.2 e.symm))),h4,h5,λb k=>⟨(h6 b k).1,(h6 b k).2.1,λe=>?_⟩,t++[u],by simp[h7]⟩;have C:=l b e;rcases j with e3|e3
 ·exact(h6 b k).2.2 (by rw[e3,C])
 have:=ya h3 k;omega
theorem mE.n{c:aE}(h:mE w sb F S q rv wv)(i:B w.1.size w V)(s:∀b,w.1.size<=b->F b)(t:c.h)(u:S.a.length<=6)(v:dF V rb od c S.a ay.k 0 0)(r:∀b,od b≠0->w.1.size<=b):
  io (V.setCell ⟨sb,23,J⟩ (Y (O ⟨rb,0,J⟩))) sb F { S with c:=O ⟨c,S.a,ay.k⟩ } q/\ax F w (V.setCell ⟨sb,23,J⟩ (Y (O ⟨rb,0,J⟩))):=by
 have p:=h.f i;have y:=h.h;have o:∀b,b≠sb->(V.setCell ⟨sb,23,J⟩ (Y (O ⟨rb,0,J⟩))).1[b]?=V.1[b]?:=λb i=>bN _ _ _ _ i;have x:ay.c c ay.k=0:=Aj c.b c.e;refine⟨⟨rv,_,vU p.a rfl,h.e,aS p.d (λb i=>o b (h.c b i).2),h.c,h.g,h.j,ah ⟨_,rb,od,rfl,rfl,?_,Ub t,u,λb l=>?_,[],by simp⟩⟩,qw (bH i F) h.e⟩
 ·rw[x];exact(Sc v (aX q)).d (by simp[World.setCell]) (λb _ l=>o b (by have:=r b l;omega))
 have m:=r b l;exact⟨s b m,om,λe=>by have:=aU h.d e;omega⟩
structure kK (w:Ω) (sb:Nat) (F:Nat->Prop) (S:bY) (q:Nat) (W:fP) (rv:Value) (rb:Nat) (od:Nat->Nat):Prop where
 c:mE w sb F S q rv (Y (O ⟨rb,0,J⟩))
 l:S.c=O W
 f:dF w rb od W.b W.d W.a (W.a.c W.b) q
 a:dH W.b W.a
 j:W.d.length<=6
 k:∀b,od b≠0->F b/\b≠sb/\rv.ownBlock≠O b
 i:∃t,S.a=W.d++t
theorem io.d(h:io w sb F S q)(e:S.c=O W):∃b rb od,kK w sb F S q W b rb od:=by
 obtain⟨b,f,h⟩:=h.a;rcases h.i with ⟨h1,_⟩|⟨W',rb,od,h1,h2,h3,h4,h5,h6,h7⟩
 ·rw[e]at h1;cases h1
 rw[e]at h1;cases h1;rw[h2]at h;exact⟨b,rb,od,h,e,h3,h4,h5,h6,h7⟩
theorem kK.d(h:kK w sb F S q W rv rb od)(e:B w.1.size w w'):kK w' sb F S q W rv rb od:=⟨h.c.f e,h.l,h.f.b e,h.a,h.j,h.k,h.i⟩
theorem kK.e(h:kK w sb F S q W rv rb od):w.cell? ⟨sb,23,J⟩=O (Y (O ⟨rb,0,J⟩)):=(ck h.c.a).1 23 _ rfl
theorem kK.m(h:kK w sb F S q W rv rb od)(z:∀b,w.1.size<=b->F b){s:ay}{p:Nat}(u:dF V rb od' W.b W.d s (s.c W.b) p)(r:dH W.b s)(n:cD w V od od'):
  kK V sb F { S with c:=O ⟨W.b,W.d,s⟩ } p ⟨W.b,W.d,s⟩ rv rb od'/\ax F w V:=by
 have o:∀b,b<w.1.size->od b=0->V.1[b]?=w.1[b]?:=λb f x=>n.a.b b f (λe=>e x)
 have v:∀b,(b=sb\/rv.ownBlock=O b)->od b=0:=λb f=>by
  by_cases e:od b=0
  ·exact e
  obtain⟨_,t,y⟩:=h.k b e;rcases f with f|f
  ·exact absurd f t
  exact absurd f y
 have l:∀b,od' b≠0->F b/\b≠sb/\rv.ownBlock≠O b:=λb f=>by
  rcases n.g b f with h1|h1
  ·exact h.k b h1
  have t:=h.c.h;exact⟨z b h1,om,λe=>by have:=aU h.c.d e;omega⟩
 refine⟨⟨⟨?_,h.c.e,aS h.c.d (λb f=>o b (aU h.c.d f) (v b (ah f))),h.c.c,h.c.g,h.c.j,ah ⟨_,rb,od',rfl,rfl,u,r,h.j,l,h.i⟩⟩,rfl,u,r,h.j,l,h.i⟩,?_⟩
 ·exact(o sb h.c.h (v sb (af rfl))).trans h.c.a
 exact n.a.e (λb _ f=>(h.k b f).1)
end
end
section
open Go.RowKit Go.Maps
section
variable {w w' V:Ω}{sb rb q:Nat}{F:Nat->Prop}{S:bY}{W:fP}{rv wv:Value}{od od':Nat->Nat}
theorem Po(l:List UInt8)(w:Ω)(h:300<l.length)(c:l.length<=400):
  Φ prog 8 #[Y (O ⟨sb,0,J⟩),Z (ae l)] w λe b=>e=N (Z (ae (iE 4)))/\B w.1.size w b:=by
 have g:=aV l;have d:(300:Int)<l.length:=om;go_enter func8,ntmps8;go_wp2_with (go_at_call 12;refine(kf 4 _ dc).m ?_;rintro e f ⟨rfl,a⟩);go_ret;exact⟨rfl,a⟩
theorem xB{l:List UInt8}:(gW++[32]).isPrefixOf l=true↔4<l.length/\(((ae l).extract 0 5).toList == [114,117,108,101,32])=true:=by
 rw[cY,kP,bX,List.isPrefixOf_iff_prefix,beq_iff_eq];show [114,117,108,101,32] <+: l↔_;constructor
 ·rintro⟨t,rfl⟩;exact⟨by simp,rfl⟩
 rintro⟨b,a⟩;exact⟨l.drop 5,by rw[<-a];simp⟩
theorem GY(l:List UInt8):(ae l).extract 5 (ae l).size=ae (l.drop 5):=by apply ke;apply nU.1;rw[kP,bX,bX,aV];exact ip sm
theorem KH(l:List UInt8)(w:Ω)(u:l.length<=300)(p:(gW++[32]).isPrefixOf l=true)(j:¬∃r,bT (ae (l.drop 5)) r):
  Φ prog 8 #[Y (O ⟨sb,0,J⟩),Z (ae l)] w λe d=>e=N (Z (ae (iE 4)))/\B w.1.size w d:=by
 have q:=aV l;obtain⟨v,x⟩:=xB.1 p;have s:¬(300:Int)<l.length:=om;have n:(4:Int)<l.length:=om
 have f:H (∀V,Φ prog 13 #[Z ((ae l).extract 5 (ae l).size)] V λe d=>e=N (Ψ #[aL eK,.bool false])/\B V.1.size V d):=λV=>by
  rw[GY];refine(FI (ae (l.drop 5)) V (by rw[aV];simp;omega)).m λe d h=>⟨?_,h.a⟩;rcases h.b with ⟨r,hr,_⟩|⟨_,he⟩
  ·exact absurd ⟨r,hr⟩ j
  exact he
 unfold aL eK at f;rw[q]at f;go_enter func8,ntmps8;go_wp2_with fail;refine(f.o _).m ?_;rintro e k ⟨rfl,c⟩;have g:H (∀o,B w.1.size w (k.alloc o)):=λo=>c.l c.size o;clear c;go_wp2_with (go_at_call 12;refine(kf 4 _ dc).m ?_;rintro e t ⟨rfl,i⟩);go_ret;exact⟨rfl,bQ (g.o _) i⟩
theorem Pp(l:List UInt8){u:aq}(h:io w sb F S q)(hF:∀b,w.1.size<=b->F b)(hl:l.length<=300)(hp:(gW++[32]).isPrefixOf l=true)(hu:bT (ae (l.drop 5)) u)(hn:S.a.length+1<=1000):
  Φ prog 8 #[Y (O ⟨sb,0,J⟩),Z (ae l)] w λe w'=>e=N (Z (ae iy))/\io w' sb F { S with a:=S.a++[u] } q/\ax F w w':=by
 have hz:=aV l;obtain⟨h4,hx⟩:=xB.1 hp;have hI:¬(300:Int)<l.length:=om;have hI4:(4:Int)<l.length:=om
 have HR:H (∀V,Φ prog 13 #[Z ((ae l).extract 5 (ae l).size)] V λe w'=>e=N (Ψ #[aL u,.bool true])/\B V.1.size V w'):=λV=>by
  rw[GY];refine(FI (ae (l.drop 5)) V (by rw[aV];simp;omega)).m λe w' h=>⟨?_,h.a⟩;rcases h.b with ⟨r,hr,he⟩|⟨hno,_⟩
  ·rw[JE hu hr];exact he
  exact absurd ⟨u,hu⟩ hno
 obtain⟨C,wv,h⟩:=h.a;have i:H (mE w sb F S q C wv):=h;have HF:H (∀b,w.1.size<=b->F b):=hF;have HU:H (u.h):=hu.1;obtain⟨i0,hi,hz0,hz1,hz2⟩:=eb xT;unfold aL at HR;rw[hz]at HR;have HHL:H (l.length<=300/\S.a.length+1<=1000):=⟨hl,hn⟩;clear h hF hu;go_enter func8,ntmps8;go_wp2_with fail;refine(HR.o _).m ?_;rintro e w1 ⟨rfl,P⟩;have K:H (B w.1.size w w1):=P;clear P;obtain⟨W,HW,A,k⟩:∃W,H (w1.alloc (Δ #[Z u.a,I Q u.e,I Q u.c,I Q u.g,I Q u.b,I Q u.d] 65)=W)/\B w.1.size w W/\W.1[w1.1.size]?=O (Δ #[Z u.a,I Q u.e,I Q u.c,I Q u.g,I Q u.b,I Q u.d] 65):=⟨_,rfl,K.o.l K.o.size _,bn w1 _⟩;have z:=i.o.f A;have c22:W.cell? ⟨sb,22,J⟩=O C:=(ck z.a).1 22 _ rfl;have u0:=(ck k).1 0 _ rfl;have u1:=(ck k).1 1 _ rfl;have u2:=(ck k).1 2 _ rfl;have u3:=(ck k).1 3 _ rfl;have u4:=(ck k).1 4 _ rfl;have u5:=(ck k).1 5 _ rfl;obtain⟨U,hU⟩:∃U,U=(W.alloc (Δ #[Z u.a,I Q u.e,I Q u.c,I Q u.g,I Q u.b,I Q u.d] 65)).drew:=⟨_,rfl⟩;have D:B W.1.size W U:=by rw[hU];exact ba.drew
 have s:H (mE U sb F S q C wv):=z.f D;have HBU:H (B w.1.size w U):=A.t (D.m A.size);have T:H (∀j v,(dV u)[j]?=O v->U.cell? ((⟨W.1.size,0,J⟩:Addr).add j)=O v):=λj v hj=>by rw[dD,hU];show (W.alloc _).cell? _=_;exact(ck (bn W _)).1 j v (by simpa [dV] using hj)
 have G:H (S.a.length+1<=maxLen):=by show _<=_;unfold maxLen;omega
 have L:H ((S.a.length+1)*56<=140737488355328):=by show _<=_;omega
 have HV6:H (∀E:Ω,U.grownBy E C.ownBlock->E.cell? ⟨sb,22,J⟩=O C/\E.frozen? ⟨sb,22,J⟩=false):=λE hg=>by have hb:=ck ((hg.block sb s.o.h (λe=>(s.o.c sb e.symm).2 rfl)).trans s.o.a);exact⟨hb.1 22 _ rfl,hb.2.1 22⟩
 have c22':∀o,(W.alloc o).cell? ⟨sb,22,J⟩=O C:=λo=>by rw[((aj W.1.size W).l nl o).cell z.h];exact c22
 have HFU:H (∀b,U.1.size<=b->F b):=λb hb=>HF.o b (aP HBU.o.size hb);have HEU:H ((W.alloc (Δ #[Z u.a,I Q u.e,I Q u.c,I Q u.g,I Q u.b,I Q u.d] 65)).drew=U):=hU.symm;have HON:H (∀v∈dV u,v.oneCell'=true):=λv hv=>by simp[dV]at hv;rcases hv with rfl|rfl|rfl|rfl|rfl|rfl<;>rfl
 obtain⟨nr,y⟩:∃nr,nr=S.a.length:=⟨_,rfl⟩;have R:H (nr=S.a.length):=y;rw[<-y]at G L;have X:H (U.ownsRow 0 65 6 C nr (cS S.a)):=by rw[y];exact s.o.d
 clear hU D z A k y hn hl;go_wp2_with fail;rw[HW.o];clear HW;go_region_law (rw[HEU.o];refine iX _ (by rfl) (.tmp 41) (.tmp 43) 35 (by rfl) 0 65 i0 (.agg #[Z ⟨#[]⟩,I Q 0,I Q 0,I Q 0,I Q 0,I Q 0]) 6 56 underlying35 hi hz0 hz1 hz2 rfl om C nr (cS S.a) (by rfl) X.o ⟨W.1.size,0,J⟩ 1 1 (dV u) (by rfl) rfl T.o HON.o om G.o L.o (aX _) _ rfl ?_;intro g cap E p n hat hlt6;obtain⟨c6,f6⟩:=HV6.o E n)
 all_goals
  rw[R.o]at p;have x:H _:=s.o.m HU.o HHL.o.2 HFU.o p n (by rcases hat with e|e;exact af e;exact ah e);rw[<-R.o]at x;clear p n hat hlt6 c6 f6;go_wp2;go_ret;exact⟨rfl,x.o.1,(bH HBU.o F).a x.o.2⟩
end
end
section
open Go.RowKit Go.Maps
def eQ(t:List Int):Array Value:=#[I Q (t.getD 0 0),I Q (t.getD 1 0),I Q (t.getD 2 0),I Q (t.getD 3 0),I Q (t.getD 4 0),I Q (t.getD 5 0)]
theorem EW:∀(t:List Int)(m:Int),t.length<6->(eQ t).setIfInBounds t.length (I Q m)=eQ (t++[m])
 |[],_,_|[_],_,_|[_,_],_,_|[_,_,_],_,_|[_,_,_,_],_,_|[_,_,_,_,_],_,_=>rfl
 |_::_::_::_::_::_::_,_,h=>by simp at h;omega
structure uT (V:Ω) (B g:Nat) (L:List (List UInt8)):Prop where
 a:∀(i:Nat) x,L[i]?=O x->V.cell? ⟨g,i,J⟩=O (Z (ae x))
 b:B<=g
theorem Gr(l:List UInt8)(w:Ω)(h:l.length<=300):
  Φ prog 14 #[Z (ae l),I .u8 32] w λe b=>∃g c,e=N (M (O ⟨g,0,J⟩) (et 32 l).length c)/\uT b w.1.size g (et 32 l)/\B w.1.size w b:=by
 refine(tL (ae l) 32 w (by rw[aV];exact h)).m ?_;rintro e b ⟨v,rfl,d,k⟩;rw[bX,PD]at d;obtain⟨y,t,j⟩:=pu 32 l;rcases d.a.2 with ⟨_,h0⟩|⟨g,c,cur,rfl,hlo,_⟩
 ·rw[j]at h0;cases h0
 refine⟨g,c,rfl,⟨λi x f=>?_,hlo⟩,k⟩;have n:i<(et 32 l).length:=(gD.1 f).1;rw[World.ownsRow.cellAt d.a i om];unfold sL;rw[eE,f];rfl
section
variable {w w' V:Ω}{sb:Nat}
structure tm (w1 V:Ω) (ws:List (List UInt8)) (j:Nat):Prop where
 b:∃t,fZ (ws.take j)=O t/\V.1[w1.1.size]?=O (Δ (eQ t) 71)
 a:B w1.1.size w1 V
theorem xM{l n:List UInt8}{ws:List (List UInt8)}{a b:Nat}(h:et 32 l=n::ws)(d:eS n=O (a,b))(c:ws.length=a+b):jf l=match fZ (ws.take a) with
 |some t=>O ⟨n,t,ws.getD a []⟩
 |none=>J:=by
 unfold jf;rw[h];simp only[d];rw[ak c];cases fZ (ws.take a)<;>rfl
end
end
section
open Go.RowKit Go.Maps
theorem qx{S a:bY}{l t:List UInt8}{n:Nat}{c:cj}(b:eO l=O c)(d:oL S l a t n):qL S c a t n:=by
 rcases d with ⟨h,_⟩|⟨c',h,hr⟩
 ·rw[b]at h;cases h
 rw[b]at h;cases h;exact hr
theorem uM{c:List UInt8}(h:ou c):c≠kB/\c≠kG/\c≠gW/\c≠ku:=by rcases h with rfl|rfl|rfl|rfl|rfl|rfl|rfl|rfl<;>decide
theorem FJ{S e:bY}{t:List UInt8}{n:Nat}{c:cj}(d:c.b=kB)(h:qL S c e t n):e={ S with b:=⟨c.n 0,c.n 1,c.n 2,c.n 3,c.n 4,c.n 5,S.b.a⟩ }/\t=iy/\n=0:=by
 rcases h with ⟨_,h⟩|⟨h,_⟩|⟨h,_⟩|⟨h,_⟩|⟨h,_⟩
 ·exact h
 ·exact absurd (d.symm.trans h) dc
 ·exact absurd (d.symm.trans h) dc
 ·exact absurd (d.symm.trans h) dc
 exact absurd d (uM h).1
theorem Gs{S e:bY}{t:List UInt8}{n:Nat}{c:cj}(d:c.b=kG)(h:qL S c e t n):(¬pC c/\e=S/\t=[]/\n=1)\/(pC c/\e={ S with b:={ S.b with a:=qJ S.b.a (c.n 0).toNat (c.n 1).toNat (c.n 2) } }/\t=iy/\n=0):=by
 rcases h with ⟨h,_⟩|⟨_,h⟩|⟨h,_⟩|⟨h,_⟩|⟨h,_⟩
 ·exact absurd (d.symm.trans h) dc
 ·exact h
 ·exact absurd (d.symm.trans h) dc
 ·exact absurd (d.symm.trans h) dc
 exact absurd d (uM h).2.1
theorem DW{S e:bY}{t:List UInt8}{n:Nat}{c:cj}(d:c.b=ku)(h:qL S c e t n):(pI S.b S.a n/\n≠0/\e=S/\t=[])\/∃cf:aE,cf.h/\jt cf=S.b/\lz S.a 0/\e={ S with c:=O ⟨cf,S.a,ay.k⟩ }/\t=iy/\n=0:=by
 rcases h with ⟨h,_⟩|⟨h,_⟩|⟨h,_⟩|⟨_,h⟩|⟨h,_⟩
 ·exact absurd (d.symm.trans h) dc
 ·exact absurd (d.symm.trans h) dc
 ·exact absurd (d.symm.trans h) dc
 ·exact h
 exact absurd d (uM h).2.2.2
theorem vJ{S a:bY}{t:List UInt8}{n:Nat}{c:cj}(f:ou c.b)(h:qL S c a t n):(S.c=J/\a=S/\t=[]/\n=5)\/∃W s',S.c=O W/\pD S W c t n s'/\a={ S with c:=O ⟨W.b,W.d,s'⟩ }:=by
 obtain⟨i,j,e,g⟩:=uM f;rcases h with ⟨h,_⟩|⟨h,_⟩|⟨h,_⟩|⟨h,_⟩|⟨_,h⟩
 ·exact absurd h i
 ·exact absurd h j
 ·exact absurd h e
 ·exact absurd h g
 exact h
section
variable {w w' V:Ω}{sb q:Nat}{F:Nat->Prop}{S:bY}
def rI(p:Nat->Nat->Int):Array Value:=#[I Q (p 0 0),I Q (p 0 1),I Q (p 0 2),I Q (p 0 3),I Q (p 1 0),I Q (p 1 1),I Q (p 1 2),I Q (p 1 3),I Q (p 2 0),I Q (p 2 1),I Q (p 2 2),I Q (p 2 3),I Q (p 3 0),I Q (p 3 1),I Q (p 3 2),I Q (p 3 3)]
end
end
section
open Go.RowKit Go.Maps
section
variable {w w' V:Ω}{sb nb q:Nat}{F:Nat->Prop}{S:bY}{rv wv:Value}{ns:List Int}
theorem FK(b:Nat):∀(vs:List Value)(o:Nat){w V:Ω},ax (λk=>k=b) w V->ax (λk=>k=b) w (V.setCells b o vs)
 |[],_,_,_,h=>h
 |v::r,o,_,_,h=>FK b r (o+1) (qw h rfl)
theorem Sd(x b:eJ)(rv a:Value):yy (bj b).toList 0 (cM x rv a)=cM b rv a:=kr
def qR:Array Value:=#[I Q 0,I Q 0,I Q 0,I Q 0,I Q 0,I Q 0,I Q 0,I Q 0,I Q 0,I Q 0,I Q 0,I Q 0,I Q 0,I Q 0,I Q 0,I Q 0]
structure T5 (wr U:Ω) (sb nb:Nat) (p:Nat->Nat->Int) (ns:List Int) (rv wv:Value):Prop where
 j:B wr.1.size wr U
 e:wr.rangeAt sb 6 (rI p).toList
 g:(wr.alloc (Δ qR 32)).there wr.1.size 0 (rI p).size
 c:(wr.alloc (Δ qR 32)).setCells wr.1.size 0 (rI p).toList=U
 f:U.rangeAt wr.1.size 0 (rI p).toList
 a:∀i v,(eQ ns)[i]?=O v->U.cell? ⟨nb,i,J⟩=O v
 h:U.there sb 0 22
 d:∀x':eJ,(U.setCells sb 0 (bj x').toList).1[sb]?=O (Δ (cM x' rv wv) 38)/\ax (λb=>b=sb) wr (U.setCells sb 0 (bj x').toList)
theorem QS(h:mE w sb F S q rv wv)(r:w.1[nb]?=O (Δ (eQ ns) 71)):∃U,T5 w U sb nb S.b.a ns rv wv:=by
 have o:B w.1.size w (w.alloc (Δ qR 32)):=ba;have n:(w.alloc (Δ qR 32)).1[w.1.size]?=O (Δ qR 32):=bn w _;have d:(w.alloc (Δ qR 32)).there w.1.size 0 (rI S.b.a).size:=λi g=>by rw[dj];obtain⟨p,l,_⟩:=ck n;exact⟨by rw[p i _ (oQ (show i<qR.size from g))];rfl,l i⟩
 obtain⟨U,m⟩:∃U,(w.alloc (Δ qR 32)).setCells w.1.size 0 (rI S.b.a).toList=U:=⟨_,rfl⟩;have c:B w.1.size w U:=by rw[<-m];exact o.t (tA _ _ _ _ _ nl)
 have e:=h.f c;refine⟨U,c,λi v j=>?_,d,m,?_,λi v j=>?_,λi g=>?_,λs=>⟨?_,FK sb _ 0 (bH c _)⟩⟩
 ·have g:i<16:=(gD.1 j).1;refine(ck h.a).1 (6+i) v ?_;rw[<-j]
  match i,g with
 |0,_|1,_|2,_|3,_|4,_|5,_|6,_|7,_|8,_|9,_|10,_|11,_|12,_|13,_|14,_|15,_=>rfl
 ·rw[<-m];exact World.rangeAt_setCells_same _ w.1.size 0 _ d
 ·exact(ck ((c.block _ (bP.1 r).1).trans r)).1 i v j
 ·rw[dj];obtain⟨p,l,_⟩:=ck e.a;have k:i<(cM S.b rv wv).size:=by show i<24;omega
  exact⟨by rw[p i _ (oQ k)];rfl,l i⟩
 rw[<-Sd S.b s rv wv];exact Av sb 38 (bj s).toList 0 U _ e.a
end
end
section
open Go.RowKit Go.Maps
theorem G5{c:aE}{s:ay}{n:Int}(h:dH c s):dH c (ic n s):=by
 unfold ic;split
 ·refine⟨h.a,?_,h.b,λx e=>⟨DO (Nat.le_add_right _ _) (h.d x e).1,(h.d x e).2⟩,h.f⟩;show s.b+n.toNat<=1000;omega
 exact h
theorem G4{c:aE}{s:ay}{r:Int}{b:ByteArray}(h:dH c s)(j:b.size<=2000->s.d+b.size<=20000):dH c (d9 c r b s):=by
 have i:(d9 c r b s).d<=20000:=by
  by_cases k:b.size<=2000
  ·exact aP (Bf c r b s) (j k)
  rw[yR om];exact h.f
 unfold d9 at i⊢;split
 ·rename_i hc;rw[ak hc]at i;unfold ay.r at i⊢;rw[oe]at i;exact dH.g _ _ ⟨h.a,h.e,h.b,h.d,om⟩ i
 exact h
theorem GZ{c:aE}{s:ay}(h:dH c s):s.c c<=1000:=aP kU h.e
structure nQ (w:Ω) (sb:Nat) (F:Nat->Prop) (S:bY) (q:Nat) (W:fP) (s':ay) (w':Ω):Prop where
 c:∃q',q'<=q+300000000/\io w' sb F { S with c:=O ⟨W.b,W.d,s'⟩ } q'
 b:ax F w w'
structure tp (w:Ω) (sb:Nat) (F:Nat->Prop) (S:bY) (q:Nat) (W:fP) (s':ay) (rb:Nat) (V w':Ω):Prop where
 c:nQ w sb F S q W s' w'
 b:w'.cell? ⟨sb,23,J⟩=O (Y (O ⟨rb,0,J⟩))
 a:∀cb i,w.1.size<=cb->cb<V.1.size->w'.cell? ⟨cb,i,J⟩=V.cell? ⟨cb,i,J⟩
def qM(v:Int×Nat):List UInt8:=eX (fM v.1 v.2) v.2
theorem uN(w:Ω)(c b a d f e:Int):∃U,H (w.alloc (Δ #[I Q c,I Q b,I Q a,I Q d,I Q f,I Q e] 71)=U)/\B w.1.size w U/\w.1.size<U.1.size/\U.cell? ⟨w.1.size,0,J⟩=O (I Q c)/\U.cell? ⟨w.1.size,1,J⟩=O (I Q b)/\U.cell? ⟨w.1.size,2,J⟩=O (I Q a)/\U.cell? ⟨w.1.size,3,J⟩=O (I Q d):=by have h:=(ck (bn w (Δ #[I Q c,I Q b,I Q a,I Q d,I Q f,I Q e] 71))).1;exact⟨_,rfl,ba,by simp,h 0 _ rfl,h 1 _ rfl,h 2 _ rfl,h 3 _ rfl⟩
section
variable {w w' V:Ω}{sb rb q:Nat}{F:Nat->Prop}{S:bY}{W:fP}{rv:Value}{od od':Nat->Nat}{s':ay}
theorem nQ.a(h:nQ w sb F S q W s' V)(d:B V.1.size V w'):nQ w sb F S q W s' w':=by obtain⟨g,f,e⟩:=h.c;exact⟨⟨g,f,e.b d⟩,h.b.a (bH d F)⟩
theorem kK.g(h:kK w sb F S q W rv rb od)(f:B w.1.size w w'):nQ w sb F S q W W.a w':=by
 have e:S={ S with c:=O ⟨W.b,W.d,W.a⟩ }:=by have:=h.l;cases S;simp_all
 exact⟨⟨q,om,by rw[<-e];exact⟨rv,_,(h.d f).c⟩⟩,bH f F⟩
theorem kK.h(h:kK w sb F S q W rv rb od)(k:B w.1.size w V)(s:∀b,w.1.size<=b->F b){g:Nat}(v:dF w' rb od' W.b W.d s' (s'.c W.b) g)(u:g<=q+300000000)(t:dH W.b s')(o:cD V w' od od'):tp w sb F S q W s' rb V w':=by
 have j:=(h.d k).m (λb n=>s b (aP k.size n)) v t o;refine⟨⟨⟨g,u,⟨rv,_,j.1.c⟩⟩,(bH k F).a j.2⟩,j.1.e,λl i x r=>?_⟩
 have p:od l=0:=by
  by_cases e:od l=0
  ·exact e
  have:=ya h.f e;omega
 have e:=o.a.b l r (λe=>e p);simp only[World.cell?,e]
def oF(w:Ω)(sb rb:Nat)(n0:Int)(U:Ω):Prop:=U.cell? ⟨sb,23,J⟩=O (Y (O ⟨rb,0,J⟩))/\U.cell? ⟨w.1.size,0,J⟩=O (I Q n0)
theorem oF.a{b:Int}(h:oF w sb rb b V)(c:B V.1.size V w'):oF w sb rb b w':=⟨cz c h.1,cz c h.2⟩
theorem QT(i:List Int)(x:ByteArray)(h:kK w sb F S q W rv rb od)(E:∀b,w.1.size<=b->F b):
  Φ prog 19 #[Y (O ⟨sb,0,J⟩),Z ⟨#[116,105,99,107]⟩,.agg (eQ i),Z x] w λe r=>e=N (Z (ae (qM (du W.b (i.getD 0 0) W.a))))/\nQ w sb F S q W (ic (i.getD 0 0) W.a) r:=by
 have P:H (∀V,B w.1.size w V->Φ prog 29 #[Y (O ⟨rb,0,J⟩),I Q (i.getD 0 0)] V λe r=>e=N (Ψ #[I Q (du W.b (i.getD 0 0) W.a).1,I Q ((du W.b (i.getD 0 0) W.a).2:Int)])/\tp w sb F S q W (ic (i.getD 0 0) W.a) rb V r):=λV C=>(SU _ (h.d C).f h.a (GZ (G5 h.a))).m λe r ⟨D,od',A,h2⟩=>⟨D,h.h C E A om (G5 h.a) h2⟩;have X:H (∀V,Φ prog 28 #[I Q (du W.b (i.getD 0 0) W.a).1,I Q ((du W.b (i.getD 0 0) W.a).2:Int)] V λe r=>e=N (Z (ae (qM (du W.b (i.getD 0 0) W.a))))/\B V.1.size V r):=λV=>by have A:=GV W.b (i.getD 0 0) W.a h.a.e;exact xA _ _ V (by unfold du;split<;>simp) om om
 have g:=hid h;unfold eQ;generalize ic (i.getD 0 0) W.a=s1 at *;generalize qM (du W.b (i.getD 0 0) W.a)=T at *;generalize (du W.b (i.getD 0 0) W.a).1=m at *;generalize (du W.b (i.getD 0 0) W.a).2=n at *;generalize i.getD 0 0=n0 at *;generalize i.getD 1 0=n1 at *;generalize i.getD 2 0=n2 at *;generalize i.getD 3 0=n3 at *;generalize i.getD 4 0=n4 at *;generalize i.getD 5 0=n5 at *;obtain⟨U,L,v,z,u0,-⟩:=uN w n0 n1 n2 n3 n4 n5;have HB:=hid v;have G:=hid z;have j:oF w sb rb n0 U.drew:=⟨(h.d v).e,u0⟩;clear h v z u0;go_enter func19,ntmps19;go_wp2_with fail;rw[L.o];refine fG (S:=oF w sb rb n0) kr j (λ_=>?_);refine ar 0 31 (Y (O ⟨sb,0,J⟩)) j ?_;refine ar 1 32 (Y (O ⟨sb,0,J⟩)) j ?_;refine ar 2 33 (Y (O ⟨sb,23,J⟩)) j ?_;refine ar 3 34 (Y (O ⟨rb,0,J⟩)) j ?_ (hy:=af ⟨by rfl,λwx y=>by obtain⟨R,r1⟩:=y;go_simp⟩);refine ar 4 35 (Y (O ⟨w.1.size,0,J⟩)) j ?_;refine ar 5 36 (I Q n0) j ?_ (hy:=af ⟨by rfl,λwx y=>by obtain⟨R,r1⟩:=y;go_simp⟩);refine a9 (rs:=[6]) kr sm ?_;refine aQ rfl (λK s=>?_) aZ;go_simp;refine(P.o _ HB.o.drew).m ?_;rintro e w3 ⟨rfl,t⟩;have HK:=hid t.c;have k:oF w sb rb n0 w3:=⟨t.b,(t.a _ 0 nl G.o).trans j.2⟩;clear t;go_wp2_with fail;refine s.out _ _ k (λ_=>?_);clear s K;refine ar 7 38 (I Q m) k ?_;refine ar 8 39 (I Q (n:Int)) k ?_;refine a9 (rs:=[9]) kr sm ?_;refine aQ rfl (λK s=>?_) aZ;go_simp;refine(X.o _).m ?_;rintro e w4 ⟨rfl,l⟩;have u:=hid (HK.o.a l);have p:=k.a l;clear l;go_wp2_with fail;refine s.out _ _ p (λ_=>?_);clear s K;refine ar 10 8 (Z (ae T)) p ?_;refine ea kr ?_ _;clear j k p;go_wp2;go_ret;exact⟨rfl,u.o⟩
end
end
section
open Go.RowKit Go.Maps
section
variable {w w' V:Ω}{sb rb q:Nat}{F:Nat->Prop}{S:bY}{W:fP}{rv:Value}{od od':Nat->Nat}{s':ay}
theorem Pq(c:aE)(s:ay)(p:ib){r:Nat}(a:r<4):dS c s p (31+r)=I Q (s.q r):=by unfold dS;rw[ag om,ak om,ag om,ag om,Nat.add_sub_cancel_left]
theorem QV(c:List Int)(x:ByteArray)(h:kK w sb F S q W rv rb od)(s:jF W.a):
  Φ prog 19 #[Y (O ⟨sb,0,J⟩),Z ⟨#[119,97,114,109]⟩,.agg (eQ c),Z x] w λe v=>e=N (Z (ae (qM (gj (c.getD 0 0) W.a))))/\B w.1.size w v:=by
 unfold eQ;generalize c.getD 0 0=n0 at *;generalize c.getD 1 0=n1 at *;generalize c.getD 2 0=n2 at *;generalize c.getD 3 0=n3 at *;generalize c.getD 4 0=n4 at *;generalize c.getD 5 0=n5 at *;obtain⟨U,C,j,A,u0,-⟩:=uN w n0 n1 n2 n3 n4 n5;have z:=hid j;by_cases l:0<=n0/\n0<=3
 ·obtain⟨r,rfl⟩:∃r:Nat,n0=(r:Int):=⟨n0.toNat,om⟩;have k:H (qM (gj (r:Int) W.a)=Lib.itoa (W.a.q r)):=by show _=_;unfold gj;rw[ak l];rfl
  obtain⟨p,D⟩:=(h.d j).f.a;have k0:=cell_regrown (h.d j).e;have k1:=cell_regrown u0;have L:=cell_regrown (D.e (i:=31+r) om);rw[Pq W.b W.a p om]at L;have u:=s r;have P:H (∀V,Φ prog 22 #[I Q (W.a.q r)] V λe v=>e=N (Z (ae (Lib.itoa (W.a.q r))))/\B V.1.size V v):=λV=>vy _ V om om;rw[k.o];have E:¬(r:Int)<0:=om;have R:¬(3:Int)<r:=om;have X:(r:Int)<4:=om;generalize Lib.itoa (W.a.q r)=T at *;generalize W.a.q r=m at *;clear h D s l j A u0 u k;go_enter func19,ntmps19;go_wp2_with fail;rw[C.o];refine wp_region_quiet_below kr kr ?_
  repeat (go_big_quiet_step (with_reducible exact Calls.regrown_of (P.o _)))
  refine gq ?_;rintro _ ⟨⟨G,y⟩,g⟩;subst g;go_wp2;go_ret;exact⟨rfl,z.o.t ((below_regrown U G y).m z.o.size)⟩
 have k:H (qM (gj n0 W.a)=iE 1):=by show _=_;unfold gj;rw[ag l];rfl
 rw[k.o];have K:(n0<0)\/(¬n0<0/\3<n0):=om;clear h s l j A u0;go_enter func19,ntmps19;rcases K with E|⟨E,R⟩
 all_goals
  go_wp2_with (rw[C.o];go_at_call 12;refine(kf 1 _ dc).m ?_;rintro e w1 ⟨rfl,n⟩);go_ret;exact⟨rfl,bQ z.o n⟩
theorem Jz(h:List Int)(x:List UInt8)(w:Ω)(g:¬js x)(f:x.length<=400):
  Φ prog 19 #[Y (O ⟨sb,0,J⟩),Z ⟨#[102,101,101,100]⟩,.agg (eQ h),Z (ae x)] w λe b=>e=N (Z (ae (iE 4)))/\B w.1.size w b:=by
 unfold eQ;have i:H (∀V,Φ prog 30 #[Z (ae x)] V λe b=>e=N (Ψ #[Z ⟨#[]⟩,.bool false])/\B V.1.size V b):=λV=>Te x V f g;have j:H (∀o,B w.1.size w (w.alloc o)):=λo=>br.l nl o;clear g f;go_enter func19,ntmps19;go_wp2_with fail;refine(i.o _).m ?_;rintro e k ⟨rfl,a⟩;have c:=hid (bQ (j.o _) a);clear a;go_wp2_with (go_at_call 12;refine(kf 4 _ dc).m ?_;rintro e n ⟨rfl,d⟩);go_ret;exact⟨rfl,bQ c.o d⟩
theorem QU(j:List Int)(x:List UInt8)(h:kK w sb F S q W rv rb od)(G:∀b,w.1.size<=b->F b)(hx:js x)(P:x.length<=400)(hu:W.a.d+200<=20000):
  Φ prog 19 #[Y (O ⟨sb,0,J⟩),Z ⟨#[102,101,101,100]⟩,.agg (eQ j),Z (ae x)] w λe r=>e=N (Z (ae (qM (bS (j.getD 0 0) (ae (fS x)) W.a))))/\nQ w sb F S q W (d9 W.b (j.getD 0 0) (ae (fS x)) W.a) r:=by
 have hz:(ae (fS x)).size<=200:=by rw[aV];unfold fS;simp;omega
 have HY:H (∀V,Φ prog 30 #[Z (ae x)] V λe r=>e=N (Ψ #[Z (ae (fS x)),.bool true])/\B V.1.size V r):=λV=>Sb x V P hx;generalize ae (fS x)=g at *;have X:dH W.b (d9 W.b (j.getD 0 0) g W.a):=G4 h.a (λ_=>by omega);have HX:H (∀V,B w.1.size w V->Φ prog 31 #[Y (O ⟨rb,0,J⟩),I Q (j.getD 0 0),Z g] V λe r=>e=N (Ψ #[I Q (bS (j.getD 0 0) g W.a).1,I Q ((bS (j.getD 0 0) g W.a).2:Int)])/\tp w sb F S q W (d9 W.b (j.getD 0 0) g W.a) rb V r):=λV hV=>(GO _ _ (h.d hV).f h.a om (λ_=>by omega)).m λe r ⟨he,od',R,h2⟩=>⟨he,h.h hV G R om X h2⟩;have HN:H (∀V,Φ prog 28 #[I Q (bS (j.getD 0 0) g W.a).1,I Q ((bS (j.getD 0 0) g W.a).2:Int)] V λe r=>e=N (Z (ae (qM (bS (j.getD 0 0) g W.a))))/\B V.1.size V r):=λV=>by have R:=x9 (j.getD 0 0) g W.a om;exact xA _ _ V (by unfold bS;(repeat' split)<;>simp) om om
 have i:=hid h;unfold eQ;generalize d9 W.b (j.getD 0 0) g W.a=s1 at *;generalize qM (bS (j.getD 0 0) g W.a)=T at *;generalize (bS (j.getD 0 0) g W.a).1=m at *;generalize (bS (j.getD 0 0) g W.a).2=n at *;generalize j.getD 0 0=n0 at *;generalize j.getD 1 0=n1 at *;generalize j.getD 2 0=n2 at *;generalize j.getD 3 0=n3 at *;generalize j.getD 4 0=n4 at *;generalize j.getD 5 0=n5 at *;obtain⟨U,HU,L,y,u0,-⟩:=uN w n0 n1 n2 n3 n4 n5;have HB:=hid L;have HL:=hid y;have D:=hid u0;clear h L y u0 X hz hx P hu G;go_enter func19,ntmps19;go_wp2_with fail;rw[HU.o];refine(HY.o _).m ?_;rintro e w1 ⟨rfl,p⟩;have v:=hid (bQ HB.o p);have E:=hid (bg HL.o p.size);have k:oF w sb rb n0 w1.drew:=⟨(i.o.d v.o).e,cz p.drew D.o⟩;clear p;go_wp2_with fail;refine fG (S:=oF w sb rb n0) kr k (λ_=>?_);refine ar 0 73 (Y (O ⟨sb,0,J⟩)) k ?_;refine ar 1 74 (Y (O ⟨sb,0,J⟩)) k ?_;refine ar 2 75 (Y (O ⟨sb,23,J⟩)) k ?_;refine ar 3 76 (Y (O ⟨rb,0,J⟩)) k ?_ (hy:=af ⟨by rfl,λwx C=>by obtain⟨r0,r1⟩:=C;go_simp⟩);refine ar 4 77 (Y (O ⟨w.1.size,0,J⟩)) k ?_;refine ar 5 78 (I Q n0) k ?_ (hy:=af ⟨by rfl,λwx C=>by obtain⟨r0,r1⟩:=C;go_simp⟩);refine ar 6 79 (Z g) k ?_;refine a9 (rs:=[7]) kr sm ?_;refine aQ rfl (λK u=>?_) aZ;go_simp;refine(HX.o _ v.o.drew).m ?_;rintro e w3 ⟨rfl,z⟩;have HK:=hid z.c;have l:oF w sb rb n0 w3:=⟨z.b,(z.a _ 0 nl E.o).trans k.2⟩;clear z;go_wp2_with fail;refine u.out _ _ l (λ_=>?_);clear u K;refine ar 8 81 (I Q m) l ?_;refine ar 9 82 (I Q (n:Int)) l ?_;refine a9 (rs:=[10]) kr sm ?_;refine aQ rfl (λK u=>?_) aZ;go_simp;refine(HN.o _).m ?_;rintro e w4 ⟨rfl,s⟩;have A:=hid (HK.o.a s);have t:=l.a s;clear s;go_wp2_with fail;refine u.out _ _ t (λ_=>?_);clear u K;refine ar 11 8 (Z (ae T)) t ?_;refine ea kr ?_ _;clear k l t;go_wp2;go_ret;exact⟨rfl,A.o⟩
theorem Tj(a b c d e:List UInt8):ae a++⟨#[32]⟩++ae b++⟨#[32]⟩++ae c++⟨#[32]⟩++ae d++⟨#[32]⟩++ae e=ae (Lib.join [a,b,c,d,e] [32]):=by
 have:Lib.join [a,b,c,d,e] [32]=a++[32]++b++[32]++c++[32]++d++[32]++e:=by simp[Lib.join]
 rw[this];simp only[<-pq];rfl
theorem Pr(ns:List Int)(x:ByteArray)(h:kK w sb F S q W rv rb od):
  Φ prog 19 #[Y (O ⟨sb,0,J⟩),Z ⟨#[100,114,111,112,115]⟩,.agg (eQ ns),Z x] w λe b=>e=N (Z (ae (mZ W.a)))/\B w.1.size w b:=by
 have HT:H (∀V,B w.1.size w V->Φ prog 35 #[Y (O ⟨rb,0,J⟩)] V λe b=>e=N (oK W.a (dE W.a 4))/\B V.1.size V b):=λV hV=>KA (h.d hV).f h.a;have r:=Bh h.a.f;have HE:H (ae (Lib.itoa (dE W.a 4:Int))++⟨#[32]⟩++ae (Lib.itoa (W.a.n:Int))++⟨#[32]⟩++ae (Lib.itoa (W.a.p:Int))++⟨#[32]⟩++ae (Lib.itoa (W.a.l:Int))++⟨#[32]⟩++ae (Lib.itoa (W.a.o:Int))=ae (mZ W.a)):=Tj _ _ _ _ _;have h0:=(r (dE W.a 4:Int) (by simp[lu])).2;have h1:=(r (W.a.n:Int) (by simp[lu])).2;have h2:=(r (W.a.p:Int) (by simp[lu])).2;have h3:=(r (W.a.l:Int) (by simp[lu])).2;have h4:=(r (W.a.o:Int) (by simp[lu])).2;have C:=h.e;unfold oK at HT;generalize mZ W.a=T at *;generalize dE W.a 4=a0 at *;generalize W.a.n=a1 at *;generalize W.a.p=a2 at *;generalize W.a.l=a3 at *;generalize W.a.o=a4 at *;have s:H (∀(n:Nat) (x:ByteArray) V,n<=20000->ae (Lib.itoa (n:Int))=x->Φ prog 22 #[I Q (n:Int)] V λe b=>e=N (Z x)/\B V.1.size V b):=λn x V hn hx=>by rw[<-hx];exact vy _ V om om
 have z:∀n:Nat,(n:Int)<=20000->∃x,ae (Lib.itoa (n:Int))=x/\x.size<=20:=λn hn=>⟨_,rfl,by rw[aV];exact sO _ om om⟩;obtain⟨c,G,z0⟩:=z a0 h0;obtain⟨g,X,z1⟩:=z a1 h1;obtain⟨k,e2,z2⟩:=z a2 h2;obtain⟨v,e3,z3⟩:=z a3 h3;obtain⟨x4,E,z4⟩:=z a4 h4;rw[G,X,e2,e3,E]at HE;have P:H (∀V,Φ prog 22 #[I Q (a0:Int)] V λe b=>e=N (Z c)/\B V.1.size V b):=λV=>s.o a0 c V om G;have HN1:H (∀V,Φ prog 22 #[I Q (a1:Int)] V λe b=>e=N (Z g)/\B V.1.size V b):=λV=>s.o a1 g V om X;have D:H (∀V,Φ prog 22 #[I Q (a2:Int)] V λe b=>e=N (Z k)/\B V.1.size V b):=λV=>s.o a2 k V om e2;have K:H (∀V,Φ prog 22 #[I Q (a3:Int)] V λe b=>e=N (Z v)/\B V.1.size V b):=λV=>s.o a3 v V om e3;have R:H (∀V,Φ prog 22 #[I Q (a4:Int)] V λe b=>e=N (Z x4)/\B V.1.size V b):=λV=>s.o a4 x4 V om E;have n1:¬9223372036854775807<c.size+1:=om;have n2:¬9223372036854775807<c.size+1+g.size:=om;have n3:¬9223372036854775807<c.size+1+g.size+1:=om;have n4:¬9223372036854775807<c.size+1+g.size+1+k.size:=om;have n5:¬9223372036854775807<c.size+1+g.size+1+k.size+1:=om;have n6:¬9223372036854775807<c.size+1+g.size+1+k.size+1+v.size:=om;have n7:¬9223372036854775807<c.size+1+g.size+1+k.size+1+v.size+1:=om;have n8:¬9223372036854775807<c.size+1+g.size+1+k.size+1+v.size+1+x4.size:=om;have j:H (∀o,B w.1.size w (w.alloc o)):=λo=>br.l nl o;have hc:∀o,(w.alloc o).cell? ⟨sb,23,J⟩=O (Y (O ⟨rb,0,J⟩)):=λo=>cz (j.o o) C;unfold eQ;clear h r C s z G X e2 e3 E h0 h1 h2 h3 h4 z0 z1 z2 z3 z4;go_enter func19,ntmps19;go_wp2_with fail;refine(HT.o _ (j.o _)).m ?_;rintro e i ⟨rfl,y⟩;obtain⟨U,HU,A,u0,u1,u2,u3,u4⟩:∃U,H (i.alloc (Δ #[I Q (a0:Int),I Q (a1:Int),I Q (a2:Int),I Q (a3:Int),I Q (a4:Int)] 51)=U)/\B i.1.size i U/\U.cell? ⟨i.1.size,0,J⟩=O (I Q (a0:Int))/\U.cell? ⟨i.1.size,1,J⟩=O (I Q (a1:Int))/\U.cell? ⟨i.1.size,2,J⟩=O (I Q (a2:Int))/\U.cell? ⟨i.1.size,3,J⟩=O (I Q (a3:Int))/\U.cell? ⟨i.1.size,4,J⟩=O (I Q (a4:Int)):=by have h:=(ck (bn i (Δ #[I Q (a0:Int),I Q (a1:Int),I Q (a2:Int),I Q (a3:Int),I Q (a4:Int)] 51))).1;exact⟨_,rfl,ba,h 0 _ rfl,h 1 _ rfl,h 2 _ rfl,h 3 _ rfl,h 4 _ rfl⟩
 have HB:=hid (bQ (bQ (j.o _) y) A);have k0:=cell_regrown u0;have k1:=cell_regrown u1;have k2:=cell_regrown u2;have k3:=cell_regrown u3;have k4:=cell_regrown u4;clear y hc A u0 u1 u2 u3 u4;go_wp2_with fail;rw[HU.o];refine wp_region_quiet_below kr kr ?_
 repeat (go_big_quiet_step (first|with_reducible exact Calls.regrown_of (P.o _)|with_reducible exact Calls.regrown_of (HN1.o _)|with_reducible exact Calls.regrown_of (D.o _)|with_reducible exact Calls.regrown_of (K.o _)|with_reducible exact Calls.regrown_of (R.o _)))
 refine gq ?_;rintro _ ⟨⟨dq,L⟩,u⟩;subst u;go_wp2;go_ret;exact⟨by rw[<-HE.o];rfl,HB.o.t ((below_regrown U dq L).m HB.o.size)⟩
end
end
section
open Go.RowKit Go.Maps
theorem AS{s b f:ByteArray}(h:gA s b)(g:gA s f):b=f:=by obtain⟨K,F,P,C,R,S,i,j,rfl⟩:=h.a;obtain⟨n,p,m,l,o,k,d,c,rfl⟩:=g.a;have e:=zy i;rw[j,<-c,zy d]at e;simp at e;obtain⟨rfl,rfl,rfl,rfl,rfl,rfl⟩:=e;rfl
theorem G6{s b:ByteArray}(h:gA s b):∃K F P C R S:Int,cF K F P C R S=true/\fR K F P C R S=s/\rD b=Ψ #[.agg #[I Q K,I Q F,I Q P,I Q C,I Q R,I Q S],.bool true]:=by
 obtain⟨K,F,P,C,R,S,d,f,rfl⟩:=h.a;refine⟨K,F,P,C,R,S,d,f,?_⟩;have e:=BU d;unfold iJ at e;unfold rD;split at e
 ·rename_i hc;rw[ak hc];injection e with e
  have c:=congrArg (λa=>a[0]?) e;simp at c;simp[c]
 simp at e
theorem MK{K F P C R S:Int}(w:Ω)(a:cF K F P C R S=true):
  Φ prog 37 #[.agg #[I Q K,I Q F,I Q P,I Q C,I Q R,I Q S]] w λe b=>e=N (Z (oj K F P C R S))/\B w.1.size w b:=by
 obtain⟨j,f,p,c,r,s,rfl,rfl,rfl,rfl,rfl,rfl⟩:=mL a;exact Ir (j+1) f p c r s w a
structure yo (b:ByteArray) (V:Ω) (e:Ending) (w':Ω):Prop where
 c:∃K F P C R S:Int,e=N (Ψ #[.agg #[I Q K,I Q F,I Q P,I Q C,I Q R,I Q S],.bool true])/\∀V,Φ prog 37 #[.agg #[I Q K,I Q F,I Q P,I Q C,I Q R,I Q S]] V λe w'=>e=N (Z b)/\B V.1.size V w'
 a:B V.1.size V w'
theorem zi{s b:ByteArray}(V:Ω)(f:s.size<=300)(h:gA s b): Φ prog 36 #[Z s] V (yo b V):=by
 refine(B9 s V f).m ?_;rintro e j ⟨g,i⟩;rcases g with ⟨K,F,P,C,R,S,h1,c,rfl⟩|⟨h1,_⟩
 ·rw[AS h ⟨K,F,P,C,R,S,h1,c,rfl⟩];exact⟨⟨K,F,P,C,R,S,rfl,λV=>MK V h1⟩,i⟩
 obtain⟨K,F,P,C,R,S,c,d,_⟩:=h.a;exact absurd d (h1 K F P C R S c)
section
variable {w w' V:Ω}{sb rb q:Nat}{F:Nat->Prop}{S:bY}{W:fP}{rv:Value}{od od':Nat->Nat}{s':ay}
theorem Az(nm:ByteArray)(i:List Int)(x:ByteArray)(w:Ω)(h:nm=⟨#[114,101,97,100]⟩\/nm=⟨#[119,104,101,114,101]⟩\/nm=⟨#[105,110]⟩)(g:jQ x)(f:x.size<=300):
  Φ prog 19 #[Y (O ⟨sb,0,J⟩),Z nm,.agg (eQ i),Z x] w λe b=>e=N (Z (ae (iE 4)))/\B w.1.size w b:=by
 unfold eQ
 have k:H (∀V,Φ prog 36 #[Z x] V λe b=>e=N (Ψ #[.agg #[I Q 0,I Q 0,I Q 0,I Q 0,I Q 0,I Q 0],.bool false])/\B V.1.size V b):=λV=>(B9 x V f).m λe b ⟨j,n⟩=>by
  rcases j with ⟨K,F,P,C,R,S,h1,h2,_⟩|⟨_,he⟩
  ·exact absurd h2 (g K F P C R S h1)
  exact⟨he,n⟩
 have p:H (∀o,B w.1.size w (w.alloc o)):=λo=>br.l nl o;clear g f;rcases h with rfl|rfl|rfl
 all_goals
  go_enter func19,ntmps19;go_wp2_with fail;refine(k.o _).m ?_;rintro e q ⟨rfl,a⟩;have c:=hid (bQ (p.o _) a);clear a;go_wp2_with (go_at_call 12;refine(kf 4 _ dc).m ?_;rintro e r ⟨rfl,d⟩);go_ret;exact⟨rfl,bQ (l9 _ c.o) d⟩
def BF(w:Ω)(sb rb tb:Nat)(n0:Int)(U:Ω):Prop:=U.cell? ⟨sb,23,J⟩=O (Y (O ⟨rb,0,J⟩))/\U.cell? ⟨w.1.size,0,J⟩=O (I Q n0)/\U.cell? ⟨rb,39,J⟩=O (Y (O ⟨tb,0,J⟩))
theorem Tl(W:fP)(g:ByteArray)(e:Int): -1<=(fW W g e).1:=by
 have h:=@zj W.b.c (kL g (al (aC W.b W.a (W.a.c W.b))) W.b.d e.toNat) (lx g (al (aC W.b W.a (W.a.c W.b))) W.b.d e.toNat) 8;unfold fW bV
 repeat' split
 all_goals first|(unfold aI;dsimp only;omega)|decide
theorem Hi(W:fP)(g:ByteArray)(e:Int):(fW W g e).2<=9:=by
 unfold fW bV
 repeat' split
 all_goals simp
theorem Ps(j:List Int)(x b:ByteArray){t:List UInt8}{n:Nat}(h:kK w sb F S q W rv rb od)(hF:∀b,w.1.size<=b->F b)(hx:gA x b)(hl:x.size<=300)(hq:q<=6000000000000)(hr:yk (fW W b (j.getD 0 0)) t n):
  Φ prog 19 #[Y (O ⟨sb,0,J⟩),Z ⟨#[119,104,101,114,101]⟩,.agg (eQ j),Z x] w λe y=>e=N (Z (ae (eX t n)))/\nQ w sb F S q W W.a y:=by
 have hbz:=qu hx;have G:H (∀V,Φ prog 36 #[Z x] V (yo b V)):=λV=>zi V hl hx;obtain⟨p,hp⟩:=h.f.a;have HX:H (∀V,B w.1.size w V->V.cell? ⟨rb,39,J⟩=O (Y (O ⟨p.a,0,J⟩))/\Φ prog 40 #[Y (O ⟨p.a,0,J⟩),Z b,I Q (j.getD 0 0)] V λe y=>e=N (Ψ #[I Q (fW W b (j.getD 0 0)).1,I Q ((fW W b (j.getD 0 0)).2:Int)])/\tp w sb F S q W W.a rb V y/\y.cell? ⟨rb,39,J⟩=O (Y (O ⟨p.a,0,J⟩))):=λV hV=>⟨(hp.o hV).e om,(C8 b (j.getD 0 0) (hp.o hV) h.a om om).m λe y ⟨he,ha⟩=>⟨he,h.h hV hF ⟨p,ha.a⟩ om h.a ha.b,ha.a.e om⟩⟩;have L:=Tl W b (j.getD 0 0);have E:=Hi W b (j.getD 0 0);have g3:=(GU W b (j.getD 0 0)).2;have g:=hid h;unfold eQ;generalize p.a=tb at *;generalize fW W b (j.getD 0 0)=v at *;obtain⟨m,f⟩:=v;dsimp only at *;obtain⟨rfl,hr⟩:=hr;dsimp only at hr L E g3⊢;have HR:=hid hr;generalize j.getD 0 0=n0 at *;generalize j.getD 1 0=n1 at *;generalize j.getD 2 0=n2 at *;generalize j.getD 3 0=n3 at *;generalize j.getD 4 0=n4 at *;generalize j.getD 5 0=n5 at *;obtain⟨U,HU,hb,T,u0,-⟩:=uN w n0 n1 n2 n3 n4 n5;have HB:=hid hb;have HL:=hid T;have HU0:=hid u0;clear h hp hb T u0 hbz hx hl hF hq hr;go_enter func19,ntmps19;go_wp2_with fail;rw[HU.o];refine(G.o _).m ?_;rintro e w1 ⟨⟨K,F',P,C,R,S',rfl,hby⟩,r⟩;have HBY:=hid hby
 have HB1:=hid (bQ HB.o r);have HU1:=hid (cz r HU0.o);have HL1:=hid (bg HL.o r.size);clear r hby
 go_wp2_with fail;refine(HBY.o _).m ?_;rintro e w2 ⟨rfl,s⟩;have z:=(aj w1.1.size w1).l nl (Δ #[I Q K,I Q F',I Q P,I Q C,I Q R,I Q S'] 94);have u:=hid (bQ (l9 (Δ #[I Q K,I Q F',I Q P,I Q C,I Q R,I Q S'] 94) HB1.o) s);have HL2:=hid (bg HL1.o (aP z.size s.size));have i:BF w sb rb tb n0 w2.drew:=⟨(g.o.d u.o).e,cz s.drew (cz z HU1.o),(HX.o _ u.o).1⟩;clear s z;go_wp2_with fail;refine fG (S:=BF w sb rb tb n0) kr i (λ_=>?_);refine ar 0 216 (Y (O ⟨sb,0,J⟩)) i ?_;refine ar 1 217 (Y (O ⟨sb,0,J⟩)) i ?_;refine ar 2 218 (Y (O ⟨sb,23,J⟩)) i ?_;refine ar 3 219 (Y (O ⟨rb,0,J⟩)) i ?_ (hy:=af ⟨by rfl,λwx X=>by obtain⟨r0,r1,r2⟩:=X;go_simp⟩);refine ar 4 220 (Y (O ⟨rb,0,J⟩)) i ?_;refine ar 5 221 (Y (O ⟨rb,39,J⟩)) i ?_;refine ar 6 222 (Y (O ⟨tb,0,J⟩)) i ?_ (hy:=af ⟨by rfl,λwx X=>by obtain⟨r0,r1,r2⟩:=X;go_simp⟩);refine ar 7 223 (Z b) i ?_;refine ar 8 224 (Y (O ⟨w.1.size,0,J⟩)) i ?_;refine ar 9 225 (I Q n0) i ?_ (hy:=af ⟨by rfl,λwx X=>by obtain⟨r0,r1,r2⟩:=X;go_simp⟩);refine a9 (rs:=[10]) kr sm ?_;refine aQ rfl (λK hK=>?_) aZ;go_simp;refine(HX.o _ u.o.drew).2.m ?_;rintro e w3 ⟨rfl,hk,D⟩;have HK:=hid hk.c;have k:BF w sb rb tb n0 w3:=⟨hk.b,(hk.a _ 0 nl HL2.o).trans i.2.1,D⟩;clear hk D;go_wp2_with fail;refine hK.out _ _ k (λ_=>?_);clear hK K;refine ar 11 215 (Ψ #[I Q m,I Q (n:Int)]) k ?_;refine ar 12 227 (I Q m) k ?_;refine ar 13 228 (I Q (n:Int)) k ?_;refine ar 14 22 (I Q m) k ?_;refine ar 15 23 (I Q (n:Int)) k ?_;refine ea kr ?_ _;clear i k HX HBY G;have HN:H (∀V,Φ prog 28 #[I Q m,I Q (n:Int)] V λe y=>e=N (Z (ae (eX (fM m n) n)))/\B V.1.size V y):=λV=>xA m n V E L g3;rcases HR.o with ⟨hf,rfl⟩|⟨rfl,rfl,rfl⟩|⟨rfl,hm,rfl⟩
 ·have HA:H (eX (fM m n) n=eX [] n):=by show _=_;unfold eX;rw[ag hf,ag hf]
  have h0:((n:Int) == 0)=false:=by simp;exact hf
  clear hf L E g3;go_wp2_with (go_at_call 28;refine(HN.o _).m ?_;rintro e w4 ⟨rfl,A⟩);go_ret;exact⟨by rw[HA.o];rfl,HK.o.a A⟩
 ·clear L E g3;go_wp2;go_ret;exact⟨rfl,HK.o⟩
 have h0:¬m<0:=om;have HA:H (eX (fM m 0) 0=eX (Lib.itoa m) 0):=rfl;clear L E g3 hm;go_wp2_with (go_at_call 28;refine(HN.o _).m ?_;rintro e w4 ⟨rfl,A⟩);go_ret;exact⟨by rw[HA.o];rfl,HK.o.a A⟩
theorem Tk(r:List Int)(x b g:ByteArray){t:List UInt8}{n:Nat}(h:kK w sb F S q W rv rb od)(hF:∀b,w.1.size<=b->F b)(hx:gA x b)(hl:x.size<=300)(hq:q<=6000000000000)(A:W.a.c W.b<=100)(hg:mC W.b W.a (W.a.c W.b) b (r.getD 0 0) g)(hr:BC (fW W b (r.getD 0 0)).2 g t n):
  Φ prog 19 #[Y (O ⟨sb,0,J⟩),Z ⟨#[105,110]⟩,.agg (eQ r),Z x] w λe y=>e=N (Z (ae (eX t n)))/\nQ w sb F S q W W.a y:=by
 have hbz:=qu hx;have E:H (∀V,Φ prog 36 #[Z x] V (yo b V)):=λV=>zi V hl hx;obtain⟨p,hp⟩:=h.f.a;have HX:H (∀V,B w.1.size w V->Φ prog 41 #[Y (O ⟨rb,0,J⟩),Z b,I Q (r.getD 0 0)] V λe y=>e=N (Ψ #[Z g,I Q ((fW W b (r.getD 0 0)).2:Int)])/\tp w sb F S q W W.a rb V y):=λV hV=>(Ju b (r.getD 0 0) (hp.o hV) h.a A om hg om).m λe y ⟨he,ha⟩=>⟨he,h.h hV hF ⟨p,ha.a⟩ om h.a ha.b⟩;have g2:=Hi W b (r.getD 0 0);have i:=hid h;unfold eQ;generalize (fW W b (r.getD 0 0)).2=f at *;obtain⟨rfl,hr⟩:=hr;have HR:=hid hr;generalize r.getD 0 0=n0 at *;generalize r.getD 1 0=n1 at *;generalize r.getD 2 0=n2 at *;generalize r.getD 3 0=n3 at *;generalize r.getD 4 0=n4 at *;generalize r.getD 5 0=n5 at *;obtain⟨U,HU,hb,L,u0,-⟩:=uN w n0 n1 n2 n3 n4 n5;have HB:=hid hb;have HL:=hid L;have HU0:=hid u0;clear h hp hb L u0 hbz hx hl hF hq hr A hg;go_enter func19,ntmps19;go_wp2_with fail;rw[HU.o];refine(E.o _).m ?_;rintro e w1 ⟨⟨K,F',P,C,R,D,rfl,T⟩,s⟩;have X:=hid T;have HB1:=hid (bQ HB.o s);have HU1:=hid (cz s HU0.o);have HL1:=hid (bg HL.o s.size);clear s T;go_wp2_with fail;refine(X.o _).m ?_;rintro e w2 ⟨rfl,v⟩;have z:=(aj w1.1.size w1).l nl (Δ #[I Q K,I Q F',I Q P,I Q C,I Q R,I Q D] 94);have G:=hid (bQ (l9 (Δ #[I Q K,I Q F',I Q P,I Q C,I Q R,I Q D] 94) HB1.o) v);have HL2:=hid (bg HL1.o (aP z.size v.size));have j:oF w sb rb n0 w2.drew:=⟨(i.o.d G.o).e,cz v.drew (cz z HU1.o)⟩;clear v z;go_wp2_with fail;refine fG (S:=oF w sb rb n0) kr j (λ_=>?_);refine ar 0 239 (Y (O ⟨sb,0,J⟩)) j ?_;refine ar 1 240 (Y (O ⟨sb,0,J⟩)) j ?_;refine ar 2 241 (Y (O ⟨sb,23,J⟩)) j ?_;refine ar 3 242 (Y (O ⟨rb,0,J⟩)) j ?_ (hy:=af ⟨by rfl,λwx hS=>by obtain⟨r0,r1⟩:=hS;go_simp⟩);refine ar 4 243 (Z b) j ?_;refine ar 5 244 (Y (O ⟨w.1.size,0,J⟩)) j ?_;refine ar 6 245 (I Q n0) j ?_ (hy:=af ⟨by rfl,λwx hS=>by obtain⟨r0,r1⟩:=hS;go_simp⟩);refine a9 (rs:=[7]) kr sm ?_;refine aQ rfl (λK hK=>?_) aZ;go_simp;refine(HX.o _ G.o.drew).m ?_;rintro e w3 ⟨rfl,A⟩;have HK:=hid A.c;have k:oF w sb rb n0 w3:=⟨A.b,(A.a _ 0 nl HL2.o).trans j.2⟩;clear A;go_wp2_with fail;refine hK.out _ _ k (λ_=>?_);clear hK K;refine ar 8 238 (Ψ #[Z g,I Q (n:Int)]) k ?_;refine ar 9 247 (Z g) k ?_;refine ar 10 248 (I Q (n:Int)) k ?_;refine ar 11 24 (Z g) k ?_;refine ar 12 25 (I Q (n:Int)) k ?_;refine ea kr ?_ _;clear j k HX X E;rcases HR.o with ⟨hf,rfl⟩|⟨rfl,rfl,rfl⟩|⟨rfl,hgn,htg⟩
 ·have HA:H (eX [] n=iE n):=by show _=_;unfold eX;rw[ag hf]
  have h0:(0:Int)<n:=om;have HG:=hid g2;clear hf g2;go_wp2_with (go_at_call 12;refine(kf n _ HG.o).m ?_;rintro e w4 ⟨rfl,u⟩);go_ret;exact⟨by rw[HA.o];rfl,HK.o.a u⟩
 ·clear g2;go_wp2;go_ret;exact⟨rfl,HK.o⟩
 obtain⟨K,F',P,C,R,D,h1,h2,h3⟩:=G6 htg;have hgz:=qu htg;have HO:H (∀V,Φ prog 33 #[Z g] V λe y=>e=N (Ψ #[.agg #[I Q K,I Q F',I Q P,I Q C,I Q R,I Q D],.bool true])/\B V.1.size V y):=λV=>by rw[<-h3];exact zt g V (by unfold maxLen;omega)
 have HT:H (∀V,Φ prog 34 #[.agg #[I Q K,I Q F',I Q P,I Q C,I Q R,I Q D]] V λe y=>e=N (Z (ae t))/\B V.1.size V y):=λV=>by rw[<-h2];exact wz _ _ _ _ _ _ V h1
 have hne:(g.toList == [])=false:=by
  cases e:g.toList == [] with
 |false=>rfl
 |true=>exact absurd (by have:=eq_of_beq e;apply ke;apply nU.1;rw[<-cY,this]) hgn
 clear g2 h1 h2 h3 htg hgn hgz;go_wp2_with fail;refine(HO.o _).m ?_;rintro e w4 ⟨rfl,u⟩;have HK4:=hid (HK.o.a u);clear u;go_wp2_with (go_at_call 34;refine(HT.o _).m ?_;rintro e w5 ⟨rfl,hb5⟩);go_ret;exact⟨rfl,(HK4.o.a ba).a hb5⟩
end
end
section
open Go.RowKit Go.Maps
section
variable {w w' V:Ω}{sb rb q:Nat}{F:Nat->Prop}{S:bY}{W:fP}{rv:Value}{od od':Nat->Nat}{s':ay}
def wj(w:Ω)(sb rb fb g:Nat)(n0:Int)(U:Ω):Prop:=U.cell? ⟨sb,23,J⟩=O (Y (O ⟨rb,0,J⟩))/\U.cell? ⟨w.1.size,0,J⟩=O (I Q n0)/\U.cell? ⟨fb,0,J⟩=O (I Q 1)/\U.cell? ⟨fb,1,J⟩=O (M (O ⟨g,0,J⟩) 1 1)/\U.cell? ⟨fb,2,J⟩=O (I Q 0)
theorem wj.a{d g:Nat}{c:Int}(h:wj w sb rb d g c V)(b:B V.1.size V w'):wj w sb rb d g c w':=⟨cz b h.1,cz b h.2.1,cz b h.2.2.1,cz b h.2.2.2.1,cz b h.2.2.2.2⟩
theorem QW(c:cj)(x b:ByteArray){t:List UInt8}{n:Nat}(h:kK w sb F S q W rv rb od)(hF:∀b,w.1.size<=b->F b)(hx:gA x b)(hl:x.size<=300)(hu:W.a.d+200<=20000)(hr:s9 c W b t n s'):
  Φ prog 19 #[Y (O ⟨sb,0,J⟩),Z ⟨#[114,101,97,100]⟩,.agg (eQ c.c),Z x] w λe A=>e=N (Z (ae (eX t n)))/\nQ w sb F S q W s' A:=by
 have hz:=qu hx;have hz2:=Au (c:=c) hz;have HTR:H (∀V,Φ prog 36 #[Z x] V (yo b V)):=λV=>zi V hl hx;have hq:dH W.b (d9 W.b (c.n 0) (dN c b) W.a):=G4 h.a (λ_=>by omega);have X:H (∀(V:Ω)(g:Nat),V.1.size=g->de (V.alloc (Δ #[I Q (c.n 1),I Q (c.n 2),I Q (c.n 3),Z b] 102)) (O ⟨g,0,J⟩) (fe c b).a):=λV g hg=>by rw[<-hg];exact Gi V _ _ _ hz
 have HFF:H (∀(V:Ω)(g:Nat),de V (O ⟨g,0,J⟩) (fe c b).a->Φ prog 38 #[.agg #[I Q 1,M (O ⟨g,0,J⟩) 1 1,I Q 0]] V λe A=>e=N (I Q (ch (fe c b):Int))/\B V.1.size V A):=λV g hV=>mN (fe c b) _ 1 V hV;have HFB:H (ch (fe c b)=0->∀(V:Ω)(g:Nat),de V (O ⟨g,0,J⟩) (fe c b).a->Φ prog 39 #[.agg #[I Q 1,M (O ⟨g,0,J⟩) 1 1,I Q 0]] V λe A=>e=N (Z (dN c b))/\B V.1.size V A):=λh0 V g hV=>qp (fe c b) _ 1 V hV (nu.1 h0);have HX:H (∀V,B w.1.size w V->Φ prog 31 #[Y (O ⟨rb,0,J⟩),I Q (c.n 0),Z (dN c b)] V λe A=>e=N (Ψ #[I Q (bS (c.n 0) (dN c b) W.a).1,I Q ((bS (c.n 0) (dN c b) W.a).2:Int)])/\tp w sb F S q W (d9 W.b (c.n 0) (dN c b) W.a) rb V A):=λV hV=>(GO _ _ (h.d hV).f h.a om (λ_=>by omega)).m λe A ⟨he,od',h1,h2⟩=>⟨he,h.h hV hF h1 om hq h2⟩;have HN:H (∀V,Φ prog 28 #[I Q (bS (c.n 0) (dN c b) W.a).1,I Q ((bS (c.n 0) (dN c b) W.a).2:Int)] V λe A=>e=N (Z (ae (eX (fM (bS (c.n 0) (dN c b) W.a).1 (bS (c.n 0) (dN c b) W.a).2) (bS (c.n 0) (dN c b) W.a).2)))/\B V.1.size V A):=λV=>by have h1:=x9 (c.n 0) (dN c b) W.a om;exact xA _ _ V (by unfold bS;(repeat' split)<;>simp) om om
 have HF9:H (ch (fe c b)<=9):=by show _<=_;unfold ch;(repeat' split)<;>decide
 have i:=hid h;unfold s9 at hr;have HR:=hid hr;unfold eQ;generalize d9 W.b (c.n 0) (dN c b) W.a=s1 at *;generalize (bS (c.n 0) (dN c b) W.a).1=m at *;generalize (bS (c.n 0) (dN c b) W.a).2=n1' at *;generalize ch (fe c b)=fl at *;generalize (fe c b).a=RS at *;generalize dN c b=B1 at *;unfold cj.n at X HX;generalize c.c.getD 0 0=n0 at *;generalize c.c.getD 1 0=n1 at *;generalize c.c.getD 2 0=n2 at *;generalize c.c.getD 3 0=n3 at *;generalize c.c.getD 4 0=n4 at *;generalize c.c.getD 5 0=n5 at *;obtain⟨U,HU,hb,hlt,u0,u1,u2,u3⟩:=uN w n0 n1 n2 n3 n4 n5;have HB:=hid hb;have HL:=hid hlt;have HU0:=hid u0;have a1:=hid (And.intro u1 (And.intro u2 u3));clear h hb hlt u0 u1 u2 u3 hz hz2 hx hl hF hq hr hu;go_enter func19,ntmps19;go_wp2_with fail;rw[HU.o];refine(HTR.o _).m ?_;rintro e w1 ⟨⟨K,F',P,C,R,S',rfl,hby⟩,a0⟩;have HBY:=hid hby
 have HB1:=hid (bQ HB.o a0);have HB1':=hid a0;clear a0 hby
 go_wp2_with fail;refine(HBY.o _).m ?_;rintro e r ⟨rfl,hb2⟩;have u:=bQ (l9 (Δ #[I Q K,I Q F',I Q P,I Q C,I Q R,I Q S'] 94) HB1'.o) hb2;have HB2:=hid (bQ HB.o u);have v0:=cz u HU0.o;have v1:=cz u a1.o.1;have v2:=cz u a1.o.2.1;have v3:=cz u a1.o.2.2;have HL2:=hid (bg HL.o u.size);clear u hb2 HBY HTR;obtain⟨G,HV2,v,hro,hl2,f0,f1,f2⟩:∃G,H ((r.alloc (Δ #[I Q n1,I Q n2,I Q n3,Z b] 102)).alloc (Δ #[I Q 1,M (O ⟨r.1.size,0,J⟩) 1 1,I Q 0] 105)=G)/\B r.1.size r G/\de G (O ⟨r.1.size,0,J⟩) RS/\r.1.size+1<G.1.size/\G.cell? ⟨r.1.size+1,0,J⟩=O (I Q 1)/\G.cell? ⟨r.1.size+1,1,J⟩=O (M (O ⟨r.1.size,0,J⟩) 1 1)/\G.cell? ⟨r.1.size+1,2,J⟩=O (I Q 0):=by have k:=(ck (bn (r.alloc (Δ #[I Q n1,I Q n2,I Q n3,Z b] 102)) (Δ #[I Q 1,M (O ⟨r.1.size,0,J⟩) 1 1,I Q 0] 105))).1;rw[fi]at k;exact⟨_,rfl,ba.l sm _,(X.o r _ rfl).a ba nl,by simp,k 0 _ rfl,k 1 _ rfl,k 2 _ rfl⟩
 have T:=hid hro;have HB3:=hid (bQ HB2.o v);have L:=hid v;have HL3:=hid hl2;have v0':=cz v v0;clear v hro hl2 X;go_wp2_with fail;rw[HV2.o];refine(HFF.o _ _ T.o).m ?_;rintro e w3 ⟨rfl,p⟩;have a3:=hid (bQ HB3.o p);have HRO3:=hid (T.o.a p nl);have j:wj w sb rb (r.1.size+1) r.1.size n0 w3.drew:=⟨(i.o.d a3.o).e,cz p.drew v0',cz p.drew f0,cz p.drew f1,cz p.drew f2⟩;have HL4:=hid (And.intro (bg HL2.o (aP L.o.size p.size)) (bg HL3.o p.size));have HG:=hid HB2.o.size;clear p v0 v0' v1 v2 v3 f0 f1 f2 HV2 L HFF;generalize r.1.size=g at *;rcases HR.o with ⟨hf,rfl,rfl,rfl⟩|⟨rfl,rfl,rfl,rfl⟩
 ·have HA:H (eX [] n=iE n):=by show _=_;unfold eX;rw[ag hf]
  have h0:(0:Int)<n:=om;clear hf j;go_wp2_with (go_at_call 12;refine(kf n _ HF9.o).m ?_;rintro e w4 ⟨rfl,s⟩);go_ret;exact⟨by rw[HA.o];rfl,i.o.g (bQ a3.o s)⟩
 have HFB':=hid (HFB.o rfl);clear HFB HR;go_wp2_with fail;refine fG (S:=wj w sb rb (g+1) g n0) kr j (λ_=>?_);refine ar 0 201 (Y (O ⟨sb,0,J⟩)) j ?_;refine ar 1 202 (Y (O ⟨sb,0,J⟩)) j ?_;refine ar 2 203 (Y (O ⟨sb,23,J⟩)) j ?_;refine ar 3 204 (Y (O ⟨rb,0,J⟩)) j ?_ (hy:=af ⟨by rfl,λwx hS=>by obtain⟨r0,r1,r2,r3,r4⟩:=hS;go_simp⟩);refine ar 4 205 (Y (O ⟨w.1.size,0,J⟩)) j ?_;refine ar 5 206 (I Q n0) j ?_ (hy:=af ⟨by rfl,λwx hS=>by obtain⟨r0,r1,r2,r3,r4⟩:=hS;go_simp⟩);refine ar 6 207 (.agg #[I Q 1,M (O ⟨g,0,J⟩) 1 1,I Q 0]) j ?_ (hy:=af ⟨by rfl,λwx hS=>by obtain⟨r0,r1,r2,r3,r4⟩:=hS;go_simp⟩);refine a9 (rs:=[7]) kr sm ?_;refine aQ rfl (λK E=>?_) aZ;go_simp;refine(HFB'.o _ _ (HRO3.o.a br.drew nl)).m ?_;rintro e w4 ⟨rfl,s⟩;have HB5:=hid (bQ a3.o.drew s);have D:=hid (And.intro (bg HL4.o.1 s.size) (bg HL4.o.2 s.size));have y:=j.a s;clear s;go_wp2_with fail;refine E.out _ _ y (λ_=>?_);clear E K;refine a9 (rs:=[8]) kr sm ?_;refine aQ rfl (λK E=>?_) aZ;go_simp;refine(HX.o _ HB5.o).m ?_;rintro e w5 ⟨rfl,hk⟩;have HK:=hid hk.c;have z:wj w sb rb (g+1) g n0 w5:=⟨hk.b,(hk.a _ 0 nl D.o.1).trans y.2.1,(hk.a _ 0 (aP HG.o (lJ _)) D.o.2).trans y.2.2.1,(hk.a _ 1 (aP HG.o (lJ _)) D.o.2).trans y.2.2.2.1,(hk.a _ 2 (aP HG.o (lJ _)) D.o.2).trans y.2.2.2.2⟩;clear hk;go_wp2_with fail;refine E.out _ _ z (λ_=>?_);clear E K;refine ar 9 210 (I Q m) z ?_;refine ar 10 211 (I Q (n:Int)) z ?_;refine a9 (rs:=[11]) kr sm ?_;refine aQ rfl (λK E=>?_) aZ;go_simp;refine(HN.o _).m ?_;rintro e w6 ⟨rfl,a2⟩;have HFi:=hid (HK.o.a a2);have a4:=z.a a2;clear a2;go_wp2_with fail;refine E.out _ _ a4 (λ_=>?_);clear E K;refine ar 12 8 (Z (ae (eX (fM m n) n))) a4 ?_;refine ea kr ?_ _;clear j y z a4;go_wp2;go_ret;exact⟨rfl,HFi.o⟩
end
end
end Go.Proofs.YtlaodjjfmhipnaaGreatDoor
