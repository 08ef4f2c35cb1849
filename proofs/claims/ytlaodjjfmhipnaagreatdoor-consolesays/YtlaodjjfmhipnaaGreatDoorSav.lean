/-
  Part of it.
-/
import Derived.Test.YtlaodjjfmhipnaaGreatDoorSau
set_option maxRecDepth 100000
set_option maxHeartbeats 8000000
set_option linter.all false
namespace Go.Proofs.YtlaodjjfmhipnaaGreatDoor
open Go.Proofs.Tryz
open Value renaming int→I,string→Z,pointer→Y,slice→M,tuple→Ψ
open Ending renaming returned→N
open Obj renaming cells→Δ
open Go renaming World→Ω,Calls→Φ
open IntKind renaming i64→Q
open Option renaming some→O,none→J
open RowKit renaming Below→B,Hid→H
section
open Go.RowKit Go.Maps
section
variable {w:Ω}{wb:Nat}{ow:Nat->Nat}{c:aE}{rs:List aq}{s:ay}{k:Nat}
theorem OB(x:dr)(r:Nat)(h:dx w wb ow c rs s k)(hT:dy w)(hr:r<4)(hk:k=s.c c)(ha:0<=x.b/\x.b<=3)(hs:0<=x.d/\x.d<=255)(hg:0<=x.e/\x.e<=255)(ht:x.c.size=8)(hu:s.d+1<=20000):
  Φ prog 181 #[Y (O ⟨wb,0,J⟩),.agg #[I Q x.b,I Q x.d,I Q x.e,Z x.c],I Q (c.a r x.b.toNat)] w λe F=>e=N (Ψ #[])/\gl w F wb ow c rs (s.e c r x) k:=by
 obtain⟨C,y,u,f⟩:=x;simp only at ha hs hg ht⊢;have HH:H (dx w wb ow c rs s k):=h;have HT:H (dy w):=hT;have HSI:H (s.e c r ⟨C,y,u,f⟩=s.e c r ⟨C,y,u,f⟩):=rfl;obtain⟨L,hpl⟩:∃L,L=c.a r C.toNat:=⟨_,rfl⟩;have HPL:H (L=c.a r C.toNat):=hpl;rw[<-hpl];have hpb:-1<=L/\L<=7:=by obtain⟨p,h⟩:=h.a;rw[hpl];exact h.g.k r C.toNat hr om
 have hnow:s.b<=1000:=by obtain⟨p,h⟩:=h.a;exact h.h
 clear h hT hpl;obtain⟨X,hX⟩:∃X,X=w.alloc (Δ #[I Q C,I Q y,I Q u,Z f] 102):=⟨_,rfl⟩;have hbX:B w.1.size w X:=by rw[hX];exact ba
 have HBX:H (B w.1.size w X):=hbX;have hXs:X.1.size=w.1.size+1:=by rw[hX];simp
 have HXS:H (X.1.size=w.1.size+1):=hXs;have hbx:X.1[w.1.size]?=O (Δ #[I Q C,I Q y,I Q u,Z f] 102):=by rw[hX];exact bn w _
 have HBOX:H (X.1[w.1.size]?=O (Δ #[I Q C,I Q y,I Q u,Z f] 102)):=hbx;have x1:X.cell? ⟨w.1.size,1,J⟩=O (I Q y):=by simp[World.cell?,hbx]
 have x2:X.cell? ⟨w.1.size,2,J⟩=O (I Q u):=by simp[World.cell?,hbx]
 have x3:X.cell? ⟨w.1.size,3,J⟩=O (Z f):=by simp[World.cell?,hbx]
 have HNW:H (∀V,B X.1.size X V->Φ prog 224 #[Y (O ⟨wb,0,J⟩)] V λe F=>e=N (I Q (s.b:Int))/\F=V):=λV K=>P7 (HH.o.b (HBX.o.t (K.m HBX.o.size)));have G:H (∀V,B X.1.size X V->(V.cell? ⟨w.1.size,1,J⟩=O (I Q y)/\V.cell? ⟨w.1.size,2,J⟩=O (I Q u)/\V.cell? ⟨w.1.size,3,J⟩=O (Z f))/\B X.1.size X V):=λV K=>⟨⟨aH K x1,aH K x2,aH K x3⟩,K⟩;have hXX:B X.1.size X X:=aj _ _;clear hbX hXs hbx;go_enter func181,ntmps181;go_upto_region 1 with fail
 rw[<-hX];clear hX;go_cut [6] from 7 to 17 (λa V=>∃nb:Nat,a=Y (O ⟨nb,0,J⟩)/\V.1[nb]?=O (Δ #[I Q L,I Q y,I Q (IntKind.i64.wrap ((s.b:Int)-u)),Z f] 156)/\X.1.size<=nb/\B X.1.size X V)
 case first=>
  go_region_held3 (λV=>(V.cell? ⟨w.1.size,1,J⟩=O (I Q y)/\V.cell? ⟨w.1.size,2,J⟩=O (I Q u)/\V.cell? ⟨w.1.size,3,J⟩=O (Z f))/\B X.1.size X V)
   (first|exact G.o _ (ma ‹_›)|exact G.o _ (ma (l9 _ br))|exact G.out _ (TagA.allocBelow _ (TagA.drewBelow (Below.refl _ _)))|(go_split_ands;exact G.out _ (TagA.allocBelow _ ‹_›)))
   (first|(go_at_call 224;go_split_ands;refine(HNW.o _ ‹_›).m ?_;rintro e F ⟨rfl,rfl⟩))
  all_goals
   go_wp2;go_meet;exact⟨X.1.size,rfl,bn X _,aa _,ma (l9 _ br)⟩
 case rest=>
  obtain⟨nb,rfl,hnb,hXn,hbV⟩:=hcut;have hwr:IntKind.i64.wrap ((s.b:Int)-u)=(s.b:Int)-u:=by simp[IntKind.wrap,IntKind.bits,IntKind.signed];omega
  rw[hwr]at hnb;have hbw:B w.1.size w wc:=HBX.o.t (hbV.m HBX.o.size);have HBW:H (B w.1.size w wc):=hbw;have HC:H (dx wc wb ow c rs s k):=HH.o.b hbw;have HTC:H (dy wc):=HT.o.b hbw HT.o.a;have y3:wc.cell? ⟨w.1.size,3,J⟩=O (Z f):=aH hbV x3;have HNB:H (wc.1[nb]?=O (Δ #[I Q L,I Q y,I Q ((s.b:Int)-u),Z f] 156)):=hnb;have hwc:w.1.size<wc.1.size:=by have:=hbV.size;have:=HXS.o;omega
  have HY3:H (wc.cell? ⟨w.1.size,3,J⟩=O (Z f)):=y3;clear x1 x2 x3 hXX hbV hXn hnb hbw G HNW HBOX hwr;go_wp2_with fail;refine(LV f _ HTC.o om).m ?_;rintro e w1 ⟨rfl,R⟩;have HB1:H (B wc.1.size wc w1):=R;have HW1:H (B w.1.size w w1):=HBW.o.t (R.m HBW.o.size);have H1:H (dx w1 wb ow c rs s k):=HC.o.b R;have hw1:w.1.size<w1.1.size:=bg hwc R.size;have z3:w1.cell? ⟨w.1.size,3,J⟩=O (Z f):=aH R HY3.o;have HZ3:H (w1.cell? ⟨w.1.size,3,J⟩=O (Z f)):=z3;have HN1:H (w1.1[nb]?=O (Δ #[I Q L,I Q y,I Q ((s.b:Int)-u),Z f] 156)):=(R.block nb (bP.1 HNB.o).1).trans HNB.o;clear R y3 HC HTC HNB HY3 hwc;by_cases hkd:aD f=0
  case pos=>
   have hd:decide (0<aD f)=false:=(by simp;omega);rw[hd];obtain⟨p,E⟩:=H1.o.a;have cc:w1.cell? ⟨wb,35,J⟩=O (I Q (s.n:Int)):=E.j 35 om;have fc:=E.θ 35;have hbd:s.n<=20000:=by have:=E.i;unfold ay.d ay.m at this;omega
   have HF:H (gl w (w1.setCell ⟨wb,35,J⟩ (I Q ((s.n:Int)+1))) wb ow c rs (s.e c r ⟨C,y,u,f⟩) k):=by
    have e:s.e c r ⟨C,y,u,f⟩={ s with n:=s.n+1 }:=(by unfold ay.e;rw[ak hkd]);rw[e];refine gl.d HW1.o (gl.b (p:=p) E (λj hj=>?_) rfl rfl ?_)
    ·exact RF c s p (s.n+1) j hj
    refine aP (Nat.le_of_eq ?_) hu;unfold ay.d ay.m;simp;omega
   clear E hd hkd;go_wp2;go_end0;exact⟨rfl,HF.o⟩
  case neg=>
   have hd:decide (0<aD f)=true:=(by simp;omega);rw[hd];have HKD:H (¬aD f=0):=hkd;clear hd hkd;by_cases a1:L=-1
   case pos=>
    subst a1;obtain⟨p,E⟩:=H1.o.a;have cc:w1.cell? ⟨wb,36,J⟩=O (I Q (s.p:Int)):=E.j 36 om;have fc:=E.θ 36;have hbd:s.p<=20000:=by have:=E.i;unfold ay.d ay.m at this;omega
    have HF:H (gl w (w1.setCell ⟨wb,36,J⟩ (I Q ((s.p:Int)+1))) wb ow c rs (s.e c r ⟨C,y,u,f⟩) k):=by
     have e:s.e c r ⟨C,y,u,f⟩={ s with p:=s.p+1 }:=(by unfold ay.e;rw[ag HKD.o,ak HPL.o.symm]);rw[e];refine gl.d HW1.o (gl.b (p:=p) E (λj hj=>?_) rfl rfl ?_)
     ·exact Ql c s p (s.p+1) j hj
     refine aP (Nat.le_of_eq ?_) hu;unfold ay.d ay.m;simp;omega
    clear E;go_wp2;go_end0;exact⟨rfl,HF.o⟩
   case neg=>
    have hpe:(L == -1)=false:=(by simpa using a1);have HP1:H (¬c.a r C.toNat=-1):=(by rw[<-HPL.o];exact a1);clear a1;go_wp2_with fail;refine(Ki f H1.o om).m ?_;rintro e q ⟨rfl,a3⟩;have HW2:H (B w.1.size w q):=HW1.o.t (a3.m HW1.o.size);have H2:H (dx q wb ow c rs s k):=H1.o.b a3;have HN2:H (q.1[nb]?=O (Δ #[I Q L,I Q y,I Q ((s.b:Int)-u),Z f] 156)):=(a3.block nb (bP.1 HN1.o).1).trans HN1.o;have HZ2:H (q.cell? ⟨w.1.size,3,J⟩=O (Z f)):=aH a3 HZ3.o;have hw2:w.1.size<q.1.size:=bg hw1 a3.size;clear a3 z3 HN1 HZ3;cases hfl:(!gY (bJ s.a) f&&decide (12<=(bJ s.a).length)) with
   |true=>
     have HFL:H (gY (bJ s.a) f=false/\12<=(bJ s.a).length):=(by show _/\_;simpa using hfl);obtain⟨p,E⟩:=H2.o.a;have cc:q.cell? ⟨wb,38,J⟩=O (I Q (s.o:Int)):=E.j 38 om;have fc:=E.θ 38;have hbd:s.o<=20000:=by have:=E.i;unfold ay.d ay.m at this;omega
     have HF:H (gl w (q.setCell ⟨wb,38,J⟩ (I Q ((s.o:Int)+1))) wb ow c rs (s.e c r ⟨C,y,u,f⟩) k):=by
      have e:s.e c r ⟨C,y,u,f⟩={ s with o:=s.o+1 }:=(by unfold ay.e;rw[ag HKD.o,ag HP1.o,ak HFL.o]);rw[e];refine gl.d HW2.o (gl.b (p:=p) E (λj hj=>?_) rfl rfl ?_)
      ·exact Qj c s p (s.o+1) j hj
      refine aP (Nat.le_of_eq ?_) hu;unfold ay.d ay.m;simp;omega
     clear E hfl;go_wp2;go_end0;exact⟨rfl,HF.o⟩
   |false=>
     have HFL:H (¬(gY (bJ s.a) f=false/\12<=(bJ s.a).length)):=by
      intro P;rw[Bool.and_eq_false_iff]at hfl;rcases hfl with hf|hf
      ·simp[P.1]at hf
      simp at hf;omega
     clear hfl;obtain⟨p,h2⟩:=H2.o.a;have HP:H (dY q wb ow c rs s k p):=h2;have c29:=h2.ι;have n0:q.cell? ⟨nb,0,J⟩=O (I Q L):=(by simp[World.cell?,HN2.o]);have n1:q.cell? ⟨nb,1,J⟩=O (I Q y):=(by simp[World.cell?,HN2.o]);have n2:q.cell? ⟨nb,2,J⟩=O (I Q ((s.b:Int)-u)):=(by simp[World.cell?,HN2.o]);have n3:q.cell? ⟨nb,3,J⟩=O (Z f):=(by simp[World.cell?,HN2.o]);obtain⟨x,hx⟩:∃x:ai,x=⟨L,y,(s.b:Int)-u,f⟩:=⟨_,rfl⟩;have HX:H (x=qA c r s ⟨C,y,u,f⟩):=(by show _=_;rw[hx,HPL.o];rfl);have hal:s.a.length<=20000:=(by have:=h2.i;unfold ay.d ay.m at this;omega);have W:H (∀V:Ω,V.1=q.1->Φ prog 227 #[Y (O ⟨p.e,0,J⟩),.agg #[I Q L,I Q y,I Q ((s.b:Int)-u),Z f]] V λe F=>e=N (v8 (ey c.b c.e s.b x))/\cG F p.e (jz (λb=>ow b=3) V F) c.b c.e s.b (if ey c.b c.e s.b x=0 then s.a++[x] else s.a) (bD c.b c.e s.b)/\ax (λb=>ow b=3) V F):=λV K=>(by have hz:V.1.size=q.1.size:=(by rw[K]);have:=Qh (w:=V) x (h2.ζ.b (λb _ _=>by rw[K])) (by have:=h2.g.d;omega) h2.g.e h2.g.g h2.h om (λb A=>by rw[hz];exact h2.a b (by rw[A];decide)) (by rw[hx];unfold maxLen;simp only;omega);rw[hx]at this⊢;exact this);clear h2 hx;have hlm:∀b,ow b≠0->b<w.1.size:=λb A=>(by obtain⟨_,h0⟩:=HH.o.a;exact h0.a b A);have HLM:H (∀b,ow b≠0->b<w.1.size):=hlm;clear hlm;cases hA:ey c.b c.e s.b x with
    |succ m=>
      have hne:¬ey c.b c.e s.b x=0:=om;have S:H (Φ prog 227 #[Y (O ⟨p.e,0,J⟩),.agg #[I Q L,I Q y,I Q ((s.b:Int)-u),Z f]] q.drew λe F=>e=N (.iface 57 (I Q ((m+1:Nat):Int)))/\dY F wb (dA ow q.drew F 3) c rs s k p/\cD q.drew F ow (dA ow q.drew F 3)):=(by refine(W.o q.drew rfl).m ?_;rintro e F ⟨rfl,hd,U⟩;rw[ag hne]at hd;rw[hA];have h0:dY q.drew wb ow c rs s k p:=HP.o.κ nl (λ_ _ _=>rfl);exact⟨rfl,Ks h0 U hd,tO U (λb A=>by rw[A];decide)⟩);have HRD:H (s.e c r ⟨C,y,u,f⟩={ s with l:=s.l+1 }):=(by show _=_;unfold ay.e;rw[ag HKD.o,ag HP1.o,ag HFL.o,ak (by rw[<-HX.o];exact hne)]);clear hne hA W;go_wp2_with fail;go_region_with (go_at_call 227;refine ac S.o ?_;rintro e D ⟨rfl,h3,hwp⟩)
      all_goals
       have HWP:H (cD q.drew D ow (dA ow q.drew D 3)):=hwp;have c37:D.cell? ⟨wb,37,J⟩=O (I Q (s.l:Int)):=h3.j 37 om;have f37:=h3.θ 37;have hbd:s.l<=20000:=by have:=h3.i;unfold ay.d ay.m at this;omega
       have HF:H (gl w (D.setCell ⟨wb,37,J⟩ (I Q ((s.l:Int)+1))) wb ow c rs (s.e c r ⟨C,y,u,f⟩) k):=by
        rw[HRD.o];refine gl.e ((cD.e HW2.o.drew ow).d HWP.o) (gl.b (p:=p) h3 (λj hj=>?_) rfl rfl ?_)
        ·exact Qk c s p (s.l+1) j hj
        refine aP (Nat.le_of_eq ?_) hu;unfold ay.d ay.m;simp;omega
       clear h3 hwp;go_wp2;go_end0;exact⟨rfl,HF.o⟩
    |zero=>
      have S:H (Φ prog 227 #[Y (O ⟨p.e,0,J⟩),.agg #[I Q L,I Q y,I Q ((s.b:Int)-u),Z f]] q.drew λe F=>e=N .nilIface/\cG F p.e (jz (λb=>ow b=3) q.drew F) c.b c.e s.b (s.a++[x]) (bD c.b c.e s.b)/\ax (λb=>ow b=3) q.drew F):=(by refine(W.o q.drew rfl).m ?_;rintro e F ⟨rfl,hd,U⟩;rw[ak hA]at hd;rw[hA];exact⟨rfl,hd,U⟩);have HRD:H (s.e c r ⟨C,y,u,f⟩={ s with a:=s.a++[x] }):=by show _=_;unfold ay.e;rw[ag HKD.o,ag HP1.o,ag HFL.o,ag (by rw[<-HX.o,hA];simp),HX.o]
      have HOK:H (eY s.b x=true/\¬bR c.b x<bD c.b c.e s.b):=by
       unfold ey at hA;split at hA
       ·rename_i E;split at hA
        ·omega
        rename_i h2;exact⟨E,h2⟩
       omega
      have HXG:H (x.a=f):=(by rw[HX.o];rfl);clear hA W;go_wp2_with fail;go_region_with (go_at_call 227;refine ac S.o ?_;rintro e D ⟨rfl,h3,hk3⟩)
      all_goals
       have HD3:H (cG D p.e (jz (λb=>ow b=3) q.drew D) c.b c.e s.b (s.a++[x]) (bD c.b c.e s.b)):=h3;have HK3:H (ax (λb=>ow b=3) q.drew D):=hk3;have a0:∀b,b<q.1.size->ow b≠3->D.1[b]?=q.1[b]?:=λb A h=>hk3.b b A h;have hob:=HP.o.d;have z:=HP.o.l;have m28:D.cell? ⟨wb,28,J⟩=O (.map (O p.a)):=(by rw[bW (a0 wb HP.o.η (by rw[hob];decide))];exact HP.o.μ);have hbn:ow w.1.size≠3:=λe=>(by have:=HLM.o w.1.size (by rw[e];decide);omega);have m3:D.cell? ⟨w.1.size,3,J⟩=O (Z f):=(by rw[bW (a0 w.1.size hw2 hbn)];exact HZ2.o);have hkb3:D.1[p.a]?=q.1[p.a]?:=a0 p.a HP.o.e.b (by rw[z];decide);have HKN:H (∀V,B D.1.size D V->nP V p.a (bJ s.a)):=λV K=>(HP.o.e.a hkb3).a (K.block p.a (HP.o.e.a hkb3).b);have hkw:wb≠p.a:=λe=>(by rw[e,z]at hob;omega);have hkx:w.1.size≠p.a:=λe=>(by have:=HLM.o p.a (by rw[z];decide);omega);have G:H (∀V,B D.1.size D V->V.cell? ⟨wb,28,J⟩=O (.map (O p.a))/\V.cell? ⟨w.1.size,3,J⟩=O (Z f)):=λV K=>⟨aH K m28,aH K m3⟩;have HS5:H (∀V V',B D.1.size D V->V.grownBy V' (O p.a)->V'.cell? ⟨wb,28,J⟩=O (.map (O p.a))/\V'.cell? ⟨w.1.size,3,J⟩=O (Z f)):=λV V' K hg=>⟨hg.cell (aH K m28) (by simpa using hkw),hg.cell (aH K m3) (by simpa using hkx)⟩;have hkl:(bJ s.a).length<=1000:=(by have:=HP.o.v;omega);clear h3 hk3 a0 hkb3 hob z hbn;go_wp2_with fail
       go_region_held3 (λV=>V.cell? ⟨wb,28,J⟩=O (.map (O p.a))/\V.cell? ⟨w.1.size,3,J⟩=O (Z f))
        (first|exact G.o _ (ma br)|exact G.o _ T|exact HS5.o _ _ T a2)
        (first|(go_at_call 94;go_split_ands;refine(zn f _ om).m ?_;rintro e w4 ⟨rfl,hb40⟩;have T:B D.1.size D w4:=bQ (ma br) hb40;obtain⟨w5,hrun,hkn5,a2⟩:=Rx (HKN.o w4 T) f om hkl))
       have HF:H (gl w w5 wb ow c rs (s.e c r ⟨C,y,u,f⟩) k):=by
        have h0:dY q.drew wb ow c rs s k p:=HP.o.κ nl (λ_ _ _=>rfl);have z:=HP.o.l
        have U:ax (λb=>ow b=3\/b=p.a) q.drew w5:=
         ((HK3.o.e (λb _ h=>af h)).a (bH T _)).a (eV a2 (λb A=>ah (by simpa using A.symm)))
        have hkl2:p.a<q.drew.1.size:=HP.o.e.b
        have hd5:cG w5 p.e (λb=>ow b=3\/(q.drew.1.size<=b/\b<w5.1.size)) c.b c.e s.b (s.a++[x]) (bD c.b c.e s.b):=by
         refine(HD3.o.b (λb A P=>?_)).d (λb A P=>?_)
         ·rw[a2.block b (bg A T.size) (λe=>?_),T.block b A];have e':b=p.a:=(by simpa using e);rcases P with P|P
          ·rw[e',z]at P;omega
          rw[e']at P;omega
         rcases P with P|P
         ·exact af P
         exact ah ⟨P.1,A⟩
        have hkn:nP w5 p.a (bJ (s.a++[x])):=by rw[vG,HXG.o];exact hkn5
        have hlen:(bJ (s.a++[x])).length<=12:=by
         rw[vG,HXG.o];have:=HP.o.v;unfold jY;split
         ·exact this
         rename_i P;have hf:gY (bJ s.a) f=false:=(by simpa using P);have:¬12<=(bJ s.a).length:=λh=>HFL.o ⟨hf,h⟩;simp;omega
        have hfin:=Oi h0 x U hd5 hkn ⟨HOK.o.1,by rw[HXG.o];have:=HKD.o;omega⟩ (by have:=HOK.o.2;rw[hk];unfold ay.c;omega) hlen hu;rw[HRD.o]
        exact⟨_,⟨p,hfin⟩,(cD.e HW2.o.drew ow).d (tO U (λb A=>by
         rcases A with A|A
         ·rw[A];decide
         ·rw[A,z];decide))⟩
       clear T hb40 hrun hkn5 a2;go_wp2;go_end0;exact⟨rfl,HF.o⟩
end
end
section
open Go.RowKit Go.Maps
theorem qt{w w':Ω}{l j:Nat->Nat}(h:dy w)(n:l 1=0)(m:cD w w' l j):dy w':=by have o:=h.a;have i:=m.a.b 1 om (λe=>e n);exact⟨aP o m.a.c,λk g=>by rw[bW i];exact h.c k g,λk g=>by rw[bW i];exact h.d k g,λk g=>by rw[bW i];exact h.e k g,λk g=>by rw[bW i];exact h.f k g⟩
theorem sQ{w w':Ω}{c a:Nat->Nat}{b:Nat}(d:c b=0)(i:b<w.1.size)(f:cD w w' c a):a b=0:=by
 apply lX;intro e;rcases f.g b e with h|h
 ·exact h d
 omega
section
variable {w:Ω}{wb:Nat}{ow:Nat->Nat}{c:aE}{rs:List aq}{s:ay}{k:Nat}
theorem Qu(h:dx w wb ow c rs s k){b:Nat}(d:ow b≠0):b<w.1.size:=by obtain⟨_,h⟩:=h.a;exact h.a b d
theorem gl.f{i j:Ω}(h:gl w i wb ow c rs s k)(l:B i.1.size i j):gl w j wb ow c rs s k:=by obtain⟨g,m,n⟩:=h.a;exact⟨g,m.b l,n.d (cD.e l g)⟩
theorem Mn(f:bf)(r:Nat)(q:Option Addr)(cap:Nat)(h:dx w wb ow c rs s k)(A:r<4)(v:eC f)(u:f.b=3):
  Φ prog 140 #[Y (O ⟨wb,0,J⟩),Y (O ⟨wb,r*7,J⟩),.agg #[I Q f.b,M q f.a.length cap,I Q f.c]] w λe x=>e=N (Ψ #[])/\gl w x wb ow c rs (s.i c r f) k:=by
 have g:=v.b om;obtain⟨G,z,m⟩:=f;simp only at g u;subst u g
 have C:H (∀o,gl w ((w.setCell ⟨wb,r*7+6,J⟩ (I Q m)).alloc o) wb ow c rs (s.i c r ⟨3,[],m⟩) k):=λo=>by
  obtain⟨p,d⟩:=h.a;refine gl.f (gl.b (p:=p) d (λj E=>?_) rfl rfl ?_) (br.l nl o)
  ·exact Qm c s p A m j
  exact d.i
 have D:∀o,(w.alloc o).cell? ⟨wb,r*7+6,J⟩=O (I Q (s.q r)):=λo=>by obtain⟨p,d⟩:=(h.b ((aj w.1.size w).l nl o)).a;rw[d.j (r*7+6) om];unfold dO;rw[ak om,show (r*7+6)%7=6 by omega,show (r*7+6)/7=r by omega];rfl
 have F:∀o,(w.alloc o).frozen? ⟨wb,r*7+6,J⟩=false:=λo=>by obtain⟨p,d⟩:=(h.b ((aj w.1.size w).l nl o)).a;exact d.θ _
 have y:wb<w.1.size:=by obtain⟨p,d⟩:=h.a;exact d.η
 go_enter func140,ntmps140;go_wp2;go_loopw [7,19] (λ_ i V=>i=I Q 0/\gl w V wb ow c rs (s.i c r ⟨3,[],m⟩) k) (λ_ _ _=>0)
 case atStart=>exact⟨rfl,C.o _⟩
 obtain⟨rfl,t⟩:=hrel;have n:=hid t;go_wp2;go_end0;exact⟨rfl,n.o⟩
theorem Kx(f:bf)(r:Nat)(q:Option Addr)(cap:Nat)(h:dx w wb ow c rs s k)(hT:dy w)(h0:ow 1=0)(U:k=s.c c)(hr:r<4)(hf:eC f)(h3:f.b≠3)(hon:de w q f.a)(hap:f.a≠[]->∀b o,q=O ⟨b,o,J⟩->ow b=0)(hu:s.d+f.a.length<=20000):
  Φ prog 140 #[Y (O ⟨wb,0,J⟩),Y (O ⟨wb,r*7,J⟩),.agg #[I Q f.b,M q f.a.length cap,I Q f.c]] w λe w'=>e=N (Ψ #[])/\gl w w' wb ow c rs (s.i c r f) k:=by
 have K:s.i c r f=f.a.foldl (ay.e c r) s:=by unfold ay.i ay.s;rw[ag h3]
 rw[K];have R:=hf.a;have X:=hf.c;obtain⟨ty,u,wm⟩:=f;simp only at h3 hon hap hu R X⊢;have hty:(ty == 3)=false:=by simpa using h3
 obtain⟨n,hn⟩:∃n,n=u.length:=⟨_,rfl⟩;have HN:=hid hn;rw[<-hn];have hn4:n<=4:=om;have HH:=hid h;have HT:=hid hT;have HON:=hid hon;have HAP:=hid hap;have HALL:=hid R;have HU:=hid hu;have HK:=hid U;have HB0:H (∀o,B w.1.size w (w.alloc o)):=λo=>br.l nl o;clear h hT hon hap R X hu hn hf h3 U K;go_enter func140,ntmps140;go_wp2;go_loopw [7,19] (λ_ i V=>∃(j:Nat) (v:Nat->Nat),j<=n/\i=I Q (j:Int)/\dx V wb v c rs ((u.take j).foldl (ay.e c r) s) k/\cD w V ow v) (λ_ i _=>n-(intOf i).toNat)
 case atStart=>exact⟨0,ow,aX _,rfl,HH.o.b (HB0.o _),cD.e (HB0.o _) ow⟩
 obtain⟨j,v,hj,rfl,hw,hwp⟩:=hrel;have HW:=hid hw;have P:=hid hwp;by_cases hlt:j<n
 case neg=>obtain rfl:j=n:=om;have hI:¬(j:Int)<j:=om;have HF:H (gl w wr wb ow c rs (u.foldl (ay.e c r) s) k):=⟨v,by have:=HW.o;rw[HN.o,eL]at this;exact this,P.o⟩;go_wp2;go_end0;exact⟨rfl,HF.o⟩
 have hI:(j:Int)<n:=om;have G:j<u.length:=(by rw[<-HN.o];exact hlt);have hne:u≠[]:=λe=>(by rw[e]at G;simp at G);obtain⟨b,o,rfl,hb,hc⟩:=HON.o.c hne;have hob:=HAP.o hne b o rfl;have hbk:=P.o.a.b b hb (λe=>e hob);obtain⟨k0,k1,k2,k3⟩:=(hc j _ (bc G)).a hbk;have hx:=HALL.o _ (eG G);have HTK:=hid (iA G);generalize u[j]=x at *;obtain⟨S,hS⟩:∃S,S=(u.take j).foldl (ay.e c r) s:=⟨_,rfl⟩;have HS:H ((u.take (j+1)).foldl (ay.e c r) s=S.e c r x):=(by show _=_;rw[HTK.o,qX,hS];rfl);have HSS:=hid hS;rw[<-hS]at HW;have hsum:S.d+1<=20000:=(by have e:=xe c r (u.take j) s;obtain⟨e1,e2,_⟩:=rX c r (u.take j) s;rw[<-hS]at e e1 e2;have:=HU.o;have hl:(u.take j).length=j:=(by rw[fj];omega);unfold ay.d at this⊢;rw[e,e1,e2,hl];omega);have hcl:k=S.c c:=(by rw[HK.o];unfold ay.c;rw[hS,(rX c r (u.take j) s).2.2.1]);obtain⟨xa,C,E,D⟩:=x;simp only at k0 k1 k2 k3 hx;obtain⟨⟨ha0,ha1⟩,hs01,hg01,ht8⟩:=hx;obtain⟨a,rfl⟩:∃a:Nat,xa=(a:Int):=⟨xa.toNat,om⟩;have ha4:a<4:=om;have haI:(a:Int)<4:=om;obtain⟨t,hY⟩:∃t,t=wr.alloc (Δ #[I Q (a:Int),I Q C,I Q E,Z D] 102):=⟨_,rfl⟩;have hbY:B wr.1.size wr t:=(by rw[hY];exact ba);have hbx:t.1[wr.1.size]?=O (Δ #[I Q (a:Int),I Q C,I Q E,Z D] 102):=(by rw[hY];exact bn wr _);have hYs:wr.1.size<t.1.size:=(by rw[hY];simp);have HWY:=hid (HW.o.b hbY);have F:=hid ((qt HT.o h0 P.o).b hbY (qt HT.o h0 P.o).a);have HBX:=hid hbx;have HWPY:=hid (P.o.d (cD.e hbY v));have hoB:v wr.1.size=0:=(by apply lX;intro hn;have:=Qu HW.o hn;omega);have HSV:H (∀V (L:Nat->Nat) (S2:ay),dx V wb L c rs S2 k->V.1[wr.1.size]?=O (Δ #[I Q (a:Int),I Q C,I Q E,Z D] 102)->V.cell? ⟨wr.1.size,0,J⟩=O (I Q (a:Int))/\V.cell? ⟨wr.1.size,1,J⟩=O (I Q C)/\V.cell? ⟨wr.1.size,2,J⟩=O (I Q E)/\V.cell? ⟨wr.1.size,3,J⟩=O (Z D)/\V.cell? ⟨wb,r*7+2+a,J⟩=O (I Q (c.a r a))):=λV L S2 y W=>by obtain⟨p,h1⟩:=y.a;refine⟨by simp[World.cell?,W],by simp[World.cell?,W],by simp[World.cell?,W],by simp[World.cell?,W],?_⟩;rw[h1.j (r*7+2+a) om,NZ c S2 p hr ha4]
 have HS0:H (∀V:Ω,V.1=t.1->V.cell? ⟨wr.1.size,0,J⟩=O (I Q (a:Int))/\V.cell? ⟨wr.1.size,1,J⟩=O (I Q C)/\V.cell? ⟨wr.1.size,2,J⟩=O (I Q E)/\V.cell? ⟨wr.1.size,3,J⟩=O (Z D)/\V.cell? ⟨wb,r*7+2+a,J⟩=O (I Q (c.a r a))):=λV y=>
  HSV.o V v S (HWY.o.d (by rw[y];exact aa _) (λb _ _=>by rw[y])) (by rw[y];exact HBX.o)
 have HTA:H (∀V:Ω,V.1=t.1->Φ prog 181 #[Y (O ⟨wb,0,J⟩),.agg #[I Q (a:Int),I Q C,I Q E,Z D],I Q (c.a r a)] V λe w'=>e=N (Ψ #[])/\gl V w' wb v c rs (S.e c r ⟨(a:Int),C,E,D⟩) k):=λV y=>(by have hbV:B t.1.size t V\/True:=ah aN;have:=OB (w:=V) ⟨(a:Int),C,E,D⟩ r (HWY.o.d (by rw[y];exact aa _) (λb _ _=>by rw[y])) ⟨by rw[y];exact F.o.a,λk U=>by rw[bW (w:=t) (by rw[y])];exact F.o.c k U,λk U=>by rw[bW (w:=t) (by rw[y])];exact F.o.d k U,λk U=>by rw[bW (w:=t) (by rw[y])];exact F.o.e k U,λk U=>by rw[bW (w:=t) (by rw[y])];exact F.o.f k U⟩ hr hcl ⟨by simp,by simp only;omega⟩ hs01 hg01 ht8 hsum;exact this);have HSA:H (∀V A:Ω,V.1=t.1->gl V A wb v c rs (S.e c r ⟨(a:Int),C,E,D⟩) k->A.cell? ⟨wr.1.size,0,J⟩=O (I Q (a:Int))/\A.cell? ⟨wr.1.size,1,J⟩=O (I Q C)/\A.cell? ⟨wr.1.size,2,J⟩=O (I Q E)/\A.cell? ⟨wr.1.size,3,J⟩=O (Z D)/\A.cell? ⟨wb,r*7+2+a,J⟩=O (I Q (c.a r a))):=λV A y z=>(by obtain⟨o2,h1,T⟩:=z.a;refine HSV.o A o2 _ h1 ?_;rw[T.a.b wr.1.size (by rw[y];exact hYs) (λe=>e hoB),y];exact HBX.o);have HFI:H (∀V A:Ω,V.1=t.1->V.os=t.os->V.tape=t.tape->V.output=t.output->gl V A wb v c rs (S.e c r ⟨(a:Int),C,E,D⟩) k->∃L,dx A wb L c rs ((u.take (j+1)).foldl (ay.e c r) s) k/\cD w A ow L):=λV A y e1 e2 e3 z=>(by obtain⟨o2,h1,T⟩:=z.a;refine⟨o2,by rw[HS.o];exact h1,HWPY.o.d ⟨⟨T.a.f.trans e1,T.a.h.trans e2,T.a.g.trans e3,by rw[<-y];exact T.a.c,λb hb hn=>by rw[T.a.b b (by rw[y];exact hb) hn,y]⟩,λb hb=>by rw[<-y];exact T.g b hb⟩⟩);go_wp2;rw[<-hY];clear hY k0 k1 k2 k3
 go_region_held3 (λV=>V.cell? ⟨wr.1.size,0,J⟩=O (I Q (a:Int))/\V.cell? ⟨wr.1.size,1,J⟩=O (I Q C)/\V.cell? ⟨wr.1.size,2,J⟩=O (I Q E)/\V.cell? ⟨wr.1.size,3,J⟩=O (Z D)/\V.cell? ⟨wb,r*7+2+a,J⟩=O (I Q (c.a r a)))
  (first|exact HS0.o _ rfl|exact HSA.o t.drew _ rfl z)
  (first|(go_at_call 181;go_split_ands;refine(HTA.o t.drew rfl).m ?_;rintro e w4 ⟨rfl,z⟩))
 have HTO:=hid z;go_wp2;go_roundw
 case rel=>obtain⟨o2,h1,T⟩:=HFI.o t.drew w4 rfl rfl rfl rfl HTO.o;exact⟨j+1,o2,om,by go_num,h1,T⟩
 simp[intOf];omega
theorem OC(f:bf)(r:Nat)(q:Option Addr)(cap:Nat)(h:dx w wb ow c rs s k)(x:dy w)(p:ow 1=0)(t:k=s.c c)(n:r<4)(m:eC f)(g:de w q f.a)(j:f.a≠[]->∀b o,q=O ⟨b,o,J⟩->ow b=0)(v:s.d+f.a.length<=20000):
  Φ prog 140 #[Y (O ⟨wb,0,J⟩),Y (O ⟨wb,r*7,J⟩),.agg #[I Q f.b,M q f.a.length cap,I Q f.c]] w λe u=>e=N (Ψ #[])/\gl w u wb ow c rs (s.i c r f) k:=by
 by_cases l:f.b=3
 ·exact Mn f r q cap h n m l
 exact Kx f r q cap h x p t n m l g j v
end
end
section
open Go.RowKit Go.Maps
theorem Js(a b:List bf):iN (a++b)=iN a+iN b:=by simp[iN]
theorem zN(l:List bf)(j:Nat):iN (l.take j)<=iN l:=by have:=Js (l.take j) (l.drop j);rw[rN]at this;omega
theorem oe(c:aE)(r:Nat)(l:List bf)(s:ay):(l.foldl (ay.i c r) s).d=s.d+iN l:=by obtain⟨a,b,_⟩:=q8 c r l s;unfold ay.d;rw[zI,a,b];omega
section
variable {w:Ω}{wb:Nat}{ow:Nat->Nat}{c:aE}{rs:List aq}{s:ay}{k:Nat}
theorem Iz(r:Int)(b:ByteArray)(c:iS r 0 3=false):
  Φ prog 103 #[Y (O ⟨wb,0,J⟩),I Q r,Z b] w λe a=>e=N (Ψ #[I Q 0,.iface 57 (I Q 1)])/\a=w:=by
 go_enter func103,ntmps103;go_wp2_with fail;refine(uX c _).m ?_;rintro e a ⟨rfl,rfl⟩;go_wp2;go_ret2;exact⟨rfl,rfl⟩
theorem Mo(r:Int)(b:ByteArray)(c:iS r 0 3=true)(f:2000<b.size)(g:b.size<=9223372036854775807):
  Φ prog 103 #[Y (O ⟨wb,0,J⟩),I Q r,Z b] w λe a=>e=N (Ψ #[I Q 0,.iface 57 (I Q 2)])/\a=w:=by
 have d:(2000:Int)<b.size:=om;go_enter func103,ntmps103;go_wp2_with fail;refine(uX c _).m ?_;rintro e a ⟨rfl,rfl⟩;go_wp2;go_ret2;exact⟨rfl,rfl⟩
theorem Qv(r:Nat)(b:ByteArray)(h:dx w wb ow c rs s k)(hT:dy w)(h0:ow 1=0)(hk:k=s.c c)(hr:r<4)(hb:b.size<=2000)(hu:s.d+b.size<=20000):
  Φ prog 103 #[Y (O ⟨wb,0,J⟩),I Q (r:Int),Z b] w λe w'=>e=N (Ψ #[I Q ((aW (s.f r++b.1.toList)).1.length:Int),.nilIface])/\gl w w' wb ow c rs (s.r c r b.1.toList) k:=by
 have hrb:iS (r:Int) 0 3=true:=by simp[iS];omega
 have hrI:(r:Int)<4:=om;have hI:¬(2000:Int)<b.size:=om;obtain⟨p,hp⟩:=h.a;have hlr:=aP (Et hr) hp.i;have D:b.1.toList.length=b.size:=by simp
 have HFS:=Ag c r s b.1.toList hr;rw[D]at HFS;have hFS:(s.r c r b.1.toList).d<=20000:=om;obtain⟨y,n,R,a0⟩:∃y n R,aW (s.f r++b.1.toList)=(y,n,R):=⟨_,_,_,rfl⟩;have hok:=xu (s.f r++b.1.toList);have hfe:s.r c r b.1.toList=y.foldl (ay.i c r) (s.j r R (s.g r+n)):=by unfold ay.r;rw[a0]
 have T:=zD (s.f r++b.1.toList);rw[a0]at hok T⊢;simp only at hok T⊢;rw[hfe]at hFS⊢;rw[bU,D]at T;have HOK:=hid hok;have HFSM:=hid hFS
 have HFC:H (Φ prog 139 #[Y (O ⟨wb,r*7,J⟩),Z b] w λe w'=>∃v,e=N v/\gu w' w.1.size w.1.size v y/\w'.1[wb]?=O (Δ (im c (s.j r R (s.g r+n)) p) 190)/\f7 w.1.size wb w w'):=by
  have hsl:(aM (s.f r)).size=(s.f r).length:=by simp[aM,ByteArray.size]
  have hsd:(aM (s.f r)).1.toList=s.f r:=by simp[aM]
  refine(LX (L:=v9 c s p r hr) wb (aM (s.f r)) b (s.g r) w (Fv r hr hp.t) (by rw[hsl];omega) om).m ?_;rintro e w' ⟨v,rfl,E,P,h3⟩;rw[hsd,a0]at E P;refine⟨v,rfl,E,?_,h3⟩;rw[P.a,Ey]
 have HH:=hid hp;have HT:=hid hT;have HK:=hid hk;obtain⟨x,hN⟩:∃x,x=y.length:=⟨_,rfl⟩;have HN:=hid hN;rw[<-hN]at T⊢;have hN9:x<=100000:=om;have HLS:H ((s.j r R (s.g r+n)).d<=20000):=by show _<=_;have:=oe c r y (s.j r R (s.g r+n));omega
 obtain⟨K,W⟩:∃K,K=s.j r R (s.g r+n):=⟨_,rfl⟩;have HS1:=hid W;rw[<-W];rw[<-W]at HFSM HFC HLS;clear h hp hT hk a0 hok hfe hFS HFS D hN T hu hlr W;go_enter func103,ntmps103;go_wp2_with fail;refine(uX hrb _).m ?_;rintro e w' ⟨rfl,rfl⟩;go_wp2_with fail;refine ac HFC.o ?_;rintro e U ⟨v,rfl,hfo,F,z⟩;have hlm:=HH.o.a;have E:=F5 HH.o z.a (λb hb _ A=>z.c b hb A) F (by rw[HS1.o];rfl) (by rw[HS1.o];rfl) HLS.o;have a2:cD w' U ow ow:=⟨⟨z.d,z.g,z.e,z.a,λb hb hn=>z.c b hb (λe=>hn (by rw[e,HH.o.d];decide))⟩,λ_ h=>af h⟩;have H1:H (dx U wb ow c rs K k):=⟨p,E⟩;have HWP1:=hid a2;have HT1:=hid (qt HT.o h0 a2);obtain⟨ps,hpl,hrow,hrd⟩:=hfo.c;have HPL:=hid hpl;have HROW:=hid hrow;have HRD:=hid hrd
 obtain⟨q,cp,hv⟩:∃q cp,v=M q x cp:=by
  rw[HN.o];rcases hrow.2 with ⟨rfl,h0⟩|⟨g,cap,cur,hv,_⟩
  ·exact⟨J,0,by rw[h0]⟩
  exact⟨_,_,hv⟩
 have HV:=hid hv;have HLM:=hid hlm;subst hv;go_wp2;go_loopw [11,32] (λ_ i V=>∃(j:Nat) (G:Nat->Nat),j<=x/\i=I Q (j:Int)/\dx V wb G c rs ((y.take j).foldl (ay.i c r) K) k/\cD U V ow G) (λ_ i _=>x-(intOf i).toNat)
 case atStart=>exact⟨0,ow,aX _,rfl,H1.o,cD.f _ _⟩
 obtain⟨j,G,hj,rfl,hw,a2⟩:=hrel;have HW:=hid hw;have C:=hid a2;by_cases hlt:j<x
 case neg=>obtain rfl:j=x:=om;have hII:¬(j:Int)<j:=om;have HF:H (gl w' wr wb ow c rs (y.foldl (ay.i c r) K) k):=⟨G,by have:=HW.o;rw[HN.o,eL]at this;exact this,HWP1.o.d C.o⟩;go_wp2;go_ret2;exact⟨rfl,HF.o⟩
 have hII:(j:Int)<x:=om;have X:j<y.length:=(by rw[<-HN.o];exact hlt);have hjp:j<ps.length:=(by rw[HPL.o];exact X);have hfj:=bc X;have hpj:=bc hjp;obtain⟨a1,F⟩:=HRD.o j _ _ hfj hpj;obtain⟨g,cp',hq,hg1,hg2⟩:=HROW.o.form om;obtain⟨rfl,hcp⟩:q=O ⟨g,0,J⟩/\True:=(by simp at hq;exact⟨hq.1,aN⟩);have hcl:∀i u,i<3->(kX y[j] ps[j])[i]?=O u->U.cell? ⟨g,j*3+i,J⟩=O u:=λi u hi hu=>(by have:=HROW.o.cells (g:=g) rfl (j*3+i) u (by rw[wF y ps j i _ _ hfj hpj hi];exact hu);rw[dD]at this;exact this);have hog:ow g=0:=(by apply lX;intro hn;have:=HLM.o g hn;omega);have hgk:=C.o.a.b g hg2 (λe=>e hog);have k0:wr.cell? ⟨g,j*3,J⟩=O (I Q y[j].b):=(by rw[bW (w:=U) hgk];exact hcl 0 _ om rfl);have k1:wr.cell? ⟨g,j*3+1,J⟩=O (M ps[j].1 y[j].a.length ps[j].2):=(by rw[bW (w:=U) hgk];exact hcl 1 _ om rfl);have k2:wr.cell? ⟨g,j*3+1+1,J⟩=O (I Q y[j].c):=(by rw[bW (w:=U) hgk];exact hcl 2 _ om rfl);have hfok:=HOK.o _ (eG X);have HTK:=hid (iA X);have HBL:H (y[j].a≠[]->∃b o,ps[j].1=O ⟨b,o,J⟩/\ow b=0/\b<U.1.size):=λA=>(by obtain⟨b,o,E,P,_⟩:=F A;obtain⟨b',o',h3,h4,_⟩:=a1.c A;rw[E]at h3;simp at h3;refine⟨b,o,E,?_,by rw[h3.1];exact h4⟩;apply lX;intro hn;have:=HLM.o b hn;omega);generalize y[j]=f at *;generalize ps[j]=pc at *;obtain⟨pp,pcap⟩:=pc;simp only at k1 a1 F HBL;obtain⟨S,hS⟩:∃S,S=(y.take j).foldl (ay.i c r) K:=⟨_,rfl⟩;have HS:H ((y.take (j+1)).foldl (ay.i c r) K=S.i c r f):=(by show _=_;rw[HTK.o,qX,hS];rfl);rw[<-hS]at HW;have hsum:S.d+f.a.length<=20000:=(by have e1:=oe c r (y.take (j+1)) K;rw[HS.o]at e1;have e2:(S.i c r f).d=S.d+f.a.length:=(by have:=oe c r [f] S;simpa [iN] using this);have e3:=zN y (j+1);have e4:=oe c r y K;have e5:=HFSM.o;omega);have hcl2:k=S.c c:=(by rw[HK.o];unfold ay.c;rw[hS,(q8 c r (y.take j) K).2.2,HS1.o];rfl);have hoY:∀o,B wr.1.size wr (wr.alloc o):=λo=>br.l nl o
 have HHR:H (∀o,Φ prog 140 #[Y (O ⟨wb,0,J⟩),Y (O ⟨wb,r*7,J⟩),.agg #[I Q f.b,M pp f.a.length pcap,I Q f.c]] (wr.alloc o) λe w2=>e=N (Ψ #[])/\gl (wr.alloc o) w2 wb G c rs (S.i c r f) k):=λo=>by
  have ht:=qt HT1.o h0 C.o;have hlt0:1<U.1.size:=(by have:=HT1.o.a;omega);refine OC f r pp pcap (HW.o.b (hoY o)) (ht.b (hoY o) ht.a) (sQ h0 hlt0 C.o) hcl2 hr hfok ?_ ?_ hsum
  ·by_cases A:f.a=[]
   ·exact⟨a1.d,λhh=>absurd A hh⟩
   refine(a1.f C.o.a.c (λb o e hb=>?_)).a (hoY o) nl;obtain⟨b',o',E,P,_⟩:=HBL.o A;rw[E]at e;simp at e;exact C.o.a.b b hb (λhh=>hh (by rw[<-e.1];exact P))
  intro A b o e;obtain⟨b',o',E,P,h3⟩:=HBL.o A;rw[E]at e;simp at e;rw[<-e.1];exact sQ P h3 C.o
 go_wp2_with fail;refine(HHR.o _).m ?_;rintro e w4 ⟨rfl,hto⟩;have HTO:H (∃ow2,dx w4 wb ow2 c rs ((y.take (j+1)).foldl (ay.i c r) K) k/\cD U w4 ow ow2):=(by obtain⟨o2,E,P⟩:=hto.a;exact⟨o2,by rw[HS.o];exact E,(C.o.d (cD.e ba G)).d P⟩);go_wp2;go_roundw
 case rel=>obtain⟨o2,E,P⟩:=HTO.o;exact⟨j+1,o2,om,by go_num,E,P⟩
 simp[intOf];omega
end
end
end Go.Proofs.YtlaodjjfmhipnaaGreatDoor
