/-
  Part of it.
-/
import Derived.Test.YtlaodjjfmhipnaaGreatDoorSaa
import Derived.Test.YtlaodjjfmhipnaaGreatDoorSad
set_option maxRecDepth 100000
set_option maxHeartbeats 8000000
set_option linter.all false
namespace Go.Proofs.YtlaodjjfmhipnaaGreatDoor
open Go.Proofs.Tryz
open Value renaming int→I,string→Z,pointer→Y,slice→M,tuple→Ψ
open Ending renaming returned→N
open Obj renaming cells→Δ
open Go renaming World→Ω,Calls→Φ
open IntKind renaming i64→Q
open Option renaming some→O,none→J
open RowKit renaming Below→B,Hid→H
section
open Go.RowKit
theorem IE(m b:Nat):m%2^(b+1)=2*((m/2)%2^b)+m%2:=by
 have f:m=2*(m/2)+m%2:=om;have c:=Nat.two_pow_pos b;have g:m/2=2^b*(m/2/2^b)+(m/2)%2^b:=(Nat.div_add_mod _ _).symm;have e:(m/2)%2^b<2^b:=Nat.mod_lt _ c;have d:m=2^(b+1)*(m/2/2^b)+(2*((m/2)%2^b)+m%2):=by rw[Nat.pow_succ,Nat.mul_comm (2^b) 2,Nat.mul_assoc];generalize 2^b*(m/2/2^b)=z at *;omega
 have a:2*((m/2)%2^b)+m%2<2^(b+1):=by rw[Nat.pow_succ];omega
 conv=>lhs;rw[d]
 rw[Nat.mul_add_mod,Nat.mod_eq_of_lt a]
theorem Dt(n p b:Nat):bu n p (b+1)=2*bu n (p+1) b+n/2^p%2:=by unfold bu;rw[IE,Nat.pow_succ,<-Nat.div_div_eq_div_mul]
theorem Du(n p:Nat):bu n p 0=0:=by unfold bu;rw[Nat.pow_zero,Nat.mod_one]
theorem Nf(m t:Nat)(h:t<=7):m/2^t%2=(m%256)/2^t%2:=by
 match t,h with
 |0,_|1,_|2,_|3,_|4,_|5,_|6,_|7,_=>simp only[Nat.reducePow];omega
theorem K6{s:ByteArray}(h:s.size=8)(q:Nat)(b:q<8)(a:q<s.size):df (bA s.1.toList) q=s[q].toNat:=by
 have e:=Dk h;have:(ld (bA s.1.toList)).1.toList[q]?=s.1.toList[q]?:=by rw[e]
 have c:s.1.toList[q]?=O s[q]:=by rw[bc (by simpa using a)];rfl
 rw[c]at this;unfold ld at this
 match q,b with
 |0,_|1,_|2,_|3,_|4,_|5,_|6,_|7,_=>
  simp at this;rw[<-this];exact(CD _ _).symm
theorem K5{s:ByteArray}(h:s.size=8)(j:Nat)(b:j<64)(a:j/8<s.size):bA s.1.toList/2^(63-j)%2=s[j/8].toNat/2^(7-j%8)%2:=by rw[<-K6 h (j/8) om a];unfold df;rw[<-Nf _ _ om,<-qj];rw[show 56-8*(j/8)+(7-j%8)=63-j by omega]
theorem K9(w:Ω)(a:Nat)(v v':Value):(w.setCell ⟨a,0,J⟩ v).setCell ⟨a,0,J⟩ v'=w.setCell ⟨a,0,J⟩ v':=Go.Proofs.setCell_setCell w a 0 v v'
theorem K8(X a t:Nat)(c:X<16777216)(d:a<256):wrap64 (2*(X:Int)+wrap64 (bits .and .u8 ((a:Int)/2^t) 1))=((2*X+a/2^t%2:Nat):Int):=by
 have e:((a:Int)/2^t)=((a/2^t:Nat):Int):=by simp
 have f:a/2^t<=a:=Nat.div_le_self _ _;have b:bits .and .u8 ((a/2^t:Nat):Int) 1=((a/2^t%2:Nat):Int):=by have:=u8_and_nat (a/2^t) 1 om om;rw[Nat.and_one_is_mod]at this;exact this
 rw[e,b];have g:a/2^t%2<2:=Nat.mod_lt _ om;generalize a/2^t%2=z at *;unfold wrap64;omega
theorem uz(x:Int)(a:0<=x)(b:x<=9223372036854775807):IntKind.i64.wrap x=x:=by simp[IntKind.wrap,IntKind.bits,IntKind.signed];omega
theorem K7(s:ByteArray)(j a:Nat)(c:j/8<s.size)(b:s[j/8].toNat=a)(w:Ω):(Instr.index 9 (Z s) (I Q ((j:Int)/8))).run prog w=.ok (I .u8 (a:Int)) w:=by rw[run_index_string w 9 s Q _ underlying9,dif_pos om];congr 3
theorem tV(s:ByteArray)(K:s.size=8)(A m p:Nat)(P AI:Int)(w:Ω)(c a:Nat)(F:H (p+m+A=64))(t:H (P=m))(r:H (AI=A))(hm:1<=m)(hm2:m<=24)
  (T:w.cell? ⟨c,0,J⟩=O (Z s))(R:w.cell? ⟨a,0,J⟩=O (I Q AI))(L:w.frozen? ⟨a,0,J⟩=false)(z:a≠c):
  Φ prog 55 #[I Q P,Y (O ⟨c,0,J⟩),Y (O ⟨a,0,J⟩)] w λe w'=>e=N (I Q ((bu (bA s.1.toList) p m:Nat):Int))/\∃d,w'=(w.setCell ⟨a,0,J⟩ (I Q ((A+m:Nat):Int))).drewN d:=by
 obtain rfl:=t.o;obtain rfl:=r.o;have HS:H (s.size=8):=K;have hs':8<=s.size:=om;clear K t r;have E:H _:=T;have D:H _:=R;have HF:H _:=L;clear T R L;generalize hn:bA s.1.toList=n at *;have HN:H (bA s.1.toList=n):=hn;clear hn;go_enter func55,ntmps55;go_wp2;go_loopw [5,6] (λx i V=>∃k:Nat,k<=m/\i=I Q k/\x=I Q ((bu n (64-A-k) k:Nat):Int)/\V.cell? ⟨c,0,J⟩=O (Z s)/\V.cell? ⟨a,0,J⟩=O (I Q ((A+k:Nat):Int))/\V.frozen? ⟨a,0,J⟩=false/\((k=0/\V=w)\/∃d,V=(w.setCell ⟨a,0,J⟩ (I Q ((A+k:Nat):Int))).drewN d)) (λ_ i _=>m-(intOf i).toNat)
 case atStart=>exact⟨0,aX _,rfl,by rw[Du];rfl,E.o,D.o,HF.o,af ⟨rfl,rfl⟩⟩
 obtain⟨k,hk,rfl,rfl,v1,v2,v3,S⟩:=hrel;have W:H _:=S;clear S;by_cases hlt:k<m
 ·have U:(k:Int)<m:=om;have g:A+k<64:=(by have:=F.o;omega);have hx:bu n (64-A-k) k<16777216:=bg (rr _ _ _) (jI om (show k<=24 by omega));obtain⟨j,u⟩:∃j:Nat,j=A+k:=⟨_,rfl⟩;have HJ:H (j=A+k):=u;rw[<-u]at v2;have l:j<64:=om;clear u g;have hq:j/8<s.size:=om;obtain⟨f,b⟩:∃f:Nat,s[j/8].toNat=f:=⟨_,rfl⟩;have v:f<256:=(by rw[<-b];exact gE _);have hix:=K7 s j f hq b;have C:H _:=b;clear b;generalize hX:bu n (64-A-k) k=X at *;have HX:H _:=hX;clear hX;have e1:=uz (2*(X:Int)) om om;have e2:=uz ((j:Int)/8) om om;have e3:=uz ((j:Int)%8) om om;have e4:=uz (7-(j:Int)%8) om om;have e5:(0:Int)<=7-(j:Int)%8:=om;have e6:7-(j:Int)%8<=8:=om;go_wp2;go_quiet (fail);go_wp2;go_roundw
  case rel=>
   have u:=HJ.o;refine⟨k+1,om,by go_num,?_,?_,?_,?_,ah ?_⟩
   ·have y:=F.o;have G:=K5 HS.o j l hq;have b:=C.o;have q:=Dt n (64-A-(k+1)) k;rw[show 64-A-(k+1)+1=64-A-k by omega,show 64-A-(k+1)=63-j by omega]at q;rw[show 64-A-(k+1)=63-j by omega,q,HX.o,<-HN.o,G,b];exact congrArg (I Q) (K8 X f (7-j%8) hx v)
   ·rw[oY,show ((wr.setCell ⟨a,0,J⟩ (I Q ((j:Int)+1))).drewN nq).cell? ⟨c,0,J⟩=(wr.setCell ⟨a,0,J⟩ (I Q ((j:Int)+1))).cell? ⟨c,0,J⟩ from rfl,dT _ _ _ _ z];exact v1
   ·rw[oY,show ((wr.setCell ⟨a,0,J⟩ (I Q ((j:Int)+1))).drewN nq).cell? ⟨a,0,J⟩=(wr.setCell ⟨a,0,J⟩ (I Q ((j:Int)+1))).cell? ⟨a,0,J⟩ from rfl,nR _ _ _ (by rw[v2];rfl)];have:(j:Int)+1=((A+(k+1):Nat):Int):=om;rw[this]
   ·rw[oR];exact v3
   have ej:(j:Int)+1=((A+(k+1):Nat):Int):=om;rcases W.o with ⟨-,h⟩|⟨d,h⟩
   ·refine⟨nq,?_⟩;rw[h,oY,ej]
   refine⟨d+nq,?_⟩;rw[h,oY,oY,K9,ej];simp
  simp[intOf];omega
 obtain rfl:k=m:=om;go_wp2;go_ret;have y:=F.o;refine⟨?_,?_⟩
 ·rw[show p=64-A-k by omega];rfl
 rcases W.o with ⟨h,-⟩|h
 ·omega
 exact h
open Go.RowKit
theorem ru{r:Nat}{a c:Ω}(h:∀j:Nat,j<6->a.cell? ⟨r,j,J⟩=O (I Q 0)/\a.frozen? ⟨r,j,J⟩=false)(d:B a.1.size a c):
  ∀j:Nat,j<6->c.cell? ⟨r,j,J⟩=O (I Q 0)/\c.frozen? ⟨r,j,J⟩=false:=
 λj b=>⟨aH d (h j b).1,by rw[d.frozen (rJ _ _ (h j b).1)];exact(h j b).2⟩
def uy:Value:=Ψ #[cJ,.bool false]
theorem JM(s:ByteArray)(w:Ω)(d:s.size≠8)(a:s.size<=maxLen):
  Φ prog 33 #[Z s] w λe b=>e=N uy/\B w.1.size w b:=by
 unfold maxLen at a;have c:((s.size:Int) != 8)=true:=by simp;omega
 go_enter func33,ntmps33;go_wp2;exact bK (v:=Ψ #[cJ,.bool false]) (by simp[results,results33,go_sem,cJ]) rfl ⟨rfl,ba.l sm _⟩
theorem Eb{w a W:Ω}{x y a0 a1 a2 e f h i k p n g o:Value}{q s t r:TypeId}{d:Nat}
  (u:W=((((w.alloc (Δ #[x] q)).alloc (Δ #[a0,a1,a2,e,f,h] s)).alloc (Δ #[y] t)).alloc (Δ #[i,k,p,n,g,o] r)).drewN d)(b:B W.1.size W a):
  w.1.size+1+1+1<a.1.size/\B w.1.size w a/\a.cell? ⟨w.1.size,0,J⟩=O x/\a.cell? ⟨w.1.size+1+1,0,J⟩=O y/\a.frozen? ⟨w.1.size+1+1,0,J⟩=false
  /\ (∀j:Nat,j<6->a.cell? ⟨w.1.size+1,j,J⟩=(#[a0,a1,a2,e,f,h]:Array Value)[j]?/\a.frozen? ⟨w.1.size+1,j,J⟩=false/\a.cell? ⟨w.1.size+1+1+1,j,J⟩=(#[i,k,p,n,g,o]:Array Value)[j]?/\a.frozen? ⟨w.1.size+1+1+1,j,J⟩=false):=by
 subst u;have c:(((((w.alloc (Δ #[x] q)).alloc (Δ #[a0,a1,a2,e,f,h] s)).alloc (Δ #[y] t)).alloc (Δ #[i,k,p,n,g,o] r)).drewN d).1.size=w.1.size+1+1+1+1:=by simp
 refine⟨by have:=b.size;omega,?_,?_,?_,?_,?_⟩
 ·refine Below.trans ?_ (b.m om);exact kT (((((aj _ w).l nl _).l sm _).l (by simp;omega) _).l (by simp;omega) _) _
 ·rw[b.cell (by rw[c];show w.1.size<_;omega)];go_simp
 ·rw[b.cell (by rw[c];show w.1.size+1+1<_;omega)];go_simp
 ·rw[b.frozen (by rw[c];show w.1.size+1+1<_;omega)];go_simp
 intro j _;refine⟨?_,?_,?_,?_⟩
 ·rw[b.cell (by rw[c];show w.1.size+1<_;omega)];go_simp
 ·rw[b.frozen (by rw[c];show w.1.size+1<_;omega)];go_simp
 ·rw[b.cell (by rw[c];show w.1.size+1+1+1<_;omega)];go_simp
 rw[b.frozen (by rw[c];show w.1.size+1+1+1<_;omega)];go_simp
theorem TA{w b:Ω}{d:Nat}{o:Obj}{x1 x2 x3 c r z s A y S E X:Value}(P:B w.1.size w b)(hs:w.1.size+1+1+1<b.1.size)
  (x:∀j:Nat,j<6->b.cell? ⟨w.1.size+1,j,J⟩=O (I Q 0)/\b.frozen? ⟨w.1.size+1,j,J⟩=false)
  (F:b.cell? ⟨w.1.size+1+1+1,0,J⟩=O s)(T:b.cell? ⟨w.1.size+1+1+1,1,J⟩=O A)(U:b.cell? ⟨w.1.size+1+1+1,2,J⟩=O y)
  (D:b.cell? ⟨w.1.size+1+1+1,3,J⟩=O S)(K:b.cell? ⟨w.1.size+1+1+1,4,J⟩=O E)(L:b.cell? ⟨w.1.size+1+1+1,5,J⟩=O X){W:Ω}
  (R:W=(((((((b.setCell ⟨w.1.size+1+1,0,J⟩ x1).setCell ⟨w.1.size+1+1+1,3,J⟩ c).setCell ⟨w.1.size+1+1,0,J⟩ x2).setCell ⟨w.1.size+1+1+1,4,J⟩ r).setCell ⟨w.1.size+1+1,0,J⟩ x3).setCell ⟨w.1.size+1+1+1,5,J⟩ z).alloc o).drewN d):
  B w.1.size w W/\w.1.size+1+1+1<W.1.size/\(∀j:Nat,j<6->W.cell? ⟨w.1.size+1,j,J⟩=O (I Q 0)/\W.frozen? ⟨w.1.size+1,j,J⟩=false)
  /\ W.cell? ⟨w.1.size+1+1+1,0,J⟩=O s/\W.cell? ⟨w.1.size+1+1+1,1,J⟩=O A/\W.cell? ⟨w.1.size+1+1+1,2,J⟩=O y
  /\ W.cell? ⟨w.1.size+1+1+1,3,J⟩=O c/\W.cell? ⟨w.1.size+1+1+1,4,J⟩=O r/\W.cell? ⟨w.1.size+1+1+1,5,J⟩=O z:=by
 have n:w.1.size<=w.1.size+1+1:=om;have i:w.1.size<=w.1.size+1+1+1:=om;let V:=(((((b.setCell ⟨w.1.size+1+1,0,J⟩ x1).setCell ⟨w.1.size+1+1+1,3,J⟩ c).setCell ⟨w.1.size+1+1,0,J⟩ x2).setCell ⟨w.1.size+1+1+1,4,J⟩ r).setCell ⟨w.1.size+1+1,0,J⟩ x3).setCell ⟨w.1.size+1+1+1,5,J⟩ z;have C:B w.1.size w V:=(((((P.c (p:=⟨w.1.size+1+1,0,J⟩) n _).c (p:=⟨w.1.size+1+1+1,3,J⟩) i _).c (p:=⟨w.1.size+1+1,0,J⟩) n _).c (p:=⟨w.1.size+1+1+1,4,J⟩) i _).c (p:=⟨w.1.size+1+1,0,J⟩) n _).c (p:=⟨w.1.size+1+1+1,5,J⟩) i _;have G:V.1.size=b.1.size:=by simp[V]
 have e:B V.1.size V W:=by rw[R];exact kT ((aj _ V).l nl o) d
 have g:∀j:Nat,V.cell? ⟨w.1.size+1,j,J⟩=b.cell? ⟨w.1.size+1,j,J⟩:=λj=>by have q:w.1.size+1+1≠w.1.size+1:=om;have k:w.1.size+1+1+1≠w.1.size+1:=om;show ((((((b.setCell ⟨w.1.size+1+1,0,J⟩ x1).setCell ⟨w.1.size+1+1+1,3,J⟩ c).setCell ⟨w.1.size+1+1,0,J⟩ x2).setCell ⟨w.1.size+1+1+1,4,J⟩ r).setCell ⟨w.1.size+1+1,0,J⟩ x3).setCell ⟨w.1.size+1+1+1,5,J⟩ z).cell? _=_;rw[dT _ _ _ _ k,dT _ _ _ _ q,dT _ _ _ _ k,dT _ _ _ _ q,dT _ _ _ _ k,dT _ _ _ _ q]
 have a:w.1.size+1+1≠w.1.size+1+1+1:=om;have f:∀(j:Nat)(u:Value),V.cell? ⟨w.1.size+1+1+1,j,J⟩=O u->W.cell? ⟨w.1.size+1+1+1,j,J⟩=O u:=λj u h=>aH e h;refine⟨C.t (e.m C.size),bg om e.size,λj v=>⟨aH e (by rw[g];exact(x j v).1),?_⟩,f _ _ ?_,f _ _ ?_,f _ _ ?_,f _ _ ?_,f _ _ ?_,f _ _ ?_⟩
 ·rw[e.frozen (by show w.1.size+1<_;omega)];simp only[V,oR];exact(x j v).2
 ·simp only[V];rw[dB (h:=by simp),dT _ _ _ _ a,dB (h:=by simp),dT _ _ _ _ a,dB (h:=by simp),dT _ _ _ _ a];exact F
 ·simp only[V];rw[dB (h:=by simp),dT _ _ _ _ a,dB (h:=by simp),dT _ _ _ _ a,dB (h:=by simp),dT _ _ _ _ a];exact T
 ·simp only[V];rw[dB (h:=by simp),dT _ _ _ _ a,dB (h:=by simp),dT _ _ _ _ a,dB (h:=by simp),dT _ _ _ _ a];exact U
 ·simp only[V];rw[dB (h:=by simp),dT _ _ _ _ a,dB (h:=by simp),dT _ _ _ _ a];exact nR _ _ _ (by rw[dT _ _ _ _ a,D];rfl)
 ·simp only[V];rw[dB (h:=by simp),dT _ _ _ _ a];exact nR _ _ _ (by rw[dT _ _ _ _ a,dB (h:=by simp),dT _ _ _ _ a,K];rfl)
 simp only[V];exact nR _ _ _ (by rw[dT _ _ _ _ a,dB (h:=by simp),dT _ _ _ _ a,dB (h:=by simp),dT _ _ _ _ a,L];rfl)
theorem Ng(s:ByteArray)(w:Ω)(hs:s.size=8)(n:Nat)(hn:n=bA s.1.toList)(v:Value)
  (hv:v=if jU n then Ψ #[nD ((iF n:Int)-47) (jh n) (dp n) (i6 n (dp n)) (kH n (dp n)) (lg n),.bool true] else uy):
  Φ prog 33 #[Z s] w λe w'=>e=N v/\B w.1.size w w':=by
 have h8:((s.size:Int) != 8)=false:=by simp;omega
 have U:H (s.size=8):=hs;have S:H (n=bA s.1.toList):=hn;have HV:H (v=_):=hv;clear hs hn hv;have r1:=oY;have r2:=uV;have f1:((bu n 56 8:Nat):Int)<=255:=by have:=rr n 56 8;omega
 go_enter func33,ntmps33;go_wp2_with fail;refine(tV s U.o 0 8 56 _ 0 _ _ _ rfl rfl rfl om om ?_ ?_ ?_ ?_).m ?_
 ·go_simp
 ·go_simp
 ·go_simp
 ·omega
 rw[<-S.o];rintro e w2 ⟨rfl,d1,rfl⟩;go_wp2_with fail;refine(tV s U.o 8 3 53 _ _ _ _ _ rfl rfl rfl om om ?_ ?_ ?_ ?_).m ?_
 ·go_simp
 ·go_simp
 ·go_simp
 ·omega
 rw[<-S.o];rintro e w2 ⟨rfl,d2,rfl⟩;go_wp2_with fail;refine(tV s U.o 11 3 50 _ _ _ _ _ rfl rfl rfl om om ?_ ?_ ?_ ?_).m ?_
 ·go_simp
 ·go_simp
 ·go_simp
 ·omega
 rw[<-S.o];rintro e w2 ⟨rfl,d3,rfl⟩;go_wp2_with fail;by_cases X:bu n 50 3<6
 case neg=>
  have b:v=uy:=by rw[HV.o,ag];unfold jU dp;simp[X]
  refine(Ds _ _ (ah om)).m ?_;rintro e R ⟨rfl,u⟩;obtain⟨z1,z2,-,-,-,h⟩:=Eb rfl u;obtain⟨y,b0,-⟩:=h 0 om;obtain⟨A,b1,-⟩:=h 1 om;obtain⟨E,b2,-⟩:=h 2 om;obtain⟨x,b3,-⟩:=h 3 om;obtain⟨D,b4,-⟩:=h 4 om;obtain⟨C,b5,-⟩:=h 5 om;simp at y A E x D C;have Z2:H _:=z2;have zz:w.1.size+1<R.1.size:=om;clear h u z2 X;go_wp2;rw[b];clear r1 r2;refine bK (v:=Ψ #[cJ,.bool false]) (by simp[results,results33,go_sem,cJ,y,A,E,x,D,C,zz]) rfl ⟨rfl,?_⟩;exact((((((Z2.o.c (by show w.1.size<=w.1.size+1;omega) _).c (by show w.1.size<=w.1.size+1;omega) _).c (by show w.1.size<=w.1.size+1;omega) _).c (by show w.1.size<=w.1.size+1;omega) _).c (by show w.1.size<=w.1.size+1;omega) _).c (by show w.1.size<=w.1.size+1;omega) _).l (by simp;omega) _
 obtain⟨k,hk⟩:∃k,bu n 50 3=k:=⟨_,rfl⟩;rw[hk]at X⊢;have HK:H (bu n 50 3=k):=hk;clear hk;have hcb:=rZ k;have hrb:=wW k;have F:=tT k;have i:H _:=F;clear F;refine(kW k _ X).m ?_;rintro e R ⟨rfl,u⟩;obtain⟨z1,z2,z4,z5,z6,h⟩:=Eb rfl u;obtain⟨y,b0,t0,q0⟩:=h 0 om;obtain⟨A,b1,t1,p⟩:=h 1 om;obtain⟨E,b2,t2,q2⟩:=h 2 om;obtain⟨x,b3,t3,q3⟩:=h 3 om;obtain⟨D,b4,t4,q4⟩:=h 4 om;obtain⟨C,b5,t5,q5⟩:=h 5 om;simp at y A E x D C t0 t1 t2 t3 t4 t5;have Z2:H _:=z2;have y1:w.1.size<R.1.size:=om;have y2:w.1.size+1<R.1.size:=om;have y3:w.1.size+1+1<R.1.size:=om;clear h u z2;go_wp2_with fail;refine(tV s U.o 14 (bi k) (24+bq k) _ _ _ _ _ (by show _=_;have:=i.o;omega) rfl rfl om om ?_ ?_ ?_ ?_).m ?_
 ·go_simp
 ·go_simp
 ·go_simp
 ·omega
 rw[<-S.o];rintro e w2 ⟨rfl,d4,rfl⟩;go_wp2_with fail;refine(tV s U.o (14+bi k) (bq k) 24 _ (14+(bi k:Int)) _ _ _ (by show _=_;have:=i.o;omega) rfl (by show _=_;omega) om om ?_ ?_ ?_ ?_).m ?_
 ·go_simp
 ·go_simp
 ·go_simp
 ·omega
 rw[<-S.o];rintro e w2 ⟨rfl,d5,rfl⟩;go_wp2_with fail;refine(tV s U.o (14+bi k+bq k) 24 0 _ (14+(bi k:Int)+(bq k:Int)) _ _ _ (by show _=_;have:=i.o;omega) rfl (by show _=_;omega) om om ?_ ?_ ?_ ?_).m ?_
 ·go_simp
 ·go_simp
 ·go_simp
 ·omega
 rw[<-S.o];rintro e w2 ⟨rfl,d6,rfl⟩;go_wp2_with fail;have hbC:((bu n (24+bq k) (bi k):Nat):Int)<=9223372036854775807:=by have:=rr n (24+bq k) (bi k);have T:2^bi k<=2^20:=jI om hcb.2;omega
 have hbR:((bu n 24 (bq k):Nat):Int)<=9223372036854775807:=by have:=rr n 24 (bq k);have T:2^bq k<=2^22:=jI om hrb.2;omega
 have hO:=TA (d:=d4+d5+d6) (o:=Δ #[I Q (bi k),I Q (bm k),I Q (bq k),I Q (bO k)] 31) (x1:=I Q (14+(bi k:Int))) (x2:=I Q (14+(bi k:Int)+(bq k:Int))) (x3:=I Q (14+(bi k:Int)+(bq k:Int)+24)) (c:=I Q (bu n (24+bq k) (bi k))) (r:=I Q (bu n 24 (bq k))) (z:=I Q (bu n 0 24)) Z2.o z1 (λj hj=>match j,hj with|0,_=>⟨y,b0⟩|1,_=>⟨A,b1⟩|2,_=>⟨E,b2⟩|3,_=>⟨x,b3⟩|4,_=>⟨D,b4⟩|5,_=>⟨C,b5⟩) t0 t1 t2 t3 t4 t5 rfl;clear y A E x D C b0 b1 b2 b3 b4 b5 t0 t1 t2 t3 t4 t5 q0 p q2 q3 q4 q5 z4 z5 z6 y1 y2 y3 z1;generalize ((((((((R.setCell ⟨w.1.size+1+1,0,J⟩ (I Q (14+(bi k:Int)))).setCell ⟨w.1.size+1+1+1,3,J⟩ (I Q (bu n (24+bq k) (bi k)))).setCell ⟨w.1.size+1+1,0,J⟩ (I Q (14+(bi k:Int)+(bq k:Int)))).setCell ⟨w.1.size+1+1+1,4,J⟩ (I Q (bu n 24 (bq k)))).setCell ⟨w.1.size+1+1,0,J⟩ (I Q (14+(bi k:Int)+(bq k:Int)+24))).setCell ⟨w.1.size+1+1+1,5,J⟩ (I Q (bu n 0 24))).alloc (Δ #[I Q (bi k),I Q (bm k),I Q (bq k),I Q (bO k)] 31)).drewN (d4+d5+d6))=W at *;obtain⟨K,hsz,ha,u0,u1,u2,u3,u4,u5⟩:=hO;refine(yU _ _ _ _ _ _ _ hbC hbR).m ?_;rintro e w5 ⟨rfl,a⟩;have g:=ru ha a;have V:H _:=K.t (a.m K.size);have v0:=aH a u0;have v1:=aH a u1;have v2:=aH a u2;have v3:=aH a u3;have v4:=aH a u4;have v5:=aH a u5;obtain⟨y,b0⟩:=g 0 om;obtain⟨A,b1⟩:=g 1 om;obtain⟨E,b2⟩:=g 2 om;obtain⟨x,b3⟩:=g 3 om;obtain⟨D,b4⟩:=g 4 om;obtain⟨C,b5⟩:=g 5 om;have L:H (bu n (24+bq k) (bi k)=i6 n k):=by show _=_;unfold i6;rw[show 50-bi k=24+bq k by have:=i.o;omega]
 have G:H (dp n=k):=HK.o;clear u0 u1 u2 u3 u4 u5 ha g a K hsz;have p:w.1.size<=w.1.size+1:=om;by_cases f:jU n=true
 ·have b:=HV.o;rw[ak f]at b;have q:oh ((bu n 56 8:Int)-47) (bu n 53 3) k (bu n (24+bq k) (bi k)) (bu n 24 (bq k)) (bu n 0 24)=0:=by unfold oh;rw[ak];unfold jU at f;simp only[jo]at f;rw[L.o];have T:=f.2;rw[G.o]at T;exact T
  have P:H _:=b;rw[q];clear b q f HV;go_wp2;rw[P.o,G.o,<-L.o];clear r1 r2 v0 v1 v2 v3 v4 v5;refine bK (v:=Ψ #[.agg #[I Q ((bu n 56 8:Int)-47),I Q (bu n 53 3),I Q k,I Q (bu n (24+bq k) (bi k)),I Q (bu n 24 (bq k)),I Q (bu n 0 24)],.bool true]) (by simp[results,results33,go_sem,y,A,E,x,D,C]) rfl ⟨rfl,?_⟩;exact(((((V.o.c p _).c p _).c p _).c p _).c p _).c p _
 have b:=HV.o;rw[ag f]at b;have q:oh ((bu n 56 8:Int)-47) (bu n 53 3) k (bu n (24+bq k) (bi k)) (bu n 24 (bq k)) (bu n 0 24)=1:=by unfold oh;rw[ag];intro T;apply f;unfold jU;rw[G.o,<-L.o,jo];exact⟨by simpa using X,T⟩
 have P:H _:=b;rw[q];clear b q f HV;go_wp2;rw[P.o];clear r1 r2 v0 v1 v2 v3 v4 v5;refine bK (v:=Ψ #[cJ,.bool false]) (by simp[results,results33,go_sem,cJ,y,A,E,x,D,C]) rfl ⟨rfl,?_⟩;exact(((((V.o.c p _).c p _).c p _).c p _).c p _).c p _
open Go.RowKit
def aD(s:ByteArray):Nat:=if s.size=8/\jU (bA s.1.toList)=true then iF (bA s.1.toList)-47 else 0
theorem AC:aD ⟨#[]⟩=0:=by unfold aD;rw[ag (λh=>absurd h.1 dc)]
theorem AZ{n:Nat}(h:jU n=true): 48<=iF n/\iF n<=50:=by unfold jU cF at h;simp only[jo]at h;have:=mc.1 h.2.1.1.1.1.1;omega
theorem vO(s:ByteArray):aD s<=3:=by
 unfold aD;by_cases h:s.size=8/\jU (bA s.1.toList)=true
 ·rw[ak h];have:=AZ h.2;omega
 rw[ag h];omega
theorem zr(s:ByteArray):(0<aD s/\∃F P C R S:Int,iJ s=Ψ #[nD (aD s:Int) F P C R S,.nilIface])\/(aD s=0/\iJ s=Ψ #[cJ,.iface 57 (I Q 3)]):=by
 unfold aD iJ;by_cases h:s.size=8/\jU (bA s.1.toList)=true
 ·have a:=AZ h.2;rw[ak h,ak h];rw[show ((iF (bA s.1.toList)-47:Nat):Int)=(iF (bA s.1.toList):Int)-47 by omega];exact af ⟨om,_,_,_,_,_,rfl⟩
 rw[ag h,ag h];exact ah ⟨rfl,rfl⟩
def rD(s:ByteArray):Value:=if s.size=8/\jU (bA s.1.toList)=true then Ψ #[nD ((iF (bA s.1.toList):Int)-47) (jh (bA s.1.toList)) (dp (bA s.1.toList)) (i6 (bA s.1.toList) (dp (bA s.1.toList))) (kH (bA s.1.toList) (dp (bA s.1.toList))) (lg (bA s.1.toList)),.bool true] else uy
theorem zt(s:ByteArray)(w:Ω)(d:s.size<=maxLen):
  Φ prog 33 #[Z s] w λe c=>e=N (rD s)/\B w.1.size w c:=by
 unfold rD;by_cases a:s.size=8
 ·refine Ng s w a _ rfl _ ?_;by_cases b:jU (bA s.1.toList)=true
  ·rw[ak ⟨a,b⟩,ak b]
  rw[ag (λh=>b h.2),ag b]
 rw[ag (λh=>a h.1)];exact JM s w a d
theorem Rb(s:ByteArray):(0<aD s/\∃F P C R S:Int,rD s=Ψ #[nD (aD s:Int) F P C R S,.bool true])\/(aD s=0/\rD s=uy):=by
 unfold aD rD;by_cases h:s.size=8/\jU (bA s.1.toList)=true
 ·have a:=AZ h.2;rw[ak h,ak h];rw[show ((iF (bA s.1.toList)-47:Nat):Int)=(iF (bA s.1.toList):Int)-47 by omega];exact af ⟨om,_,_,_,_,_,rfl⟩
 rw[ag h,ag h];exact ah ⟨rfl,rfl⟩
theorem vu(s:ByteArray)(w:Ω)(h:s.size<=100000):
  Φ prog 84 #[Z s] w λe g=>e=N (I Q (aD s:Int))/\B w.1.size w g:=by
 have b:H (∀w:Ω,Φ prog 33 #[Z s] w λe g=>e=N (rD s)/\B w.1.size w g):=λw=>zt s w (by unfold maxLen;omega);rcases Rb s with ⟨_,F,P,C,R,S,hv⟩|⟨h0,hv⟩
 ·rw[hv]at b;unfold nD at b;generalize aD s=K at *;clear hv;go_enter func84,ntmps84;go_wp2_with fail;refine(b.o _).m ?_;rintro e f ⟨rfl,a⟩;have d:H (∀o,B w.1.size w (f.alloc o)):=λo=>a.l a.size o;have c:H (B w.1.size w f):=a;clear a b;go_wp2;go_ret;exact⟨rfl,by first|exact d.o _|exact c.out⟩
 rw[hv]at b;unfold uy cJ at b;rw[h0];clear hv h0;go_enter func84,ntmps84;go_wp2_with fail;refine(b.o _).m ?_;rintro e f ⟨rfl,a⟩;have d:H (∀o,B w.1.size w (f.alloc o)):=λo=>a.l a.size o;have c:H (B w.1.size w f):=a;clear a b;go_wp2;go_ret;exact⟨rfl,by first|exact d.o _|exact c.out⟩
end
section
open Go.RowKit
def sw(s:ByteArray):Bool:=((fI (fY s)).length == 4)&&(((fI (fY s))[0]?.bind iv).isSome&&((fI (fY s))[1]?.bind iv).isSome&&((fI (fY s))[2]?.bind iv).isSome&&((fI (fY s))[3]?.bind iv).isSome)
theorem wL(s:ByteArray)(w:Ω)(c:cN w)(b:s.size<4294967281):
  Φ prog 182 #[Z s] w λe d=>e=N (if sw s then q9 s else vr)/\B w.1.size w d:=by
 by_cases a:(fI (fY s)).length=4
 ·have:=M8 s w c b (fI (fY s)) rfl a _ rfl;unfold sw;rw[a];exact this
 have:=JL s w c b a;unfold sw;rw[show ((fI (fY s)).length == 4)=false by simpa using a];exact this
def ll(s:ByteArray):Int:=(py (sM s):Nat)
def lj(s:ByteArray):Int:=eW (fI (fY s)) 0
def lm(s:ByteArray):Int:=6-((((fI (fY s))[1]?).getD ByteArray.empty).size:Int)
def lh(s:ByteArray):Int:=eW (fI (fY s)) 1
def ln(s:ByteArray):Int:=eW (fI (fY s)) 2
def lp(s:ByteArray):Int:=eW (fI (fY s)) 3
theorem yH(s:ByteArray):q9 s=Ψ #[.agg #[I Q (ll s),I Q (lj s),I Q (lm s),I Q (lh s),I Q (ln s),I Q (lp s)],.bool true]:=rfl
def fR(K F P C R S:Int):ByteArray:=gw (K.toNat-1) F.toNat P.toNat C.toNat R.toNat S.toNat
theorem mL{K F P C R S:Int}(h:cF K F P C R S=true):∃j f p c r s:Nat,K=((j+1:Nat):Int)/\F=f/\P=p/\C=c/\R=r/\S=s:=by simp only[cF,jo,mc,Dl]at h;obtain⟨⟨⟨⟨⟨g,i⟩,a⟩,e⟩,d⟩,b⟩:=h;exact⟨(K-1).toNat,F.toNat,P.toNat,C.toNat,R.toNat,S.toNat,om,om,om,om,om,om⟩
theorem zu(K F P C R S:Int)(w:Ω)(d:cN w)(a:cF K F P C R S=true):
  Φ prog 155 #[.agg #[I Q K,I Q F,I Q P,I Q C,I Q R,I Q S]] w λe b=>e=N (Ψ #[Z (fR K F P C R S),.nilIface])/\B w.1.size w b:=by
 obtain⟨j,f,p,c,r,s,rfl,rfl,rfl,rfl,rfl,rfl⟩:=mL a;have:=M3 j f p c r s w d a;have e:((j:Int)+1)=((j+1:Nat):Int):=om;rw[e]at this;exact this
theorem vP{w a:Ω}(c:B (w.alloc (Δ #[I Q 0,I Q 0,I Q 0,I Q 0,I Q 0,I Q 0] 94)).1.size (w.alloc (Δ #[I Q 0,I Q 0,I Q 0,I Q 0,I Q 0,I Q 0] 94)) a):
  ∀j:Nat,j<6->a.cell? ⟨w.1.size,j,J⟩=O (I Q 0)/\a.frozen? ⟨w.1.size,j,J⟩=false:=by
 intro j d;have b:w.1.size<(w.alloc (Δ #[I Q 0,I Q 0,I Q 0,I Q 0,I Q 0,I Q 0] 94)).1.size:=by simp
 rw[c.cell b,c.frozen b]
 match j,d with
 |0,_|1,_|2,_|3,_|4,_|5,_=>exact⟨by go_simp,by go_simp⟩
 |_+6,h=>omega
def jV(s:ByteArray):Value:=
 if sw s&&(cF (ll s) (lj s) (lm s) (lh s) (ln s) (lp s)&&decide (fR (ll s) (lj s) (lm s) (lh s) (ln s) (lp s)=s)) then Ψ #[.agg #[I Q (ll s),I Q (lj s),I Q (lm s),I Q (lh s),I Q (ln s),I Q (lp s)],.nilIface]
 else Ψ #[cJ,.iface 57 (I Q 4)]
theorem Fd(s:ByteArray)(w:Ω)(hT:cN w)(P:s.size<4294967281):
  Φ prog 141 #[Z s] w λe w'=>e=N (jV s)/\B w.1.size w w':=by
 have y:H _:=hT;clear hT;by_cases z:sw s=true
 case neg=>
  have r:jV s=Ψ #[cJ,.iface 57 (I Q 4)]:=by unfold jV;rw[ag];simp[z]
  rw[r];have k:H _:=z;clear r z;go_enter func141,ntmps141;go_wp2_with fail;refine(wL s _ (jr _ y.o) P).m ?_;rw[ag k.o];unfold vr cJ;rintro e L ⟨rfl,f⟩;have j:=vP f;have x:H _:=(eM f).2.1;have G:=(eM f).1;obtain⟨E,T⟩:=j 0 om;obtain⟨K,W⟩:=j 1 om;obtain⟨C,U⟩:=j 2 om;obtain⟨A,R⟩:=j 3 om;obtain⟨D,V⟩:=j 4 om;obtain⟨F,X⟩:=j 5 om;clear j f;go_wp2;refine bK (v:=Ψ #[cJ,.iface 57 (I Q 4)]) (by simp[results,results141,go_sem,cJ,E,K,C,A,D,F,G]) rfl ⟨rfl,?_⟩;exact((((((x.o.c nl _).c nl _).c nl _).c nl _).c nl _).c nl _).l (by simp;omega) _
 by_cases h:cF (ll s) (lj s) (lm s) (lh s) (ln s) (lp s)=true
 case neg=>have h:cF (ll s) (lj s) (lm s) (lh s) (ln s) (lp s)=false:=(by simpa using h);have r:jV s=Ψ #[cJ,.iface 57 (I Q 4)]:=(by unfold jV;rw[ag];simp[h]);rw[r];have k:H _:=z;have p:H _:=h;clear r z h;go_enter func141,ntmps141;go_wp2_with fail;refine(wL s _ (jr _ y.o) P).m ?_;rw[ak k.o,yH];rintro e L ⟨rfl,f⟩;have j:=vP f;have x:H _:=(eM f).2.1;have G:=(eM f).1;have u:H _:=y.o.b x.o y.o.c;clear f;go_wp2_with fail;refine(M4 _ _ _ _ _ _ _ (jr _ u.o).a p.o).m ?_;rintro e w2 ⟨rfl,i⟩;have g:=((aj _ L).l nl (Δ #[I Q (ll s),I Q (lj s),I Q (lm s),I Q (lh s),I Q (ln s),I Q (lp s)] 94)).t (i.m sm);have d:=ru j g;have q:H _:=x.o.t (g.m (gv G));obtain⟨E,T⟩:=d 0 om;obtain⟨K,W⟩:=d 1 om;obtain⟨C,U⟩:=d 2 om;obtain⟨A,R⟩:=d 3 om;obtain⟨D,V⟩:=d 4 om;obtain⟨F,X⟩:=d 5 om;clear j d g i;go_wp2;refine bK (v:=Ψ #[cJ,.iface 57 (I Q 4)]) (by simp[results,results141,go_sem,cJ,E,K,C,A,D,F]) rfl ⟨rfl,?_⟩;exact(((((q.o.c nl _).c nl _).c nl _).c nl _).c nl _).c nl _
 by_cases n:fR (ll s) (lj s) (lm s) (lh s) (ln s) (lp s)=s
 case neg=>have r:jV s=Ψ #[cJ,.iface 57 (I Q 4)]:=(by unfold jV;rw[ag];simp[n]);rw[r];have k:H _:=z;have p:H _:=h;have S:((fR (ll s) (lj s) (lm s) (lh s) (ln s) (lp s)).toList == s.toList)=false:=uW n;clear r z h n;go_enter func141,ntmps141;go_wp2_with fail;refine(wL s _ (jr _ y.o) P).m ?_;rw[ak k.o,yH];rintro e L ⟨rfl,f⟩;have j:=vP f;have x:H _:=(eM f).2.1;have G:=(eM f).1;have u:H _:=y.o.b x.o y.o.c;clear f;go_wp2_with fail;refine(zu _ _ _ _ _ _ _ (jr _ u.o) p.o).m ?_;rintro e w2 ⟨rfl,i⟩;have g:=((aj _ L).l nl (Δ #[I Q (ll s),I Q (lj s),I Q (lm s),I Q (lh s),I Q (ln s),I Q (lp s)] 94)).t (i.m sm);have d:=ru j g;have q:H _:=x.o.t (g.m (gv G));obtain⟨E,T⟩:=d 0 om;obtain⟨K,W⟩:=d 1 om;obtain⟨C,U⟩:=d 2 om;obtain⟨A,R⟩:=d 3 om;obtain⟨D,V⟩:=d 4 om;obtain⟨F,X⟩:=d 5 om;clear j d g i;go_wp2;refine bK (v:=Ψ #[cJ,.iface 57 (I Q 4)]) (by simp[results,results141,go_sem,cJ,E,K,C,A,D,F]) rfl ⟨rfl,?_⟩;exact(((((q.o.c nl _).c nl _).c nl _).c nl _).c nl _).c nl _
 have r:jV s=Ψ #[.agg #[I Q (ll s),I Q (lj s),I Q (lm s),I Q (lh s),I Q (ln s),I Q (lp s)],.nilIface]:=(by unfold jV;rw[ak];simp[z,h,n]);rw[r];have k:H _:=z;have p:H _:=h;have S:((fR (ll s) (lj s) (lm s) (lh s) (ln s) (lp s)).toList == s.toList)=true:=vd n;clear r z h n;go_enter func141,ntmps141;go_wp2_with fail;refine(wL s _ (jr _ y.o) P).m ?_;rw[ak k.o,yH];rintro e L ⟨rfl,f⟩;have j:=vP f;have x:H _:=(eM f).2.1;have G:=(eM f).1;have u:H _:=y.o.b x.o y.o.c;clear f;go_wp2_with fail;refine(zu _ _ _ _ _ _ _ (jr _ u.o) p.o).m ?_;rintro e w2 ⟨rfl,i⟩;have g:=((aj _ L).l nl (Δ #[I Q (ll s),I Q (lj s),I Q (lm s),I Q (lh s),I Q (ln s),I Q (lp s)] 94)).t (i.m sm);have d:=ru j g;have q:H _:=x.o.t (g.m (gv G));obtain⟨-,-,c0,c1,c2,c3,c4,c5⟩:=eM i;obtain⟨E,T⟩:=d 0 om;obtain⟨K,W⟩:=d 1 om;obtain⟨C,U⟩:=d 2 om;obtain⟨A,R⟩:=d 3 om;obtain⟨D,V⟩:=d 4 om;obtain⟨F,X⟩:=d 5 om;clear j d g i;go_wp2;refine bK (v:=Ψ #[.agg #[I Q (ll s),I Q (lj s),I Q (lm s),I Q (lh s),I Q (ln s),I Q (lp s)],.nilIface]) (by simp[results,results141,go_sem,E,K,C,A,D,F]) rfl ⟨rfl,?_⟩;exact(((((q.o.c nl _).c nl _).c nl _).c nl _).c nl _).c nl _
end
section
open Go.RowKit
def mR(a:Nat)(l:List UInt8):Nat:=l.foldl (λa c=>a*10+(c.toNat-48)) a
def sN(l:List UInt8):Prop:=∀c∈l,48<=c.toNat/\c.toNat<=57
theorem Ee:∀(l:List UInt8)(a:Nat),a<=mR a l
 |[],a=>aa _
 |c::l,a=>by have:=Ee l (a*10+(c.toNat-48));show a<=mR (a*10+(c.toNat-48)) l;omega
theorem CN:∀(l:List UInt8)(a:Nat),sN l->mR a l<1000000000000000000->Lib.parseUint10 a l=.ok (mR a l)
 |[],a,_,_=>rfl
 |c::l,a,hd,hv=>by have b:=hd c sm;have d:mR (a*10+(c.toNat-48)) l<1000000000000000000:=hv;have f:=Ee l (a*10+(c.toNat-48));rw[Lib.parseUint10,ak b,ag om,ag om];exact CN l _ (λx e=>hd x (by simp[e])) d
theorem wy{i:Nat}(h:i<10):(UInt8.ofNat (48+i)).toNat=48+i:=by rw[UInt8.toNat_ofNat'];omega
theorem nZ(n:Nat):sN (aK n):=by
 induction n using Nat.strongRecOn with
 |ind n ih=>
  unfold aK at *;rw[Lib.decDigits];by_cases h:n<10
  ·rw[dif_pos h];intro c a;simp only[pP]at a;subst a;rw[wy h];omega
  rw[dif_neg h];intro c a;rcases dP.1 a with a|a
  ·exact ih (n/10) om c a
  simp only[pP]at a;subst a;rw[wy om];omega
theorem ue(n:Nat):mR 0 (aK n)=n:=by
 induction n using Nat.strongRecOn with
 |ind n ih=>
  unfold aK at *;rw[Lib.decDigits];by_cases h:n<10
  ·rw[dif_pos h];simp only[mR,ka,List.foldl_nil,wy h];omega
  rw[dif_neg h];have:=ih (n/10) om;unfold mR at this⊢;rw[qX,this];simp only[ka,List.foldl_nil,wy (show n%10<10 by omega)];omega
theorem uk(n:Nat):aK n≠[]:=by intro h;have:=Lib.nDigits_pos n;rw[<-Lib.decDigits_length]at this;unfold aK at h;rw[h]at this;simp at this
theorem Ld(c:Nat):sN (kD c):=by intro x a;unfold kD at a;rw[List.eq_of_mem_replicate a];decide
theorem Ef:∀c,mR 0 (kD c)=0
 |0=>rfl
 |c+1=>Ef c
theorem pV(n d:Nat):sN (cE n d):=by
 intro c a;rcases dP.1 a with a|a
 ·exact Ld _ c a
 exact nZ _ c a
theorem zw(n d:Nat):mR 0 (cE n d)=n:=by unfold cE mR;rw[qX];have:=Ef (d-(aK n).length);unfold mR at this;rw[this];exact ue n
theorem zZ(n d:Nat):cE n d≠[]:=by intro h;have:=List.append_eq_nil_iff.1 h;exact uk n this.2
theorem yV{l:List UInt8}{n:Nat}(b:sN l)(a:l≠[])(e:mR 0 l=n)(f:n<1000000000000000000):Lib.atoiAll l=.ok (n:Int):=by
 match l,a with
 |c::r,_=>
  have g:=b c sm;have d:Lib.parseUint10 0 (c::r)=.ok n:=by rw[CN _ _ b om,e]
  unfold Lib.atoiAll Lib.parseMag;simp only[show ¬(c.toNat=43\/c.toNat=45) by omega,fL,d,reduceCtorEq];rw[ag om,ag om,ag om]
theorem yL:∀(a b:List UInt8)(c:UInt8),c∉a->Lib.index (a++c::b) [c]=(a.length:Int)
 |[],b,c,_=>by simp[Lib.index]
 |x::a,b,c,h=>by have f:¬c=x:=λe=>h (by simp[e]);have:=yL a b c (λd=>h (by simp[d]));rw[ni,Lib.index,this];rw[ag (by simp[f]),ag sm];simp
theorem Ec(a b:List UInt8)(c:UInt8)(h:c∉a):Lib.cut (a++c::b) [c]=(a,b,true):=by unfold Lib.cut;rw[yL a b c h,ak om];simp
theorem yM(k:Nat)(a b:List UInt8)(c:UInt8)(h:c∉a):Lib.splitK [c] 0 (k+1) (a++c::b)=a::Lib.splitK [c] 0 k b:=by rw[Lib.splitK,yL a b c h,ag sm];simp
theorem sa{l:List UInt8}(h:sN l):(46:UInt8)∉l:=by intro a;have:=(h 46 a).1;exact absurd this dc
theorem JP(F k C R S:Nat):Lib.splitK [46] 0 3 (fN F k C R S)=[aK F,cE C (bm k),cE R (bO k),aK S]:=by unfold fN;rw[yM 2 _ _ _ (sa (nZ F)),yM 1 _ _ _ (sa (pV _ _)),yM 0 _ _ _ (sa (pV _ _))];rfl
theorem BT:∀{a b:List ByteArray},a.map (·.1.toList)=b.map (·.1.toList)->a=b
 |[],[],_=>rfl
 |[],_::_,h=>by simp at h
 |_::_,[],h=>by simp at h
 |x::a,y::b,h=>by simp only[List.map_cons,List.cons.injEq]at h;rw[nX h.1,BT h.2]
theorem Lc(F k C R S:Nat):fI ⟨(fN F k C R S).toArray⟩=mu F k C R S:=by
 apply BT;unfold fI;rw[Lib.splitB_data];have a:3<=(fN F k C R S).length:=by simp only[fN,bU,eF];omega
 have e:min 4 ((⟨(fN F k C R S).toArray⟩:ByteArray).size+1)-1=3:=by show min 4 ((fN F k C R S).toArray.size+1)-1=3;rw[List.size_toArray];omega
 rw[e];show Lib.splitK [46] 0 3 (fN F k C R S)=_;rw[JP];simp[mu]
def mX:Nat->List UInt8|0=>[105,116,101,109]|1=>[99,97,115,101]|_=>[112,97,108,108,101,116]
theorem zY(j:Nat):(dJ j).1.toList=mX j:=by
 match j with
 |0|1=>rfl
 |_+2=>rfl
theorem zv(j:Nat):(58:UInt8)∉mX j:=by unfold mX;split<;>decide
theorem rW(j F k C R S:Nat):(gw j F k C R S).1.toList=mX j++58::fN F k C R S:=by unfold gw;simp[ByteArray.data_append,zY]
theorem JO(j F k C R S:Nat):sM (gw j F k C R S)=dJ j:=by apply nX;unfold sM;rw[rW,Ec _ _ _ (zv j),zY]
theorem JN(j F k C R S:Nat):fY (gw j F k C R S)=⟨(fN F k C R S).toArray⟩:=by apply nX;unfold fY;rw[rW,Ec _ _ _ (zv j)]
theorem La{j:Nat}(h:j<3):py (dJ j)=j+1:=by
 match j,h with
 |0,_|1,_|2,_=>decide
 |_+3,h=>omega
theorem CL{n:Nat}(h:n<1000000000000000000):iv ⟨(aK n).toArray⟩=O (n:Int):=by unfold iv;rw[show (⟨(aK n).toArray⟩:ByteArray).1.toList=aK n by simp,yV (nZ n) (uk n) (ue n) h]
theorem CM{n d:Nat}(h:n<1000000000000000000):iv ⟨(cE n d).toArray⟩=O (n:Int):=by unfold iv;rw[show (⟨(cE n d).toArray⟩:ByteArray).1.toList=cE n d by simp,yV (pV n d) (zZ n d) (zw n d) h]
theorem Ed{j F k C R S:Nat}(c:cF ((j+1:Nat):Int) F k C R S=true):
  jV (gw j F k C R S)=Ψ #[.agg #[I Q ((j+1:Nat):Int),I Q F,I Q k,I Q C,I Q R,I Q S],.nilIface]:=by
 obtain⟨y,z,A,x,D,f,p⟩:=qF c;have b:=lH k;have d:=lI k;have q:(aK C).length<=bm k:=iu f b.1;have n:C<1000000000000000000:=bg f (aP (jI om b.2) dc);have v:R<1000000000000000000:=bg p (aP (jI om d.2) dc);have a:fI (fY (gw j F k C R S))=mu F k C R S:=by rw[JN,Lc]
 have g:((mu F k C R S)[0]?.bind iv)=O (F:Int):=CL om;have i:((mu F k C R S)[1]?.bind iv)=O (C:Int):=CM n;have h:((mu F k C R S)[2]?.bind iv)=O (R:Int):=CM v;have e:((mu F k C R S)[3]?.bind iv)=O (S:Int):=CL om;have u:sw (gw j F k C R S)=true:=by unfold sw;rw[a,g,i,h,e];rfl
 have r:ll (gw j F k C R S)=((j+1:Nat):Int):=by unfold ll;rw[JO,La om]
 have s:lj (gw j F k C R S)=F:=by unfold lj eW;rw[a,g];rfl
 have t:lm (gw j F k C R S)=k:=by
  unfold lm;rw[a];show 6-(((cE C (bm k)).toArray.size:Nat):Int)=k;rw[List.size_toArray,nY q]
  have:bm k+k=6:=by
   match k,x with
  |0,_|1,_|2,_|3,_|4,_|5,_=>rfl
  omega
 have m:lh (gw j F k C R S)=C:=by unfold lh eW;rw[a,i];rfl
 have w:ln (gw j F k C R S)=R:=by unfold ln eW;rw[a,h];rfl
 have l:lp (gw j F k C R S)=S:=by unfold lp eW;rw[a,e];rfl
 have o:fR ((j+1:Nat):Int) F k C R S=gw j F k C R S:=by unfold fR;simp only[ir];rfl
 unfold jV;rw[r,s,t,m,w,l,o,u,c];simp
theorem Lb(s:ByteArray):(∃j F k C R S:Nat,cF ((j+1:Nat):Int) F k C R S=true/\gw j F k C R S=s/\jV s=Ψ #[.agg #[I Q ((j+1:Nat):Int),I Q F,I Q k,I Q C,I Q R,I Q S],.nilIface])
  \/ ((∀j F k C R S:Nat,cF ((j+1:Nat):Int) F k C R S=true->gw j F k C R S≠s)/\jV s=Ψ #[cJ,.iface 57 (I Q 4)]):=by
 by_cases h:∃j F k C R S:Nat,cF ((j+1:Nat):Int) F k C R S=true/\gw j F k C R S=s
 ·obtain⟨j,F,k,C,R,S,a,rfl⟩:=h;exact af ⟨j,F,k,C,R,S,a,rfl,Ed a⟩
 refine ah ⟨λj F k C R S a e=>h ⟨j,F,k,C,R,S,a,e⟩,?_⟩;unfold jV;rw[ag];intro d;simp only[jo,kO]at d;obtain⟨_,a,b⟩:=d;obtain⟨j,f,p,c,r,t,l,m,n,i,o,g⟩:=mL a;rw[l,m,n,i,o,g]at a b;refine h ⟨j,f,p,c,r,t,a,?_⟩;unfold fR at b;simp only[ir]at b;exact b
end
section
open Go.RowKit
open Go.Sort (grow)
def Fe:Value->Nat
 |Z s=>s.size
 |_=>0
theorem CO(l:List UInt8):Fe (Z ⟨l.toArray⟩)=l.length:=by show l.toArray.size=_;simp
theorem tW(n d:Nat)(w:Ω)(f:n<9223372036854775808)(v:d<=6):
  Φ prog 58 #[I Q n,I Q d] w λe j=>e=N (Z ⟨(cE n d).toArray⟩)/\B w.1.size w j:=by
 have l:H _:=f;have r:H _:=CK f;clear f;go_enter func58,ntmps58;go_wp2_with fail;refine(jM n _ l.o).m ?_;rintro e u ⟨rfl,a⟩;have q:H _:=a;clear a;go_wp2;go_loop [5] (λb=>∃c:Nat,b=Z ⟨(kD c++aK n).toArray⟩/\(c=0\/c+(aK n).length<=d)) (λb=>d-Fe b)
 case atStart=>exact⟨0,rfl,af rfl⟩
 obtain⟨c,rfl,g⟩:=hrel;have s:(kD c).length=c:=by simp[kD]
 have i:H _:=g;have t:=r.o;have k:c+(aK n).length<=30:=om;clear g;by_cases p:c+(aK n).length<d
 ·have h:H (({ data:=#[48] }++{ data:=(kD c++aK n).toArray }:ByteArray)=⟨(kD (c+1)++aK n).toArray⟩):=nX (by simp[kD,List.replicate_succ]);go_wp2;go_round
  case rel=>refine⟨c+1,congrArg Z h.o,ah om⟩
  rw[h.o,CO,CO];simp[kD];omega
 go_wp2;go_ret;refine⟨vt ?_,q.o⟩;unfold cE;rw[show c=d-(aK n).length by have:=i.o;omega]
theorem A2{w a:Ω}{K F P C R S:Int}{k:Nat}(d:B (w.alloc (Δ #[I Q K,I Q F,I Q P,I Q C,I Q R,I Q S] 94)).1.size (w.alloc (Δ #[I Q K,I Q F,I Q P,I Q C,I Q R,I Q S] 94)) a){W:Ω}
  (h:W=a.alloc (Δ #[I Q (bi k),I Q (bm k),I Q (bq k),I Q (bO k)] 31)):
  B w.1.size w W/\W.cell? ⟨w.1.size,1,J⟩=O (I Q F)/\W.cell? ⟨w.1.size,3,J⟩=O (I Q C)/\W.cell? ⟨w.1.size,4,J⟩=O (I Q R)/\W.cell? ⟨w.1.size,5,J⟩=O (I Q S)/\W.cell? ⟨a.1.size,1,J⟩=O (I Q (bm k))/\W.cell? ⟨a.1.size,3,J⟩=O (I Q (bO k)):=by
 subst h;obtain⟨g,c,o,f,n,j,e,i⟩:=eM d;have b:=(aj a.1.size a).l nl (Δ #[I Q (bi k),I Q (bm k),I Q (bq k),I Q (bO k)] 31);exact⟨c.t (b.m (gv g)),aH b f,aH b j,aH b e,aH b i,by go_simp,by go_simp⟩
theorem JQ(F k C R S:Nat)(w:Ω)(hk:k<6)(hF:F<=7)(j:C<9223372036854775808)(l:R<9223372036854775808)(hS:S<=16777215)(p:(aK C).length<=bm k)(r:(aK R).length<=bO k):
  Φ prog 34 #[.agg #[I Q 1,I Q F,I Q k,I Q C,I Q R,I Q S]] w λe D=>e=N (Z (gw 0 F k C R S))/\B w.1.size w D:=by
 have V:H (gw 0 F k C R S=⟨#[105,116,101,109]⟩++⟨#[58]⟩++⟨(aK F).toArray⟩++⟨#[46]⟩++⟨(cE C (bm k)).toArray⟩++⟨#[46]⟩++⟨(cE R (bO k)).toArray⟩++⟨#[46]⟩++⟨(aK S).toArray⟩):=nX (by rw[rW];simp[mX,fN]);have X:H _:=j;have y:H _:=l;have l1:=iu (n:=F) (d:=1) om om;have l2:=iu (n:=S) (d:=8) om om;have l3:(cE C (bm k)).length<=6:=by rw[nY p];exact(lH k).2
 have l4:(cE R (bO k)).length<=6:=by rw[nY r];exact(lI k).2
 have s:=lH k;have v:=lI k;have n2:¬9223372036854775807<5+(aK F).length:=om;have n3:¬9223372036854775807<5+(aK F).length+1:=om;have n4:¬9223372036854775807<5+(aK F).length+1+(cE C (bm k)).length:=om;have n5:¬9223372036854775807<5+(aK F).length+1+(cE C (bm k)).length+1:=om;have n6:¬9223372036854775807<5+(aK F).length+1+(cE C (bm k)).length+1+(cE R (bO k)).length:=om;have n7:¬9223372036854775807<5+(aK F).length+1+(cE C (bm k)).length+1+(cE R (bO k)).length+1:=om;have n8:¬9223372036854775807<5+(aK F).length+1+(cE C (bm k)).length+1+(cE R (bO k)).length+1+(aK S).length:=om;clear j l p r;go_enter func34,ntmps34;go_wp2_with fail;refine(kW k _ hk).m ?_;rintro e U ⟨rfl,a⟩;have g:=A2 (k:=k) a rfl;obtain⟨s1,i,x,G,d2,d3,z,T⟩:=eM a;clear a i;go_upto_region 7 with fail
 clear x G d2 d3 z T;generalize U.alloc (Δ #[I Q (bi k),I Q (bm k),I Q (bq k),I Q (bO k)] 31)=W at *;obtain⟨c,L,E,K,u,A,c7⟩:=g;have q:H _:=c;clear c;have k1:=cell_regrown L;have k3:=cell_regrown E;have k4:=cell_regrown K;have k5:=cell_regrown u;have k6:=cell_regrown A;have k7:=cell_regrown c7;refine wp_region_quiet_below kr kr ?_
 repeat (go_big_quiet_step (first|with_reducible exact Calls.regrown_of (jM F _ om)|with_reducible exact Calls.regrown_of (tW C (bm k) _ X.o om)|with_reducible exact Calls.regrown_of (tW R (bO k) _ y.o om)|with_reducible exact Calls.regrown_of (jM S _ om)))
 refine gq ?_;intro _ h;obtain⟨⟨P,f⟩,b⟩:=h;subst b;go_wp2;go_ret;refine⟨vt ?_,q.o.t ((below_regrown W P f).m q.o.size)⟩;rw[V.o]
theorem JR(F k C R S:Nat)(w:Ω)(hk:k<6)(hF:F<=7)(j:C<9223372036854775808)(l:R<9223372036854775808)(hS:S<=16777215)(p:(aK C).length<=bm k)(r:(aK R).length<=bO k):
  Φ prog 34 #[.agg #[I Q 2,I Q F,I Q k,I Q C,I Q R,I Q S]] w λe D=>e=N (Z (gw 1 F k C R S))/\B w.1.size w D:=by
 have V:H (gw 1 F k C R S=⟨#[99,97,115,101]⟩++⟨#[58]⟩++⟨(aK F).toArray⟩++⟨#[46]⟩++⟨(cE C (bm k)).toArray⟩++⟨#[46]⟩++⟨(cE R (bO k)).toArray⟩++⟨#[46]⟩++⟨(aK S).toArray⟩):=nX (by rw[rW];simp[mX,fN]);have X:H _:=j;have y:H _:=l;have l1:=iu (n:=F) (d:=1) om om;have l2:=iu (n:=S) (d:=8) om om;have l3:(cE C (bm k)).length<=6:=by rw[nY p];exact(lH k).2
 have l4:(cE R (bO k)).length<=6:=by rw[nY r];exact(lI k).2
 have s:=lH k;have v:=lI k;have n2:¬9223372036854775807<5+(aK F).length:=om;have n3:¬9223372036854775807<5+(aK F).length+1:=om;have n4:¬9223372036854775807<5+(aK F).length+1+(cE C (bm k)).length:=om;have n5:¬9223372036854775807<5+(aK F).length+1+(cE C (bm k)).length+1:=om;have n6:¬9223372036854775807<5+(aK F).length+1+(cE C (bm k)).length+1+(cE R (bO k)).length:=om;have n7:¬9223372036854775807<5+(aK F).length+1+(cE C (bm k)).length+1+(cE R (bO k)).length+1:=om;have n8:¬9223372036854775807<5+(aK F).length+1+(cE C (bm k)).length+1+(cE R (bO k)).length+1+(aK S).length:=om;clear j l p r;go_enter func34,ntmps34;go_wp2_with fail;refine(kW k _ hk).m ?_;rintro e U ⟨rfl,a⟩;have g:=A2 (k:=k) a rfl;obtain⟨s1,i,x,G,d2,d3,z,T⟩:=eM a;clear a i;go_upto_region 7 with fail
 clear x G d2 d3 z T;generalize U.alloc (Δ #[I Q (bi k),I Q (bm k),I Q (bq k),I Q (bO k)] 31)=W at *;obtain⟨c,L,E,K,u,A,c7⟩:=g;have q:H _:=c;clear c;have k1:=cell_regrown L;have k3:=cell_regrown E;have k4:=cell_regrown K;have k5:=cell_regrown u;have k6:=cell_regrown A;have k7:=cell_regrown c7;refine wp_region_quiet_below kr kr ?_
 repeat (go_big_quiet_step (first|with_reducible exact Calls.regrown_of (jM F _ om)|with_reducible exact Calls.regrown_of (tW C (bm k) _ X.o om)|with_reducible exact Calls.regrown_of (tW R (bO k) _ y.o om)|with_reducible exact Calls.regrown_of (jM S _ om)))
 refine gq ?_;intro _ h;obtain⟨⟨P,f⟩,b⟩:=h;subst b;go_wp2;go_ret;refine⟨vt ?_,q.o.t ((below_regrown W P f).m q.o.size)⟩;rw[V.o]
theorem JS(F k C R S:Nat)(w:Ω)(hk:k<6)(hF:F<=7)(j:C<9223372036854775808)(l:R<9223372036854775808)(hS:S<=16777215)(p:(aK C).length<=bm k)(r:(aK R).length<=bO k):
  Φ prog 34 #[.agg #[I Q 3,I Q F,I Q k,I Q C,I Q R,I Q S]] w λe D=>e=N (Z (gw 2 F k C R S))/\B w.1.size w D:=by
 have V:H (gw 2 F k C R S=⟨#[112,97,108,108,101,116]⟩++⟨#[58]⟩++⟨(aK F).toArray⟩++⟨#[46]⟩++⟨(cE C (bm k)).toArray⟩++⟨#[46]⟩++⟨(cE R (bO k)).toArray⟩++⟨#[46]⟩++⟨(aK S).toArray⟩):=nX (by rw[rW];simp[mX,fN]);have X:H _:=j;have y:H _:=l;have l1:=iu (n:=F) (d:=1) om om;have l2:=iu (n:=S) (d:=8) om om;have l3:(cE C (bm k)).length<=6:=by rw[nY p];exact(lH k).2
 have l4:(cE R (bO k)).length<=6:=by rw[nY r];exact(lI k).2
 have s:=lH k;have v:=lI k;have n2:¬9223372036854775807<7+(aK F).length:=om;have n3:¬9223372036854775807<7+(aK F).length+1:=om;have n4:¬9223372036854775807<7+(aK F).length+1+(cE C (bm k)).length:=om;have n5:¬9223372036854775807<7+(aK F).length+1+(cE C (bm k)).length+1:=om;have n6:¬9223372036854775807<7+(aK F).length+1+(cE C (bm k)).length+1+(cE R (bO k)).length:=om;have n7:¬9223372036854775807<7+(aK F).length+1+(cE C (bm k)).length+1+(cE R (bO k)).length+1:=om;have n8:¬9223372036854775807<7+(aK F).length+1+(cE C (bm k)).length+1+(cE R (bO k)).length+1+(aK S).length:=om;clear j l p r;go_enter func34,ntmps34;go_wp2_with fail;refine(kW k _ hk).m ?_;rintro e U ⟨rfl,a⟩;have g:=A2 (k:=k) a rfl;obtain⟨s1,i,x,G,d2,d3,z,T⟩:=eM a;clear a i;go_upto_region 7 with fail
 clear x G d2 d3 z T;generalize U.alloc (Δ #[I Q (bi k),I Q (bm k),I Q (bq k),I Q (bO k)] 31)=W at *;obtain⟨c,L,E,K,u,A,c7⟩:=g;have q:H _:=c;clear c;have k1:=cell_regrown L;have k3:=cell_regrown E;have k4:=cell_regrown K;have k5:=cell_regrown u;have k6:=cell_regrown A;have k7:=cell_regrown c7;refine wp_region_quiet_below kr kr ?_
 repeat (go_big_quiet_step (first|with_reducible exact Calls.regrown_of (jM F _ om)|with_reducible exact Calls.regrown_of (tW C (bm k) _ X.o om)|with_reducible exact Calls.regrown_of (tW R (bO k) _ y.o om)|with_reducible exact Calls.regrown_of (jM S _ om)))
 refine gq ?_;intro _ h;obtain⟨⟨P,f⟩,b⟩:=h;subst b;go_wp2;go_ret;refine⟨vt ?_,q.o.t ((below_regrown W P f).m q.o.size)⟩;rw[V.o]
theorem wz(K F P C R S:Int)(w:Ω)(d:cF K F P C R S=true):
  Φ prog 34 #[.agg #[I Q K,I Q F,I Q P,I Q C,I Q R,I Q S]] w λe t=>e=N (Z (fR K F P C R S))/\B w.1.size w t:=by
 obtain⟨j,f,p,c,r,s,rfl,rfl,rfl,rfl,rfl,rfl⟩:=mL d;obtain⟨u,q,h,v,i,n,o⟩:=qF d;have a:=lH p;have b:=lI p;have k:(aK c).length<=bm p:=iu n a.1;have l:(aK r).length<=bO p:=iu o b.1;have g:c<9223372036854775808:=bg n (aP (jI om a.2) dc);have m:r<9223372036854775808:=bg o (aP (jI om b.2) dc)
 match j,q with
 |0,_=>exact JQ f p c r s w om h g m i k l
 |1,_=>exact JR f p c r s w om h g m i k l
 |2,_=>exact JS f p c r s w om h g m i k l
end
section
open Go.RowKit
theorem wY:∀(l:List UInt8) (c:UInt8) (acc:List (List UInt8)) (cur x:List UInt8),x∈cK c acc cur l->x∈acc\/x.length<=cur.length+l.length
 |[],c,acc,cur,x,h=>by
  rw[cK,dP,pP]at h;rcases h with h|rfl
  ·exact af h
  exact ah sm
 |a::r,c,acc,cur,x,h=>by
  rw[cK]at h;split at h
  ·rcases wY r c _ _ x h with h|h
   ·rw[dP,pP]at h;rcases h with h|rfl
    ·exact af h
    exact ah om
   exact ah (by simp only[mH,eF]at *;omega)
  rcases wY r c _ _ x h with h|h
  ·exact af h
  exact ah (by simp only[bU,mH,eF]at *;omega)
theorem yW:∀(p:List UInt8) (c:UInt8) (acc:List (List UInt8)) (cur r:List UInt8),c∉p->cK c acc cur (p++r)=cK c acc (cur++p) r
 |[],c,acc,cur,r,_=>by rw[j9,List.append_nil]
 |a::p,c,acc,cur,r,h=>by rw[jN,not_or]at h;rw[ni,cK,ag (λe=>h.1 e.symm),yW p c acc _ r h.2,lY,List.singleton_append]
theorem Dv(p:List UInt8)(c:UInt8)(a:List (List UInt8))(h:c∉p):cK c a [] p=a++[p]:=by have:=yW p c a [] [] h;rw[List.append_nil,j9]at this;rw[this];rfl
theorem wX(p r:List UInt8)(c:UInt8)(a:List (List UInt8))(h:c∉p):cK c a [] (p++c::r)=cK c (a++[p]) [] r:=by rw[yW p c a [] _ h,cK,ak rfl,j9]
theorem wD{l:List UInt8}(h:sN l):(58:UInt8)∉l:=by intro a;have:=(h _ a).2;exact absurd this dc
theorem Le(F k C R S:Nat):(58:UInt8)∉fN F k C R S:=by unfold fN;simp only[dP,jN,not_or];exact⟨wD (nZ F),dc,wD (pV _ _),dc,wD (pV _ _),dc,wD (nZ S)⟩
theorem zx(j F k C R S:Nat):cK 58 [] [] (gw j F k C R S).1.toList=[mX j,fN F k C R S]:=by rw[rW,wX _ _ _ _ (zv j),Dv _ _ _ (Le F k C R S)];rfl
theorem Fg(F k C R S:Nat):cK 46 [] [] (fN F k C R S)=[aK F,cE C (bm k),cE R (bO k),aK S]:=by unfold fN;rw[wX _ _ _ _ (sa (nZ F)),wX _ _ _ _ (sa (pV _ _)),wX _ _ _ _ (sa (pV _ _)),Dv _ _ _ (sa (nZ S))];rfl
def jQ(s:ByteArray):Prop:=∀K F P C R S:Int,cF K F P C R S=true->fR K F P C R S≠s
theorem I7{s:ByteArray}(h:(cK 58 [] [] s.1.toList).length≠2):jQ s:=by rintro K F P C R S-rfl;unfold fR at h;rw[zx]at h;exact h rfl
theorem IF{s:ByteArray}{x y:List UInt8}(a:cK 58 [] [] s.1.toList=[x,y])(h:(cK 46 [] [] y).length≠4):jQ s:=by rintro K F P C R S-rfl;unfold fR at a;rw[zx]at a;injection a with _ a;injection a with a _;rw[<-a,Fg]at h;exact h rfl
theorem Cq{s:ByteArray}{x y a b c d:List UInt8}(f:cK 58 [] [] s.1.toList=[x,y])(e:cK 46 [] [] y=[a,b,c,d]){K F P C R S:Int}(g:cF K F P C R S=true)(o:fR K F P C R S=s):
  jw ⟨a.toArray⟩=Ψ #[I Q F,.bool true]/\jw ⟨b.toArray⟩=Ψ #[I Q C,.bool true]/\jw ⟨c.toArray⟩=Ψ #[I Q R,.bool true]/\jw ⟨d.toArray⟩=Ψ #[I Q S,.bool true]:=by
 obtain⟨j,F,k,C,R,S,rfl,rfl,rfl,rfl,rfl,rfl⟩:=mL g;obtain⟨t,u,v,z,w,m,p⟩:=qF g;subst o;unfold fR at f;rw[zx]at f;injection f with _ f;injection f with f _;rw[<-f,Fg]at e;injection e with e1 e;injection e with e2 e;injection e with e3 e;injection e with e4 _;simp only[ir]at e1 e2 e3 e4;subst e1 e2 e3 e4;have h:=lH k;have i:=lI k;have n:(aK F).length<=9:=aP (iu (d:=1) om om) om;have l:(aK S).length<=9:=aP (iu (d:=8) om om) om;have q:(cE C (bm k)).length<=9:=by rw[nY (iu m h.1)];omega
 have r:(cE R (bO k)).length<=9:=by rw[nY (iu p i.1)];omega
 exact⟨tQ (nZ _) (uk _) (ue _) n,tQ (pV _ _) (zZ _ _) (zw _ _) q,tQ (pV _ _) (zZ _ _) (zw _ _) r,tQ (nZ _) (uk _) (ue _) l⟩
theorem rd{n m:Int}{a b:Bool}{v:Value}(h:v=Ψ #[I Q n,.bool a])(c:v=Ψ #[I Q m,.bool b]):n=m/\a=b:=by rw[h]at c;simp at c;exact c
def PJ(s:ByteArray)(e:Ending):Prop:=
 (∃K F P C R S:Int,cF K F P C R S=true/\fR K F P C R S=s/\e=N (Ψ #[.agg #[I Q K,I Q F,I Q P,I Q C,I Q R,I Q S],.bool true]))
 \/ (jQ s/\e=N (Ψ #[cJ,.bool false]))
theorem BQ{V:Ω}{b:Nat}{v:Value}{l:List (List UInt8)}(h:qm V b v l)(k:1<=l.length):∃g c,v=M (O ⟨g,0,J⟩) l.length c/\b<=g/\g<V.1.size/\∀j x,l[j]?=O x->V.cell? ⟨g,j,J⟩=O (Z ⟨x.toArray⟩):=by
 obtain⟨g,c,rfl,d,f⟩:=h.a.form om;refine⟨g,c,rfl,d,f,λj x i=>?_⟩;have:=h.a.cells (g:=g) rfl j (Z ⟨x.toArray⟩) (by unfold sL;rw[eE,i];rfl);have e:(⟨g,0,J⟩:Addr).add j=⟨g,j,J⟩:=by unfold Addr.add;split<;>simp_all
 rw[<-e];exact this
theorem wZ:∀(l:List UInt8) (c:UInt8) (acc:List (List UInt8)) (cur:List UInt8),1<=(cK c acc cur l).length
 |[],c,acc,cur=>by rw[cK,bU];simp
 |a::r,c,acc,cur=>by
  rw[cK];split
  ·exact wZ r c _ _
  exact wZ r c _ _
theorem Lf{l:List (List UInt8)}(h:l.length=2):∃x y,l=[x,y]:=by
 match l,h with
 |[x,y],_=>exact⟨x,y,rfl⟩
theorem JT{l:List (List UInt8)}(h:l.length=4):∃a b c d,l=[a,b,c,d]:=by
 match l,h with
 |[a,b,c,d],_=>exact⟨a,b,c,d,rfl⟩
end
section
open Go.RowKit
structure vQ (V:Ω) (r:Nat) (z:Nat->Nat):Prop where
 a:V.rowIs r 31 4 (λj=>I Q (z j:Nat))
 b:∀j,z j<1000000000
theorem vQ.c(w:Ω):vQ (w.alloc (Δ #[I Q 0,I Q 0,I Q 0,I Q 0] 31)) w.1.size (λ_=>0):=by
 refine⟨World.rowIs_alloc w #[I Q 0,I Q 0,I Q 0,I Q 0] 31 _ ?_,λ_=>by decide⟩;intro i a
 match i,a with
 |0,_|1,_|2,_|3,_=>rfl
theorem vQ.d{V:Ω}{r:Nat}{z:Nat->Nat}(h:vQ V r z)(k n:Nat)(c:n<1000000000):vQ (V.setCell ⟨r,k,J⟩ (I Q (n:Nat))) r (λj=>if j=k then n else z j):=by
 refine⟨(h.a.set k (I Q (n:Nat))).congr ?_,?_⟩
 ·intro i _;by_cases e:i=k
  ·rw[ak e];show _=I Q ((if i=k then n else z i:Nat):Int);rw[ak e]
  rw[ag e];show _=I Q ((if i=k then n else z i:Nat):Int);rw[ag e]
 intro j;show (if j=k then n else z j)<_;split
 ·exact c
 exact h.b j
theorem CQ(K F P C R S:Int)(w:Ω)(b:C<=9223372036854775807)(d:R<=9223372036854775807)(a:cF K F P C R S=true):
  Φ prog 57 #[.agg #[I Q K,I Q F,I Q P,I Q C,I Q R,I Q S]] w λe c=>e=N (I Q 0)/\B w.1.size w c:=by
 have:=yU K F P C R S w b d;unfold oh at this;rw[ak a]at this;exact this
theorem Lg(K F P C R S:Int)(w:Ω)(b:C<=9223372036854775807)(d:R<=9223372036854775807)(a:cF K F P C R S=false):
  Φ prog 57 #[.agg #[I Q K,I Q F,I Q P,I Q C,I Q R,I Q S]] w λe c=>e=N (I Q 1)/\B w.1.size w c:=by
 have:=yU K F P C R S w b d;unfold oh at this;rw[ag (by simp[a])]at this;exact this
def uJ(s:ByteArray)(z0 z1 z2 z3 k p:Nat):Prop:=cF k z0 p z1 z2 z3=true/\fR k z0 p z1 z2 z3=s
theorem TC{W:Ω}{a b c d e f:Value}{t:TypeId}{X:Ω}(g:X=W.alloc (Δ #[a,b,c,d,e,f] t)):B W.1.size W X/\W.1.size<X.1.size/\X.cell? ⟨W.1.size,0,J⟩=O a/\X.cell? ⟨W.1.size,1,J⟩=O b/\X.cell? ⟨W.1.size,2,J⟩=O c/\X.cell? ⟨W.1.size,3,J⟩=O d/\X.cell? ⟨W.1.size,4,J⟩=O e/\X.cell? ⟨W.1.size,5,J⟩=O f:=by subst g;exact⟨ba,by simp,by go_simp,by go_simp,by go_simp,by go_simp,by go_simp,by go_simp⟩
theorem B9(s:ByteArray)(w:Ω)(hs:s.size<=300):
  Φ prog 36 #[Z s] w λe w'=>PJ s e/\B w.1.size w w':=by
 obtain⟨L1,hL1⟩:∃L,L=cK 58 [] [] s.1.toList:=⟨_,rfl⟩;have a7:H (L1=cK 58 [] [] s.1.toList):=hL1;clear hL1;go_enter func36,ntmps36;go_wp2_with fail;refine(tL s 58 _ hs).m ?_;rintro e w1 ⟨v1,rfl,hT1,hb1⟩;have A:=vP hb1;have HB:H (B w.1.size w w1):=(eM hb1).2.1;have s1:=(eM hb1).1;rw[<-a7.o]at hT1;obtain⟨g1,cap1,rfl,-,hg1,hc1⟩:=BQ hT1 (by rw[a7.o];exact wZ _ _ _ _);have HZ:H (∀j:Nat,j<6->w1.cell? ⟨w.1.size,j,J⟩=O (I Q 0)/\w1.frozen? ⟨w.1.size,j,J⟩=false):=A;by_cases hl:L1.length=2
 case neg=>
  have hlI:¬(L1.length:Int)=2:=om;have hlB:((L1.length:Int) == 2)=false:=by simpa using hlI
  obtain⟨a0,b0⟩:=HZ.o 0 om;obtain⟨a1,b1⟩:=HZ.o 1 om;obtain⟨a2,b2⟩:=HZ.o 2 om;obtain⟨a3,b3⟩:=HZ.o 3 om;obtain⟨a4,b4⟩:=HZ.o 4 om;obtain⟨a5,b5⟩:=HZ.o 5 om;have a6:=hid (I7 (by rw[<-a7.o];exact hl));go_wp2;refine bK (v:=Ψ #[cJ,.bool false]) (by simp[results,results36,go_sem,cJ,a0,a1,a2,a3,a4,a5]) rfl ⟨ah ⟨a6.o,rfl⟩,?_⟩;exact(((((HB.o.c nl _).c nl _).c nl _).c nl _).c nl _).c nl _
 obtain⟨x,y,rfl⟩:=Lf hl;have hy1:=hc1 1 y rfl
 have hylen:y.length<=300:=by
  rcases wY s.1.toList 58 [] [] y (by rw[<-a7.o];simp) with h|h
  ·simp at h
  have:s.1.toList.length=s.size:=(by simp);simp only[mH]at h;omega
 have hysz:(⟨y.toArray⟩:ByteArray).size<=300:=by show y.toArray.size<=300;simpa using hylen
 obtain⟨L2,hL2⟩:∃L,L=cK 46 [] [] y:=⟨_,rfl⟩;have ad:=hid hL2;clear hL2 hc1;go_wp2_with fail;refine(tL ⟨y.toArray⟩ 46 _ hysz).m ?_;rintro e w2 ⟨v2,rfl,hT2,hb2⟩;have hyy:(⟨y.toArray⟩:ByteArray).1.toList=y:=by simp
 rw[hyy,<-ad.o]at hT2;obtain⟨g2,cap2,rfl,-,hg2,hc2⟩:=BQ hT2 (by rw[ad.o];exact wZ _ _ _ _);have T:H (∀j:Nat,j<6->w2.cell? ⟨w.1.size,j,J⟩=O (I Q 0)/\w2.frozen? ⟨w.1.size,j,J⟩=false):=ru HZ.o hb2;have HB2:H (B w.1.size w w2):=HB.o.t (hb2.m (gv s1));have s2:w.1.size<w2.1.size:=bg s1 hb2.size;by_cases hl2:L2.length=4
 case neg=>
  have hlI:¬(L2.length:Int)=4:=om;have hlB:((L2.length:Int) == 4)=false:=by simpa using hlI
  obtain⟨a0,b0⟩:=T.o 0 om;obtain⟨a1,b1⟩:=T.o 1 om;obtain⟨a2,b2⟩:=T.o 2 om;obtain⟨a3,b3⟩:=T.o 3 om;obtain⟨a4,b4⟩:=T.o 4 om;obtain⟨a5,b5⟩:=T.o 5 om;have a6:=hid (IF a7.o.symm (by rw[<-ad.o];exact hl2));go_wp2;refine bK (v:=Ψ #[cJ,.bool false]) (by simp[results,results36,go_sem,cJ,a0,a1,a2,a3,a4,a5]) rfl ⟨ah ⟨a6.o,rfl⟩,?_⟩;exact(((((HB2.o.c nl _).c nl _).c nl _).c nl _).c nl _).c nl _
 obtain⟨a,b,c,d,rfl⟩:=JT hl2
 have hmem:∀z∈[a,b,c,d],(⟨z.toArray⟩:ByteArray).size<=300:=by
  intro z A;rcases wY y 46 [] [] z (by rw[<-ad.o];exact A) with h|h
  ·simp at h
  show z.toArray.size<=300;simp only[mH]at h;simp;omega
 have HM:=hid hmem;have HC2:=hid hc2;go_wp2;go_loopw [7,8,9] (λi _ _ V=>∃(k:Nat) (z:Nat->Nat),k<=4/\i=I Q k/\vQ V w2.1.size z/\(∀j,j<k->∀x,[a,b,c,d][j]?=O x->jw ⟨x.toArray⟩=Ψ #[I Q (z j:Nat),.bool true])/\B w2.1.size w2 V) (λi _ _ _=>4-(intOf i).toNat)
 case atStart=>exact⟨0,λ_=>0,om,rfl,vQ.c _,λj hj=>absurd hj om,ba⟩
 obtain⟨k,z,hk,rfl,A,hfig,q⟩:=hrel;have HA:=hid A;have HF:=hid hfig;have a8:=hid q;have D:=hid (ru T.o q);have HB3:=hid (HB2.o.t (q.m (gv s2)));have s3:=A.a.lt;by_cases hlt:k<4
 case pos=>
  obtain⟨x,E⟩:∃x,[a,b,c,d][k]?=O x:=⟨_,bc (by simpa using hlt)⟩;have hcell:=(a8.o.cell (by exact hg2)).trans (HC2.o k x E);have hxs:=HM.o x (iW E);have HX:=hid E;go_wp2_with fail;refine(pS ⟨x.toArray⟩ _ hxs).m ?_;obtain⟨n,bb,hn,hv⟩:=zW ⟨x.toArray⟩;have HV:=hid hv;rw[hv];rintro e w3 ⟨rfl,rfl⟩;cases bb with
 |false=>
   obtain⟨a0,b0⟩:=D.o 0 om;obtain⟨a1,b1⟩:=D.o 1 om;obtain⟨a2,b2⟩:=D.o 2 om;obtain⟨a3,b3⟩:=D.o 3 om;obtain⟨a4,b4⟩:=D.o 4 om;obtain⟨a5,b5⟩:=D.o 5 om
   have a6:H (jQ s):=by
    show jQ s;intro K F P C R S u ht;obtain⟨f1,f2,f3,f4⟩:=Cq a7.o.symm ad.o.symm u ht;have E:=HX.o;have hv:=HV.o
    match k,hlt,E with
   |0,_,E=>simp at E;subst E;exact absurd (rd f1 hv).2 dc
   |1,_,E=>simp at E;subst E;exact absurd (rd f2 hv).2 dc
   |2,_,E=>simp at E;subst E;exact absurd (rd f3 hv).2 dc
   |3,_,E=>simp at E;subst E;exact absurd (rd f4 hv).2 dc
   go_wp2
   try simp only[Exit.inBlock,Exit.then]
   refine bK (v:=Ψ #[cJ,.bool false]) (by simp[results,results36,go_sem,cJ,a0,a1,a2,a3,a4,a5]) rfl ⟨ah ⟨a6.o,rfl⟩,?_⟩;exact(((((HB3.o.c nl _).c nl _).c nl _).c nl _).c nl _).c nl _
 |true=>
   have hac:=HA.o.a.cell hlt;have haf:=HA.o.a.frozen k;go_wp2;go_roundw
   case rel=>
    refine⟨k+1,_,om,by go_num,HA.o.d k n hn,?_,a8.o.c nl _⟩;intro j hj x' an;by_cases e:j=k
    ·subst e;rw[HX.o]at an;injection an with an
     subst an;rw[ak rfl];exact HV.o
    rw[ag e];exact HF.o j om x' an
   simp[intOf];omega
 obtain rfl:k=4:=om;have q0:=HF.o 0 om a rfl;have q1:=HF.o 1 om b rfl;have q2:=HF.o 2 om c rfl;have q3:=HF.o 3 om d rfl;have HQ:H (∀K F P C R S:Int,cF K F P C R S=true->fR K F P C R S=s->F=(z 0:Nat)/\C=(z 1:Nat)/\R=(z 2:Nat)/\S=(z 3:Nat)):=(by show ∀K F P C R S:Int,cF K F P C R S=true->fR K F P C R S=s->F=(z 0:Nat)/\C=(z 1:Nat)/\R=(z 2:Nat)/\S=(z 3:Nat);intro K F P C R S u ht;obtain⟨f1,f2,f3,f4⟩:=Cq a7.o.symm ad.o.symm u ht;exact⟨(rd f1 q0).1,(rd f2 q1).1,(rd f3 q2).1,(rd f4 q3).1⟩);have c0:=HA.o.a.cell (i:=0) om;have c1:=HA.o.a.cell (i:=1) om;have c2:=HA.o.a.cell (i:=2) om;have c3:=HA.o.a.cell (i:=3) om;have n0:=HA.o.b 0;have n1:=HA.o.b 1;have n2:=HA.o.b 2;have n3:=HA.o.b 3;generalize z 0=z0 at *;generalize z 1=z1 at *;generalize z 2=z2 at *;generalize z 3=z3 at *;have HBW:=hid a8.o;generalize wr=W at *;have s4:w.1.size<W.1.size:=om;rw[show ((4:Nat):Int)=4 from rfl];go_wp2;go_loopw [10,11,12] (λK _ _ V=>∃k:Nat,1<=k/\k<=4/\K=I Q k/\B W.1.size W V/\∀k' G,1<=k'->k'<k->G<6->¬uJ s z0 z1 z2 z3 k' G) (λK _ _ _=>4-(intOf K).toNat)
 case atStart=>exact⟨1,om,om,rfl,aj _ _,λk' G h1 h2=>absurd h2 om⟩
 obtain⟨k,hk1,hk4,rfl,q,hno⟩:=hrel;by_cases hlt:k<4
 case neg=>
  obtain rfl:k=4:=om;have A:=ru D.o q;obtain⟨a0,b0⟩:=A 0 om;obtain⟨a1,b1⟩:=A 1 om;obtain⟨a2,b2⟩:=A 2 om;obtain⟨a3,b3⟩:=A 3 om;obtain⟨a4,b4⟩:=A 4 om;obtain⟨a5,b5⟩:=A 5 om;have HB4:=hid (HB3.o.t (q.m (gv s4)));have a6:H (jQ s):=(by show jQ s;intro K F P C R S u ht;obtain⟨rfl,rfl,rfl,rfl⟩:=HQ.o K F P C R S u ht;obtain⟨j,f,p,c',r,s',rfl,hf,rfl,hc',hr,hs'⟩:=mL u;obtain⟨o1,o2,o3,o4,-⟩:=qF u;exact hno (j+1) p o1 om om ⟨u,ht⟩);go_wp2
  try simp only[Exit.inBlock,Exit.then]
  refine bK (v:=Ψ #[cJ,.bool false]) (by simp[results,results36,go_sem,cJ,a0,a1,a2,a3,a4,a5]) rfl ⟨ah ⟨a6.o,rfl⟩,?_⟩;exact(((((HB4.o.c nl _).c nl _).c nl _).c nl _).c nl _).c nl _
 have HNO:=hid hno;have HBO:=hid q;generalize wr=Wo at *;have hk3:decide ((k:Int)<=3)=true:=(by simp;omega);go_wp2;go_loopw [11,12] (λP _ V=>∃p:Nat,p<=6/\P=I Q p/\B W.1.size W V/\∀G,G<p->¬uJ s z0 z1 z2 z3 k G) (λP _ _=>6-(intOf P).toNat)
 case atStart=>exact⟨0,om,rfl,HBO.o,λG h=>absurd h om⟩
 obtain⟨p,hp6,rfl,q,hnp⟩:=hrel;have HNP:=hid hnp;have a8:=hid q;have k0:=aH q c0;have k1:=aH q c1;have k2:=aH q c2;have k3:=aH q c3;by_cases hltp:p<6
 case neg=>
  obtain rfl:p=6:=om;go_wp2;go_roundw
  case rel=>
   refine⟨k+1,om,om,by go_num,a8.o,?_⟩;intro k' G h1 h2 h3;by_cases e:k'=k
   ·subst e;exact HNP.o G h3
   exact HNO.o k' G h1 om h3
  simp[intOf];omega
 have hX:=TC (W:=wr) (a:=I Q (k:Nat)) (b:=I Q (z0:Nat)) (c:=I Q (p:Nat)) (d:=I Q (z1:Nat)) (e:=I Q (z2:Nat)) (f:=I Q (z3:Nat)) (t:=94) rfl;go_upto_region 22 with fail
 generalize hXe:wr.alloc (Δ #[I Q (k:Nat),I Q (z0:Nat),I Q (p:Nat),I Q (z1:Nat),I Q (z2:Nat),I Q (z3:Nat)] 94)=X at *;obtain⟨hBX,hsX,e0,e1,e2,e3,e4,e5⟩:=hX;have am:=hid (a8.o.t (hBX.m a8.o.size));have y1:(z1:Int)<=9223372036854775807:=om;have y2:(z2:Int)<=9223372036854775807:=om;by_cases u:cF k z0 p z1 z2 z3=true
 case neg=>
  have HNH:H (¬uJ s z0 z1 z2 z3 k p):=λh=>u h.1;have U:H (cF k z0 p z1 z2 z3=false):=(by show _=_;simpa using u);go_wp2_with fail;refine(Lg k z0 p z1 z2 z3 _ y1 y2 U.o).m ?_;rintro e g ⟨rfl,l⟩;have ab:=hid (am.o.t (l.m am.o.size));go_wp2;go_roundw
  case rel=>
   refine⟨p+1,om,by go_num,ab.o,?_⟩;intro G h;by_cases e:G=p
   ·subst e;exact HNH.o
   exact HNP.o G om
  simp[intOf];omega
 have U:=hid u;by_cases hte:fR k z0 p z1 z2 z3=s
 case neg=>
  have HNH:H (¬uJ s z0 z1 z2 z3 k p):=λh=>hte h.2;have hse:=uW hte;go_wp2_with fail;refine(CQ k z0 p z1 z2 z3 _ y1 y2 U.o).m ?_;rintro e Y0 ⟨rfl,l⟩;have f0:=aH l e0;have f1:=aH l e1;have f2:=aH l e2;have f3:=aH l e3;have f4:=aH l e4;have f5:=aH l e5;have ao:=hid (am.o.t (l.m am.o.size));go_wp2_with fail;refine(wz k z0 p z1 z2 z3 _ U.o).m ?_;rintro e g ⟨rfl,l⟩;have e0:=aH l f0;have e1:=aH l f1;have e2:=aH l f2;have e3:=aH l f3;have e4:=aH l f4;have e5:=aH l f5;have ab:=hid (ao.o.t (l.m ao.o.size));go_wp2;go_roundw
  case rel=>
   refine⟨p+1,om,by go_num,ab.o,?_⟩;intro G h;by_cases e:G=p
   ·subst e;exact HNH.o
   exact HNP.o G om
  simp[intOf];omega
 have HTE:=hid hte;have hse:=vd hte;go_wp2_with fail;refine(CQ k z0 p z1 z2 z3 _ y1 y2 U.o).m ?_;rintro e Y0 ⟨rfl,l⟩;have f0:=aH l e0;have f1:=aH l e1;have f2:=aH l e2;have f3:=aH l e3;have f4:=aH l e4;have f5:=aH l e5;have ao:=hid (am.o.t (l.m am.o.size));go_wp2_with fail;refine(wz k z0 p z1 z2 z3 _ U.o).m ?_;rintro e g ⟨rfl,l⟩;have e0:=aH l f0;have e1:=aH l f1;have e2:=aH l f2;have e3:=aH l f3;have e4:=aH l f4;have e5:=aH l f5;have ab:=hid (ao.o.t (l.m ao.o.size));have A:=ru D.o ab.o;obtain⟨a0,b0⟩:=A 0 om;obtain⟨a1,b1⟩:=A 1 om;obtain⟨a2,b2⟩:=A 2 om;obtain⟨a3,b3⟩:=A 3 om;obtain⟨a4,b4⟩:=A 4 om;obtain⟨a5,b5⟩:=A 5 om;have HB5:=hid (HB3.o.t (ab.o.m (gv s4)));go_wp2
 try simp only[Exit.inBlock,Exit.then]
 refine bK (v:=Ψ #[.agg #[I Q (k:Nat),I Q (z0:Nat),I Q (p:Nat),I Q (z1:Nat),I Q (z2:Nat),I Q (z3:Nat)],.bool true]) (by simp[results,results36,go_sem,a0,a1,a2,a3,a4,a5]) rfl ⟨af ⟨_,_,_,_,_,_,U.o,HTE.o,rfl⟩,?_⟩;exact(((((HB5.o.c nl _).c nl _).c nl _).c nl _).c nl _).c nl _
end
section
open Go.RowKit
theorem Ca{j F k C R S:Nat}(a:cF ((j+1:Nat):Int) F k C R S=true):
  iJ (ld (ig (j+1) F k C R S))=Ψ #[.agg #[I Q ((j+1:Nat):Int),I Q F,I Q k,I Q C,I Q R,I Q S],.nilIface]:=by
 obtain⟨t,d,i,b,l,q,r⟩:=qF a;have c:C<2^bi k:=bg q (Bn b);have o:R<2^bq k:=bg r (Bo b);obtain⟨-,-,-,-,-,s⟩:=E9 d i b c o l;obtain⟨p,h,m,n,f,g⟩:=PH d i b c o l;unfold iJ;rw[KV s,p,h,m,n,f,g];have e:(((j+1+47:Nat):Int)-47)=((j+1:Nat):Int):=om;rw[e,ak ⟨zq _,by unfold jU;rw[p,h,m,n,f,g,e,a];simp;omega⟩];rfl
theorem IG(s:ByteArray):(∃j F k C R S:Nat,cF ((j+1:Nat):Int) F k C R S=true/\ld (ig (j+1) F k C R S)=s/\iJ s=Ψ #[.agg #[I Q ((j+1:Nat):Int),I Q F,I Q k,I Q C,I Q R,I Q S],.nilIface])
  \/ ((∀j F k C R S:Nat,cF ((j+1:Nat):Int) F k C R S=true->ld (ig (j+1) F k C R S)≠s)/\iJ s=Ψ #[cJ,.iface 57 (I Q 3)]):=by
 by_cases h:∃j F k C R S:Nat,cF ((j+1:Nat):Int) F k C R S=true/\ld (ig (j+1) F k C R S)=s
 ·obtain⟨j,F,k,C,R,S,a,rfl⟩:=h;exact af ⟨j,F,k,C,R,S,a,rfl,Ca a⟩
 refine ah ⟨λj F k C R S a e=>h ⟨j,F,k,C,R,S,a,e⟩,?_⟩;unfold iJ;rw[ag];rintro⟨b,a⟩;simp only[jU,jo]at a;obtain⟨j,f,p,c,r,t,i,-⟩:=mL a.2
 have g:bA s.1.toList<2^64:=by
  have:=xn s.1.toList
  rwa [show s.1.toList.length=8 by simpa using b]at this
 have d:iF (bA s.1.toList)=(j+1)+47:=om;refine h ⟨j,jh (bA s.1.toList),dp (bA s.1.toList),i6 (bA s.1.toList) (dp (bA s.1.toList)),kH (bA s.1.toList) (dp (bA s.1.toList)),lg (bA s.1.toList),?_,?_⟩
 ·rw[<-i];exact a.2
 rw[KW g d,Dk b]
end
section
open Go.RowKit
def oj(K F P C R S:Int):ByteArray:=ld (ig K.toNat F.toNat P.toNat C.toNat R.toNat S.toNat)
theorem JU(K F P C R S:Int)(w:Ω)(d:dy w)(a:cF K F P C R S=true):
  Φ prog 142 #[.agg #[I Q K,I Q F,I Q P,I Q C,I Q R,I Q S]] w λe b=>e=N (Ψ #[Z (oj K F P C R S),.nilIface])/\B w.1.size w b:=by
 obtain⟨j,f,p,c,r,s,rfl,rfl,rfl,rfl,rfl,rfl⟩:=mL a;exact KX (j+1) f p c r s w d a
theorem BU{K F P C R S:Int}(a:cF K F P C R S=true):iJ (oj K F P C R S)=Ψ #[.agg #[I Q K,I Q F,I Q P,I Q C,I Q R,I Q S],.nilIface]:=by obtain⟨j,f,p,c,r,s,rfl,rfl,rfl,rfl,rfl,rfl⟩:=mL a;exact Ca a
theorem zy{K F P C R S:Int}(a:cF K F P C R S=true):jV (fR K F P C R S)=Ψ #[.agg #[I Q K,I Q F,I Q P,I Q C,I Q R,I Q S],.nilIface]:=by obtain⟨j,f,p,c,r,s,rfl,rfl,rfl,rfl,rfl,rfl⟩:=mL a;exact Ed a
theorem Iq(s:ByteArray):(∃K F P C R S:Int,cF K F P C R S=true/\oj K F P C R S=s/\iJ s=Ψ #[.agg #[I Q K,I Q F,I Q P,I Q C,I Q R,I Q S],.nilIface])
  \/ ((∀K F P C R S:Int,cF K F P C R S=true->oj K F P C R S≠s)/\iJ s=Ψ #[cJ,.iface 57 (I Q 3)]):=by
 rcases IG s with ⟨j,F,k,C,R,S,a,rfl,h⟩|⟨hn,h⟩
 ·exact af ⟨_,_,_,_,_,_,a,rfl,h⟩
 refine ah ⟨λK F P C R S a=>?_,h⟩;obtain⟨j,f,p,c,r,t,rfl,rfl,rfl,rfl,rfl,rfl⟩:=mL a;exact hn j f p c r t a
theorem CR(s:ByteArray):(∃K F P C R S:Int,cF K F P C R S=true/\fR K F P C R S=s/\jV s=Ψ #[.agg #[I Q K,I Q F,I Q P,I Q C,I Q R,I Q S],.nilIface])
  \/ ((∀K F P C R S:Int,cF K F P C R S=true->fR K F P C R S≠s)/\jV s=Ψ #[cJ,.iface 57 (I Q 4)]):=by
 rcases Lb s with ⟨j,F,k,C,R,S,a,rfl,h⟩|⟨hn,h⟩
 ·refine af ⟨_,_,_,_,_,_,a,rfl,h⟩
 refine ah ⟨λK F P C R S a=>?_,h⟩;obtain⟨j,f,p,c,r,t,rfl,rfl,rfl,rfl,rfl,rfl⟩:=mL a;exact hn j f p c r t a
end
section
open Go.RowKit
def mn(X:Nat):Nat->List Bool
 |0=>[]
 |L+1=>mn (X/2) L++[decide (X%2=1)]
theorem yX(L:Nat):∀X,(mn X L).length=L:=by
 induction L with
 |zero=>intro X;rfl
 |succ L ih=>intro X;simp[mn,ih]
theorem Lh(L:Nat):∀(X i:Nat),i<L->(mn X L)[i]?=O (decide (X/2^(L-1-i)%2=1)):=by
 induction L with
 |zero=>intro X i h;omega
 |succ L ih=>
  intro X i h;unfold mn;by_cases a:i<L
  ·rw[gO (by rw[yX];exact a),ih _ _ a,Nat.div_div_eq_div_mul,<-Nat.pow_succ',show (L-1-i).succ=L+1-1-i by omega]
  obtain rfl:i=L:=om;rw[jb (by rw[yX];exact aa _),yX];simp
theorem JV(X b m t:Nat)(c:t<m):(X*2^(t+1)+b/2^(m-(t+1)))/2=X*2^t+b/2^(m-t)/\(X*2^(t+1)+b/2^(m-(t+1)))%2=b/2^(m-(t+1))%2:=by
 have e:b/2^(m-t)=b/2^(m-(t+1))/2:=by rw[Nat.div_div_eq_div_mul,<-Nat.pow_succ,show (m-(t+1)).succ=m-t by omega]
 rw[e,Nat.pow_succ];generalize b/2^(m-(t+1))=z;generalize hY:X*2^t=a;rw[show X*(2^t*2)=2*a by rw[<-hY,<-Nat.mul_assoc];omega];omega
theorem Lj(a:Nat)(d:a<16777216):bits .and Q (a:Int) 1=((a%2:Nat):Int):=by
 show IntKind.i64.wrap ((BitVec.ofInt 64 (a:Int) &&& BitVec.ofInt 64 ((1:Nat):Int)).toNat:Int)=_;have b:(BitVec.ofInt 64 (a:Int)).toNat=a:=by rw[BitVec.ofInt_natCast,BitVec.toNat_ofNat];exact Nat.mod_eq_of_lt om
 have c:(BitVec.ofInt 64 ((1:Nat):Int)).toNat=1:=by rw[BitVec.ofInt_natCast,BitVec.toNat_ofNat]
 rw[BitVec.toNat_and,b,c,Nat.and_one_is_mod];exact uz _ om om
theorem Nh(a t:Nat)(h:a<16777216):(bits .and Q ((a:Int)/2^t) 1 == 1)=decide (a/2^t%2=1):=by
 have e:((a:Int)/2^t)=((a/2^t:Nat):Int):=by simp
 rw[e,Lj _ (nc (Nat.div_le_self _ _) h)];generalize a/2^t%2=z;rw[jq];simp;omega
theorem Rc:(prog.info? 4).map (λi=>(i.zero,i.size,i.bytes))=O (O (.bool false),1,1):=kr
theorem Li(v:Value)(X L a m b:Nat)(w:Ω)(c:w.ownsRow b 4 1 v L ((mn X L).map Value.bool))(D:b<=w.1.size)(hL:L<=64)(W:m<=24)(s:a<2^m):
  Φ prog 59 #[v,I Q a,I Q m] w λe E=>∃p,e=N p/\E.ownsRow b 4 1 p (L+m) ((mn (X*2^m+a) (L+m)).map Value.bool)/\B b w E:=by
 have HO:H (w.ownsRow b 4 1 v L ((mn X L).map Value.bool)):=c;have A:H (b<=w.1.size):=D;have U:H (a<2^m):=s;have y:a<16777216:=bg s (jI om W);clear c D s;obtain⟨S,P,C,z,q⟩:=eb Rc;go_enter func59,ntmps59;go_wp2;go_loopw [0,7] (λu i V=>∃t:Nat,t<=m/\i=I Q ((m:Int)-1-t)/\V.ownsRow b 4 1 u (L+t) ((mn (X*2^t+a/2^(m-t)) (L+t)).map Value.bool)/\B b w V) (λ_ i _=>(intOf i+1).toNat)
 case atStart=>refine⟨0,aX _,by go_num,?_,aj _ _⟩;have e:a/2^(m-0)=0:=Nat.div_eq_of_lt U.o;rw[e];simpa using HO.o
 obtain⟨t,ht,rfl,c,f⟩:=hrel;by_cases x:t<m
 ·go_wp2_with (at_builtin;refine pN _ rfl _ _ 134 rfl b 4 S (.bool false) 1 1 underlying134 P C z q rfl dc _ _ _ rfl (c.alloc _) ⟨wr.1.size,0,J⟩ 1 1 [.bool (bits .and Q ((a:Int)/2^(m-1-t)) 1 == 1)] rfl rfl ?c1 ?c2 ?c3 ?c4 ?c5 ?_)
  case c1=>
   intro j u n
   match j,n with
  |0,n=>simp at n;subst n;simp[Addr.add]
  case c2=>intro u K;simp at K;subst K;rfl
  case c3=>unfold maxLen;omega
  case c4=>omega
  case c5=>have:=f.size;have:=A.o;simp;omega
  intro p G d g _;have F:G.ownsRow b 4 1 p (L+(t+1)) ((mn (X*2^(t+1)+a/2^(m-(t+1))) (L+(t+1))).map Value.bool):=(by rw[Nh _ _ y,show m-1-t=m-(t+1) by omega]at d;have e:=JV X a m t x;have T:(mn (X*2^(t+1)+a/2^(m-(t+1))) (L+(t+1))).map Value.bool=(mn (X*2^t+a/2^(m-t)) (L+t)).map Value.bool++[.bool (decide (a/2^(m-(t+1))%2=1))]:=(by rw[show L+(t+1)=L+t+1 by omega];rw[mn,e.1,e.2,iY];rfl);rw[T];exact d);have h:B b w G:=(f.l (aP A.o f.size) _).grown g (by have:=f.size;have:=A.o;simp;omega) (λk hk=>(c.lt k hk).1);have R:H _:=F;have r:H _:=h;clear d g c f F h;go_wp2;go_roundw
  case rel=>exact⟨t+1,om,by go_num,R.o,r.o⟩
  simp[intOf];omega
 obtain rfl:t=m:=om;go_wp2;go_ret;refine⟨_,rfl,?_,f⟩;simpa using c
end
section
open Go.RowKit
structure po (V:Ω) (base:Nat) (v:Value) (X L:Nat):Prop where
 a:V.ownsRow base 4 1 v L ((mn X L).map Value.bool)
theorem uh(v:Value)(X L b m c:Nat)(j k:Int)(w:Ω)(h:H (j=b))(i:H (k=m))(d:po w c v X L)(n:c<=w.1.size)(t:L<=64)(s:m<=24)(r:b<2^m):
  Φ prog 59 #[v,I Q j,I Q k] w λe g=>∃f,e=N f/\po g c f (bZ X m b) (L+m)/\B c w g:=by
 rw[h.o,i.o];refine(Li v X L b m c w d.a n t s r).m ?_;rintro e g ⟨f,p,q,l⟩;exact⟨f,p,⟨q⟩,l⟩
theorem TD{w b:Ω}{K F P C R S:Int}{k:Nat}(d:B (w.alloc (Δ #[I Q K,I Q F,I Q P,I Q C,I Q R,I Q S] 94)).1.size (w.alloc (Δ #[I Q K,I Q F,I Q P,I Q C,I Q R,I Q S] 94)) b){W:Ω}
  (i:W=b.alloc (Δ #[I Q (bi k),I Q (bm k),I Q (bq k),I Q (bO k)] 31)):
  B w.1.size w W/\w.1.size<W.1.size/\b.1.size<W.1.size/\W.cell? ⟨w.1.size,0,J⟩=O (I Q K)/\W.cell? ⟨w.1.size,1,J⟩=O (I Q F)/\W.cell? ⟨w.1.size,2,J⟩=O (I Q P)/\W.cell? ⟨w.1.size,3,J⟩=O (I Q C)/\W.cell? ⟨w.1.size,4,J⟩=O (I Q R)/\W.cell? ⟨w.1.size,5,J⟩=O (I Q S)/\W.cell? ⟨b.1.size,0,J⟩=O (I Q (bi k))/\W.cell? ⟨b.1.size,2,J⟩=O (I Q (bq k)):=by
 subst i;obtain⟨g,c,j,f,h,o,e,n⟩:=eM d;have a:=(aj b.1.size b).l nl (Δ #[I Q (bi k),I Q (bm k),I Q (bq k),I Q (bO k)] 31);exact⟨c.t (a.m (gv g)),by simp;omega,by simp,aH a j,aH a f,aH a h,aH a o,aH a e,aH a n,by go_simp,by go_simp⟩
theorem po.b{V:Ω}{c:Nat}{v:Value}{X:Nat}(h:po V c v X 64):∃g d,v=M (O ⟨g,0,J⟩) 64 d/\c<=g/\g<V.1.size/\∀j,j<64->V.cell? ⟨g,j,J⟩=O (.bool (decide (X/2^(63-j)%2=1))):=by
 obtain⟨g,d,rfl,f,i⟩:=h.a.form om;refine⟨g,d,rfl,f,i,λj k=>?_⟩;have:=h.a.cells (g:=g) rfl j (.bool (decide (X/2^(63-j)%2=1))) (by rw[eE,Lh 64 X j k];rfl);have e:(⟨g,0,J⟩:Addr).add j=⟨g,j,J⟩:=by unfold Addr.add;split<;>simp_all
 rw[<-e];exact this
structure uf (V:Ω) (base:Nat) (v:Value) (X t:Nat):Prop where
 a:V.ownsRow base 5 1 v t ((List.range t).map λi=>I .u8 ((df X i:Nat):Int))
theorem uf.c(V:Ω)(a X:Nat):uf V a (M J 0 0) X 0:=⟨fH _ _ _ _⟩
theorem uf.b{V:Ω}{c g cap:Nat}{X:Nat}(h:uf V c (M (O ⟨g,0,J⟩) 8 cap) X 8)(j:Nat)(d:j<8):V.cell? ⟨g,j,J⟩=O (I .u8 ((vq X).getD j 0)):=by
 have:=h.a.cells (g:=g) rfl j (I .u8 ((df X j:Nat):Int)) (by rw[eE,rR d];rfl);have e:(⟨g,0,J⟩:Addr).add j=⟨g,j,J⟩:=by unfold Addr.add;split<;>simp_all
 rw[<-e,this]
 match j,d with
 |0,_|1,_|2,_|3,_|4,_|5,_|6,_|7,_=>rfl
theorem Re:(prog.info? 5).map (λi=>(i.zero,i.size,i.bytes))=O (O (I .u8 0),1,1):=kr
theorem Ni(X t:Nat)(h:t<8):bu X (64-8*t-8) 8=df X t:=by unfold bu df;rw[show 64-8*t-8=56-8*t by omega]
theorem Nj(X p k:Nat)(a:k+1<=p):bu X (p-(k+1)) (k+1)=2*bu X (p-k) k+X/2^(p-(k+1))%2:=by rw[Dt,show p-(k+1)+1=p-k by omega]
theorem Ir(K F k C R S:Nat)(w:Ω)(hok:cF K F k C R S=true):
  Φ prog 37 #[.agg #[I Q K,I Q F,I Q k,I Q C,I Q R,I Q S]] w λe w'=>e=N (Z (ld (ig K F k C R S)))/\B w.1.size w w':=by
 obtain⟨o1,o2,o3,o4,o5,o6,o7⟩:=qF hok;have HC:=hid (bg o6 (Bn o4));have HR:=hid (bg o7 (Bo o4));have hcb:=rZ k;have hrb:=wW k;have HS:=hid (tT k);have hKI:(K:Int)<=3:=om;have hk6:k<6:=om;obtain⟨X,hX⟩:∃X,X=ig K F k C R S:=⟨_,rfl⟩;have HX:=hid hX;rw[<-hX];clear hok o6 o7 hX;obtain⟨i0,hi,hz0,hz1,hz2⟩:=eb Re;go_enter func37,ntmps37;go_wp2_with fail;refine(kW k _ hk6).m ?_;rintro e w1 ⟨rfl,a0⟩;have hF:=TD (k:=k) a0 rfl;obtain⟨s1,hb2,d0,d1,d2,d3,d4,d5⟩:=eM a0;clear a0 hb2;go_upto_region 2 with fail;generalize w1.alloc (Δ #[I Q (bi k),I Q (bm k),I Q (bq k),I Q (bO k)] 31)=W at *;obtain⟨hBW,z1,z2,c0,c1,c2,c3,c4,c5,p0,p2⟩:=hF;have HB:=hid hBW;go_wp2_with fail;refine(uh _ 0 0 (K+47) 8 W.1.size _ _ _ (by show _=_;omega) rfl ⟨fH _ _ _ _⟩ nl om om om).m ?_;rintro e V1 ⟨v1,rfl,y,G⟩;have HO1:=hid y;have p:=hid G;have c11:=aH p.o c1;have c21:=aH p.o c2;have c31:=aH p.o c3;have c41:=aH p.o c4;have c51:=aH p.o c5;have p01:=aH p.o p0;have p21:=aH p.o p2;go_wp2_with fail;refine(uh _ (bZ 0 8 (K+47)) (0+8) F 3 W.1.size _ _ _ rfl rfl HO1.o p.o.size om om om).m ?_;rintro e V2 ⟨v2,rfl,y,G⟩;have HO2:=hid y;have q:=hid (p.o.t G);have c12:=aH q.o c1;have c22:=aH q.o c2;have c32:=aH q.o c3;have c42:=aH q.o c4;have c52:=aH q.o c5;have p02:=aH q.o p0;have p22:=aH q.o p2;go_wp2_with fail;refine(uh _ (bZ (bZ 0 8 (K+47)) 3 F) (0+8+3) k 3 W.1.size _ _ _ rfl rfl HO2.o q.o.size om om om).m ?_;rintro e V3 ⟨v3,rfl,y,G⟩;have HO3:=hid y;have n:=hid (q.o.t G);have c13:=aH n.o c1;have c23:=aH n.o c2;have c33:=aH n.o c3;have c43:=aH n.o c4;have c53:=aH n.o c5;have p03:=aH n.o p0;have p23:=aH n.o p2;go_wp2_with fail;refine(uh _ (iQ K F k) (0+8+3+3) C (bi k) W.1.size _ _ _ rfl rfl HO3.o n.o.size om om HC.o).m ?_;rintro e V4 ⟨v4,rfl,y,G⟩;have HO4:=hid y;have j:=hid (n.o.t G);have c14:=aH j.o c1;have c24:=aH j.o c2;have c34:=aH j.o c3;have c44:=aH j.o c4;have c54:=aH j.o c5;have p04:=aH j.o p0;have p24:=aH j.o p2;go_wp2_with fail;refine(uh _ (bZ (iQ K F k) (bi k) C) (0+8+3+3+bi k) R (bq k) W.1.size _ _ _ rfl rfl HO4.o j.o.size om om HR.o).m ?_;rintro e V5 ⟨v5,rfl,y,G⟩;have HO5:=hid y;have r:=hid (j.o.t G);have c15:=aH r.o c1;have c25:=aH r.o c2;have c35:=aH r.o c3;have c45:=aH r.o c4;have c55:=aH r.o c5;have p05:=aH r.o p0;have p25:=aH r.o p2;go_wp2_with fail;refine(uh _ (bZ (bZ (iQ K F k) (bi k) C) (bq k) R) (0+8+3+3+bi k+bq k) S 24 W.1.size _ _ _ rfl rfl HO5.o r.o.size om om om).m ?_;rintro e V6 ⟨v6,rfl,y,G⟩;have HO6:=hid y;have a2:=hid (r.o.t G);have a1:po V6 W.1.size v6 X 64:=by have h:=HO6.o;rw[show 0+8+3+3+bi k+bq k+24=64 by have:=HS.o;omega]at h;rw[HX.o];exact h
 obtain⟨g,cap,rfl,hg1,hg2,hg3⟩:=a1.b;have HG:=hid hg3;have hsz6:=a2.o.size;go_wp2;go_loopw [6,7,8,9] (λb i _ _ V=>∃t:Nat,t<=8/\i=I Q t/\uf V V6.1.size b X t/\B V6.1.size V6 V) (λ_ i _ _ _=>8-(intOf i).toNat)
 case atStart=>exact⟨0,aX _,rfl,uf.c _ _ _,aj _ _⟩
 case round=>
  obtain⟨t,ht,rfl,T,hbl⟩:=hrel;by_cases hlt:t<8
  ·go_wp2;go_loop [8,9] (λx i=>∃s:Nat,s<=8/\i=I Q s/\x=I Q ((bu X (64-8*t-s) s:Nat):Int)) (λ_ i=>8-(intOf i).toNat)
   case atStart=>exact⟨0,aX _,rfl,by rw[Du];rfl⟩
   obtain⟨s,hs,rfl,rfl⟩:=hrel;have HBS:=hid T;have v:=hid hbl;by_cases hls:s<8
   ·have hfs:=Nj X (64-8*t) s om;have hfl:bu X (64-8*t-s) s<256:=bg (rr _ _ _) (jI om (show s<=8 by omega));generalize hY:bu X (64-8*t-s) s=f at *;have A:wr.cell? ⟨g,8*t+s,J⟩=O (.bool (decide (X/2^(63-(8*t+s))%2=1))):=(v.o.cell (by exact hg2)).trans (HG.o (8*t+s) om);rw[show 64-8*t-(s+1)=63-(8*t+s) by omega]at hfs;have HFS:=hid hfs;have HY:=hid hY;by_cases D:X/2^(63-(8*t+s))%2=1
    ·rw[decide_eq_true D]at A;have E:=hid D;go_wp2;go_round
     case rel=>refine⟨s+1,om,by go_num,?_⟩;rw[show 64-8*t-(s+1)=63-(8*t+s) by omega,HFS.o,E.o];go_num
     simp[intOf];omega
    rw[decide_eq_false D]at A;have E:H (X/2^(63-(8*t+s))%2=0):=(by show _=_;omega);go_wp2;go_round
    case rel=>refine⟨s+1,om,by go_num,?_⟩;rw[show 64-8*t-(s+1)=63-(8*t+s) by omega,HFS.o,E.o];go_num
    simp[intOf];omega
   obtain rfl:s=8:=om;rw[Ni X t hlt];have hbyt:df X t<256:=Nat.mod_lt _ om;have ewr:IntKind.u8.wrap ((df X t:Nat):Int)=((df X t:Nat):Int):=(by rw[IntKind.wrap_u8'];omega);generalize hZ:df X t=d at *;have HZ:=hid hZ;have L:=HBS.o.a;go_wp2_with (at_builtin;refine pN _ rfl _ _ 117 rfl V6.1.size 5 i0 (I .u8 0) 1 1 underlying117 hi hz0 hz1 hz2 rfl dc _ _ _ rfl (L.alloc _) ⟨wr.1.size,0,J⟩ 1 1 [I .u8 (d:Int)] rfl rfl ?q1 ?q2 ?q3 ?q4 ?q5 ?_)
   case q2=>first|rfl|(intro u hu;simp at hu;subst hu;rfl)
   case q3=>unfold maxLen;omega
   case q4=>omega
   case q5=>have:=v.o.size;simp;omega
   intro v' w3 z U _;have hR:uf w3 V6.1.size v' X (t+1):=(by refine⟨?_⟩;rw[l8,iY];rw[<-HZ.o]at z;exact z);have hB':=(v.o.l v.o.size _).grown U (by have:=v.o.size;simp;omega) (λk hk=>(L.lt k hk).1);have HR':=hid hR;have HB':=hid hB';go_wp2;go_roundw
   case rel=>exact⟨t+1,om,by go_num,HR'.o,HB'.o⟩
   simp[intOf];omega
  ·obtain rfl:t=8:=om;obtain⟨g8,cap8,rfl,-,-⟩:=T.a.form om
   have hcv:=run_convert_bytes_arg (P:=prog) wr 117 5 underlying117 underlying5 g8 0 8 cap8 (vq X) rfl (λi hi=>by
    rw[dj];exact T.b i hi) 9 underlying9
   have HCV:strOfNums (vq X)=ld X:=rfl;rw[HCV]at hcv;have v:=hid hbl;go_wp2;go_ret;exact⟨rfl,(HB.o.t (a2.o.m (gv z1))).t (v.o.m (by have:=a2.o.size;omega))⟩
end
section
open Go.RowKit
def iE(n:Nat):List UInt8:=[101,114,114,111,114,32]++Lib.itoa n
theorem sO(n:Int)(a:-9223372036854775808<=n)(b:n<=9223372036854775807):(Lib.itoa n).length<=20:=by
 unfold Lib.itoa;split
 ·have:=iu (n:=n.natAbs) (d:=19) om om;unfold aK at this;simp;omega
 have:=iu (n:=n.toNat) (d:=19) om om;unfold aK at this;omega
theorem JW(n:Nat)(w:Ω)(b:aT w)(i:n<=9):
  Φ prog 21 #[.iface 57 (I Q (n:Int))] w λe c=>e=N (Z (ae (iE n)))/\B w.1.size w c:=by
 have j:=yG n;have k:=aV (Lib.itoa n);have g:=sO n om om;have d:H ((⟨#[101,114,114,111,114,32]⟩:ByteArray)++ae (Lib.itoa n)=ae (iE n)):=by show _=_;unfold iE;rw[<-pq];rfl
 have f:H (aT w):=b;clear b;go_enter func21,ntmps21;go_wp2_with (go_at_call 48;refine(uE (n:Int) w f.o om om).m ?_;rintro e h ⟨rfl,a⟩);go_ret;exact⟨by rw[d.o];rfl,a⟩
theorem JX(m:Int)(n:Nat)(w:Ω)(b:n≠0):
  Φ prog 72 #[I Q m,bB n] w λe a=>e=N (Ψ #[Z ⟨#[]⟩,bB n])/\a=w:=by
 rw[pi b];go_enter func72,ntmps72;go_wp2;go_ret2;exact⟨rfl,rfl⟩
theorem Lk(m:Int)(w:Ω)(f:aT w)(b:-9223372036854775808<=m)(d:m<=9223372036854775807):
  Φ prog 72 #[I Q m,.nilIface] w λe c=>e=N (Ψ #[Z (ae (Lib.itoa m)),.nilIface])/\B w.1.size w c:=by
 go_enter func72,ntmps72;go_wp2_with (go_at_call 48;refine(uE m w f b d).m ?_;rintro e g ⟨rfl,a⟩);go_ret2;exact⟨rfl,a⟩
def fM(m:Int)(n:Nat):List UInt8:=if n=0 then Lib.itoa m else []
theorem wM(m:Int)(n:Nat)(w:Ω)(d:aT w)(b:-9223372036854775808<=m)(c:m<=9223372036854775807):
  Φ prog 72 #[I Q m,bB n] w λe a=>e=N (Ψ #[Z (ae (fM m n)),bB n])/\B w.1.size w a:=by
 by_cases h:n=0
 ·subst h;exact Lk m w d b c
 refine(JX m n w h).m ?_;rintro e a ⟨rfl,rfl⟩;exact⟨by simp[fM,h,ae],aj _ _⟩
structure gA (s b:ByteArray):Prop where
 a:∃K F P C R S:Int,cF K F P C R S=true/\fR K F P C R S=s/\oj K F P C R S=b
end
section
open Go.RowKit
theorem zA(s b:ByteArray)(w:Ω)(k:cN w)(h:gA s b)(p:s.size<=400):
  Φ prog 104 #[Z s] w λe f=>e=N (Ψ #[Z b,.nilIface])/\B w.1.size w f:=by
 obtain⟨K,F,P,C,R,S,c,rfl,rfl⟩:=h.a;have r:H (∀V,cN V->Φ prog 141 #[Z (fR K F P C R S)] V λe f=>e=N (Ψ #[.agg #[I Q K,I Q F,I Q P,I Q C,I Q R,I Q S],.nilIface])/\B V.1.size V f):=λV j=>by rw[<-zy c];exact Fd _ V j om
 have n:H (∀V,cN V->Φ prog 142 #[.agg #[I Q K,I Q F,I Q P,I Q C,I Q R,I Q S]] V λe f=>e=N (Ψ #[Z (oj K F P C R S),.nilIface])/\B V.1.size V f):=λV j=>JU K F P C R S V j.a c;have l:H (cN w):=k;clear k p c h;go_enter func104,ntmps104;go_wp2_with fail;refine(r.o _ l.o).m ?_;rintro e q ⟨rfl,d⟩;have g:H (B w.1.size w q):=d;clear d;go_wp2_with fail;refine(n.o _ (jr _ (p8 l.o g.o))).m ?_;rintro e t ⟨rfl,i⟩;go_wp2;go_ret2;exact⟨rfl,bQ (l9 _ g.o) i⟩
theorem z8(s:ByteArray)(w:Ω)(d:cN w)(h:jQ s)(f:s.size<=400):
  Φ prog 104 #[Z s] w λe a=>e=N (Ψ #[Z ⟨#[]⟩,.iface 57 (I Q 4)])/\B w.1.size w a:=by
 have c:H (Φ prog 141 #[Z s] w λe a=>e=N (Ψ #[cJ,.iface 57 (I Q 4)])/\B w.1.size w a):=by
  have e:jV s=Ψ #[cJ,.iface 57 (I Q 4)]:=by
   rcases CR s with ⟨K,F,P,C,R,S,hok,ht,_⟩|⟨_,e⟩
   ·exact absurd ht (h K F P C R S hok)
   exact e
  rw[<-e];exact Fd s w d om
 unfold cJ at c;go_enter func104,ntmps104;go_wp2_with fail;refine c.o.m ?_;rintro e g ⟨rfl,b⟩;go_wp2;go_ret2;exact⟨rfl,l9 _ b⟩
theorem CS(s b:ByteArray)(w:Ω)(k:cN w)(h:gA s b):
  Φ prog 110 #[Z b] w λe f=>e=N (Ψ #[Z s,.nilIface])/\B w.1.size w f:=by
 obtain⟨K,F,P,C,R,S,c,rfl,rfl⟩:=h.a;have q:H (∀V,cN V->Φ prog 154 #[Z (oj K F P C R S)] V λe f=>e=N (Ψ #[.agg #[I Q K,I Q F,I Q P,I Q C,I Q R,I Q S],.nilIface])/\B V.1.size V f):=λV j=>by rw[<-BU c];exact wK _ V j.a (by unfold oj maxLen;rw[zq];omega)
 have n:H (∀V,cN V->Φ prog 155 #[.agg #[I Q K,I Q F,I Q P,I Q C,I Q R,I Q S]] V λe f=>e=N (Ψ #[Z (fR K F P C R S),.nilIface])/\B V.1.size V f):=λV j=>zu K F P C R S V j c;have l:H (cN w):=k;clear k c h;go_enter func110,ntmps110;go_wp2_with fail;refine(q.o _ l.o).m ?_;rintro e p ⟨rfl,d⟩;have g:H (B w.1.size w p):=d;clear d;go_wp2_with fail;refine(n.o _ (jr _ (p8 l.o g.o))).m ?_;rintro e r ⟨rfl,i⟩;go_wp2;go_ret2;exact⟨rfl,bQ (l9 _ g.o) i⟩
end
end Go.Proofs.YtlaodjjfmhipnaaGreatDoor
