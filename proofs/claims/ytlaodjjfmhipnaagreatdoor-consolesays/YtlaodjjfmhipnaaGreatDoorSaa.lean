/-
  Part of it.
-/
import Derived.Lib.AppendIntMem
import Derived.Test.YtlaodjjfmhipnaaGreatDoorAa
import Derived.Test.YtlaodjjfmhipnaaGreatDoorShelf
import Derived.Lib.QuietBelow
set_option maxRecDepth 100000
set_option maxHeartbeats 8000000
set_option linter.all false
namespace Go.Proofs.YtlaodjjfmhipnaaGreatDoor
open Go.Proofs.Tryz
open Value renaming int→I,string→Z,pointer→Y,slice→M,tuple→Ψ
open Ending renaming returned→N
open Obj renaming cells→Δ
open Go renaming World→Ω,Calls→Φ
open IntKind renaming i64→Q
open Option renaming some→O,none→J
open RowKit renaming Below→B,Hid→H
section
def bi:Nat->Nat|0=>20|1=>17|2=>14|3=>10|4=>7|_=>4
def bm:Nat->Nat|0=>6|1=>5|2=>4|3=>3|4=>2|_=>1
def bq:Nat->Nat|0=>6|1=>9|2=>12|3=>16|4=>19|_=>22
def bO:Nat->Nat|0=>1|1=>2|2=>3|3=>4|4=>5|_=>6
def fB(n lo hi:Int):Bool:=decide (lo<=n)&&decide (n<=hi)
def jx(n:Int)(d:Nat):Bool:=decide (0<=n)&&decide (n<(10:Int)^d)
theorem mc{n b a:Int}:fB n b a=true↔b<=n/\n<=a:=by simp[fB]
theorem Dl{n:Int}{d:Nat}:jx n d=true↔0<=n/\n<(10:Int)^d:=by simp[jx]
def cF(K F P C R S:Int):Bool:=fB K 1 3&&fB F 0 7&&fB P 0 5&&fB S 0 16777215&&jx C (bm P.toNat)&&jx R (bO P.toNat)
theorem Dm{d:Nat}(h:d<=6): 1<=(10:Int)^d/\(10:Int)^d<=1000000:=by
 match d,h with
 |0,_|1,_|2,_|3,_|4,_|5,_|6,_=>decide
 |_+7,h=>omega
theorem M1{n:Int}{d:Nat}:jx n d=fB n 0 ((10:Int)^d-1):=by unfold jx fB;congr 1;rw[jq];simp;omega
theorem lH(k:Nat): 1<=bm k/\bm k<=6:=by unfold bm;split<;>omega
theorem lI(k:Nat): 1<=bO k/\bO k<=6:=by unfold bO;split<;>omega
theorem rZ(k:Nat): 4<=bi k/\bi k<=20:=by unfold bi;split<;>omega
theorem wW(k:Nat): 6<=bq k/\bq k<=22:=by unfold bq;split<;>omega
theorem tT(k:Nat):bi k+bq k=26:=by unfold bi bq;split<;>rfl
theorem M2(k:Nat):bm k+bO k=7:=by unfold bm bO;split<;>rfl
open Go.RowKit
structure dy (w:Ω):Prop where
 a:11<=w.1.size
 c:∀k:Nat,k<6->w.cell? ⟨1,k*4,J⟩=O (I Q (bi k))
 d:∀k:Nat,k<6->w.cell? ⟨1,k*4+1,J⟩=O (I Q (bm k))
 e:∀k:Nat,k<6->w.cell? ⟨1,k*4+1+1,J⟩=O (I Q (bq k))
 f:∀k:Nat,k<6->w.cell? ⟨1,k*4+1+1+1,J⟩=O (I Q (bO k))
theorem dy.b{w w':Ω}{g:Nat}(h:dy w)(j:B g w w')(l:11<=g):dy w' where
 a:=aP h.a j.size
 c:=λk i=>by rw[j.cell (by show 1<g;omega)];exact h.c k i
 d:=λk i=>by rw[j.cell (by show 1<g;omega)];exact h.d k i
 e:=λk i=>by rw[j.cell (by show 1<g;omega)];exact h.e k i
 f:=λk i=>by rw[j.cell (by show 1<g;omega)];exact h.f k i
theorem qY(n b c:Int)(w:Ω):
  Φ prog 230 #[I Q n,I Q b,I Q c] w λe f=>e=N (.bool (fB n b c))/\f=w:=by
 by_cases d:b<=n
 ·by_cases g:n<=c
  ·have a:fB n b c=true:=(by simp[fB,d,g]);rw[a];clear a;go_enter func230,ntmps230;go_wp2;go_ret;exact⟨rfl,rfl⟩
  have a:fB n b c=false:=(by simp[fB];omega);rw[a];clear a;go_enter func230,ntmps230;go_wp2;go_ret;exact⟨by simp,rfl⟩
 have a:fB n b c=false:=by simp[fB];omega
 rw[a];clear a;have h:decide (b<=n)=false:=by simpa using d
 go_enter func230,ntmps230;go_wp2;go_ret;exact⟨rfl,rfl⟩
theorem yB(n:Int)(d:Nat)(w:Ω)(j:d<=6):
  Φ prog 231 #[I Q n,I Q d] w λe a=>e=N (.bool (jx n d))/\a=w:=by
 rw[M1];go_enter func231,ntmps231;go_wp2;go_loop [5,7] (λl i=>∃k:Nat,k<=d/\i=I Q k/\l=I Q ((10:Int)^k)) (λ_ i=>d-(intOf i).toNat)
 case atStart=>exact⟨0,aX _,rfl,rfl⟩
 obtain⟨k,h,rfl,rfl⟩:=hrel;by_cases g:k<d
 ·have c:=Dm (d:=k) om;have b:(k:Int)<d:=om;have f:H ((10:Int)^(k+1)=10^k*10):=Int.pow_succ _ _;go_wp2;go_round
  case rel=>exact⟨k+1,om,by go_num,by rw[f.o]⟩
  simp[intOf];omega
 obtain rfl:k=d:=om;have c:=Dm (d:=k) om;go_wp2_with (go_at_call 230;refine(qY _ _ _ _).m ?_;rintro e a ⟨rfl,rfl⟩);go_ret;exact⟨rfl,rfl⟩
open Go.RowKit
def gG(K F P C R S:Int):Value:=if cF K F P C R S then .nilIface else .iface 57 (I Q 1)
theorem vb(K F P C R S:Int)(w:Ω)(h:dy w):
  Φ prog 183 #[.agg #[I Q K,I Q F,I Q P,I Q C,I Q R,I Q S]] w λe i=>e=N (gG K F P C R S)/\B w.1.size w i:=by
 by_cases s:fB K 1 3=true
 case neg=>
  have s:fB K 1 3=false:=by simpa using s
  have g:gG K F P C R S=.iface 57 (I Q 1):=by simp[gG,cF,s]
  rw[g];clear g h;go_enter func183,ntmps183;go_wp2_with (first|(go_at_call 230;refine(qY _ _ _ _).m ?_;rintro e i ⟨rfl,rfl⟩));go_ret;exact⟨rfl,ba⟩
 by_cases t:fB F 0 7=true
 case neg=>
  have t:fB F 0 7=false:=by simpa using t
  have g:gG K F P C R S=.iface 57 (I Q 1):=by simp[gG,cF,t]
  rw[g];clear g h;go_enter func183,ntmps183;go_wp2_with (first|(go_at_call 230;refine(qY _ _ _ _).m ?_;rintro e i ⟨rfl,rfl⟩));go_ret;exact⟨rfl,ba⟩
 by_cases j:fB P 0 5=true
 case neg=>
  have j:fB P 0 5=false:=by simpa using j
  have g:gG K F P C R S=.iface 57 (I Q 1):=by simp[gG,cF,j]
  rw[g];clear g h;go_enter func183,ntmps183;go_wp2_with (first|(go_at_call 230;refine(qY _ _ _ _).m ?_;rintro e i ⟨rfl,rfl⟩));go_ret;exact⟨rfl,ba⟩
 by_cases n:fB S 0 16777215=true
 case neg=>
  have n:fB S 0 16777215=false:=by simpa using n
  have g:gG K F P C R S=.iface 57 (I Q 1):=by simp[gG,cF,n]
  rw[g];clear g h;go_enter func183,ntmps183;go_wp2_with (first|(go_at_call 230;refine(qY _ _ _ _).m ?_;rintro e i ⟨rfl,rfl⟩));go_ret;exact⟨rfl,ba⟩
 have u:=mc.1 j;obtain⟨k,rfl⟩:∃k:Nat,P=k:=⟨P.toNat,om⟩;have r:k<6:=om;have y:(k:Int)<6:=om;have v:(0:Int)<=k:=om;have E:=λo:Obj=>(h.b ((aj _ w).l nl o) h.a).c k r;have L:=λo:Obj=>(h.b ((aj _ w).l nl o) h.a).d k r;have D:=λo:Obj=>(h.b ((aj _ w).l nl o) h.a).e k r;have G:=λo:Obj=>(h.b ((aj _ w).l nl o) h.a).f k r;have A:=h.a;have x:=lH k;have z:=lI k;clear h u;by_cases q:jx C (bm k)=true
 case neg=>
  have q:jx C (bm k)=false:=by simpa using q
  have g:gG K F k C R S=.iface 57 (I Q 1):=by simp[gG,cF,q]
  rw[g];clear g;go_enter func183,ntmps183;go_wp2_with (first|(go_at_call 230;refine(qY _ _ _ _).m ?_;rintro e i ⟨rfl,rfl⟩)|(go_at_call 231;refine(yB _ _ _ om).m ?_;rintro e i ⟨rfl,rfl⟩));go_ret;exact⟨rfl,ba.l sm _⟩
 by_cases p:jx R (bO k)=true
 case neg=>
  have p:jx R (bO k)=false:=by simpa using p
  have g:gG K F k C R S=.iface 57 (I Q 1):=by simp[gG,cF,p]
  rw[g];clear g;go_enter func183,ntmps183;go_wp2_with (first|(go_at_call 230;refine(qY _ _ _ _).m ?_;rintro e i ⟨rfl,rfl⟩)|(go_at_call 231;refine(yB _ _ _ om).m ?_;rintro e i ⟨rfl,rfl⟩));go_ret;exact⟨rfl,ba.l sm _⟩
 have g:gG K F k C R S=.nilIface:=by simp[gG,cF,s,t,j,n,q,p]
 rw[g];clear g;go_enter func183,ntmps183;go_wp2_with (first|(go_at_call 230;refine(qY _ _ _ _).m ?_;rintro e i ⟨rfl,rfl⟩)|(go_at_call 231;refine(yB _ _ _ om).m ?_;rintro e i ⟨rfl,rfl⟩));go_ret;exact⟨rfl,ba.l sm _⟩
def bZ(n b v:Nat):Nat:=n*2^b+v
theorem ux{n b v m:Nat}(a:n<2^m)(c:v<2^b):bZ n b v<2^(m+b):=by unfold bZ;have:(n+1)*2^b<=2^m*2^b:=Nat.mul_le_mul_right _ a;rw[Nat.pow_add];rw[Nat.add_mul]at this;omega
theorem vB{n b v:Nat}(a:v<2^b):bZ n b v/2^b=n:=by unfold bZ;rw[Nat.mul_comm,Nat.mul_add_div (Nat.two_pow_pos b),Nat.div_eq_of_lt a];rfl
theorem uj{n b v:Nat}(a:v<2^b):bZ n b v%2^b=v:=by unfold bZ;rw[Nat.mul_comm,Nat.mul_add_mod,Nat.mod_eq_of_lt a]
theorem vi(n b:Nat):bZ (n/2^b) b (n%2^b)=n:=by unfold bZ;rw[Nat.mul_comm];exact Nat.div_add_mod n _
theorem Fa{n b v:Nat}{f e d:Int}(g:f=n)(c:e=v)(a:d=b)(j:v<2^b)(h:bZ n b v<2^64):
  bits .or .u64 (IntKind.u64.wrap (f*2^d.toNat)) e=((bZ n b v:Nat):Int):=by
 subst g c a;have k:n*2^b+v<18446744073709551616:=h
 have i:IntKind.u64.wrap ((n:Int)*2^((b:Int).toNat))=((n*2^b:Nat):Int):=by
  rw[IntKind.wrap_u64,ir];have:((n:Int)*2^b)=((n*2^b:Nat):Int):=by simp
  rw[this];omega
 rw[i,u64_or_nat _ _ om om];congr 1;unfold bZ;rw[<-Nat.shiftLeft_eq,Nat.shiftLeft_add_eq_or_of_lt j]
open Go.RowKit
def df(n i:Nat):Nat:=n/2^(56-8*i)%256
def pw(n k i:Nat):Value:=I .u8 (if i<k then ((df n i:Nat):Int) else 0)
def qn(n k:Nat):Array Value:=#[pw n k 0,pw n k 1,pw n k 2,pw n k 3,pw n k 4,pw n k 5,pw n k 6,pw n k 7]
def ld(n:Nat):ByteArray:=⟨#[UInt8.ofNat (df n 0),UInt8.ofNat (df n 1),UInt8.ofNat (df n 2),UInt8.ofNat (df n 3),UInt8.ofNat (df n 4),UInt8.ofNat (df n 5),UInt8.ofNat (df n 6),UInt8.ofNat (df n 7)]⟩
theorem KU(n i:Nat):((df n i:Nat):Int)=(n:Int)/2^(56-8*i)%256:=by unfold df;rw[Int.natCast_emod,Int.natCast_ediv];simp
theorem JJ{n k:Nat}(h:k<8):(qn n k)[k]?=O (pw n k k):=by
 match k,h with
 |0,_|1,_|2,_|3,_|4,_|5,_|6,_|7,_=>rfl
 |_+8,h=>omega
theorem I0{n k:Nat}(h:k<8):(qn n k).setIfInBounds k (I .u8 ((n:Int)/2^(56-8*k)%256))=qn n (k+1):=by
 rw[<-KU]
 match k,h with
 |0,_|1,_|2,_|3,_|4,_|5,_|6,_|7,_=>simp[qn,pw]
 |_+8,h=>omega
def vq(n:Nat):List Int:=[(df n 0:Nat),(df n 1:Nat),(df n 2:Nat),(df n 3:Nat),(df n 4:Nat),(df n 5:Nat),(df n 6:Nat),(df n 7:Nat)]
theorem KT{n i:Nat}(h:i<8):(qn n 8)[i]?=O (I .u8 ((vq n).getD i 0)):=by
 match i,h with
 |0,_|1,_|2,_|3,_|4,_|5,_|6,_|7,_=>rfl
 |_+8,h=>omega
theorem I1(n:Nat)(w:Ω):(convert 117 9 (M (O ⟨w.1.size,0,J⟩) 8 8)).run prog (w.alloc (Δ (qn n 8) 313))=.ok (Z (ld n)) (w.alloc (Δ (qn n 8) 313)):=by have:=run_convert_bytes_arg (P:=prog) (w.alloc (Δ (qn n 8) 313)) 117 5 underlying117 underlying5 w.1.size 0 8 8 (vq n) rfl (λi a=>by rw[dj];go_simp;exact KT a) 9 underlying9;rw[this];rfl
open Go.RowKit
def iQ(K F k:Nat):Nat:=bZ (bZ (bZ 0 8 (K+47)) 3 F) 3 k
def ig(K F k C R S:Nat):Nat:=bZ (bZ (bZ (iQ K F k) (bi k) C) (bq k) R) 24 S
theorem eM{w g:Ω}{a b c d e f:Value}{t:TypeId}(h:B (w.alloc (Δ #[a,b,c,d,e,f] t)).1.size (w.alloc (Δ #[a,b,c,d,e,f] t)) g):
  w.1.size<g.1.size/\B w.1.size w g/\g.cell? ⟨w.1.size,0,J⟩=O a/\g.cell? ⟨w.1.size,1,J⟩=O b/\g.cell? ⟨w.1.size,2,J⟩=O c/\g.cell? ⟨w.1.size,3,J⟩=O d/\g.cell? ⟨w.1.size,4,J⟩=O e/\g.cell? ⟨w.1.size,5,J⟩=O f:=by
 have i:w.1.size<(w.alloc (Δ #[a,b,c,d,e,f] t)).1.size:=by simp
 refine⟨bg i h.size,((aj _ w).l nl _).t (h.m (gv i)),?_,?_,?_,?_,?_,?_⟩<;>(rw[h.cell i];go_simp)
theorem qF{K F k C R S:Nat}(h:cF K F k C R S=true): 1<=K/\K<=3/\F<=7/\k<=5/\S<=16777215/\C<10^bm k/\R<10^bO k:=by
 simp only[cF,jo,mc,Dl,ir]at h;obtain⟨⟨⟨⟨⟨g,i⟩,e⟩,f⟩,b⟩,a⟩:=h;have c:(C:Int)<((10^bm k:Nat):Int):=by simpa using b.2
 have d:(R:Int)<((10^bO k:Nat):Int):=by simpa using a.2
 omega
theorem Bn{k:Nat}(h:k<=5): 10^bm k<=2^bi k:=by
 match k,h with
 |0,_|1,_|2,_|3,_|4,_|5,_=>decide
theorem Bo{k:Nat}(h:k<=5): 10^bO k<=2^bq k:=by
 match k,h with
 |0,_|1,_|2,_|3,_|4,_|5,_=>decide
theorem E9{K F k C R S:Nat}(h:K<=3)(i:F<=7)(j:k<=5)(f:C<2^bi k)(g:R<2^bq k)(l:S<=16777215):
  bZ 0 8 (K+47)<2^8/\bZ (bZ 0 8 (K+47)) 3 F<2^11/\iQ K F k<2^14/\bZ (iQ K F k) (bi k) C<2^(14+bi k)/\bZ (bZ (iQ K F k) (bi k) C) (bq k) R<2^40/\ig K F k C R S<2^64:=by
 have e:bZ 0 8 (K+47)<2^8:=by unfold bZ;omega
 have b:bZ (bZ 0 8 (K+47)) 3 F<2^11:=ux (m:=8) e om;have a:iQ K F k<2^14:=ux (m:=11) b om;have c:=ux (m:=14) a f
 have d:bZ (bZ (iQ K F k) (bi k) C) (bq k) R<2^40:=by
  have:=ux c g
  rwa [show 14+bi k+bq k=40 by have:=tT k;omega]at this
 exact⟨e,b,a,c,d,ux (m:=40) d om⟩
open Go.RowKit
def bA(l:List UInt8):Nat:=l.foldl (λn c=>bZ n 8 c.toNat) 0
theorem CE(l:List UInt8)(c:UInt8):bA (l++[c])=bZ (bA l) 8 c.toNat:=by simp[bA]
theorem D7:∀(l:List UInt8)(n m:Nat),n<2^m->l.foldl (λn c=>bZ n 8 c.toNat) n<2^(m+8*l.length)
 |[],n,m,h=>by simpa using h
 |c::l,n,m,h=>by have a:bZ n 8 c.toNat<2^(m+8):=ux h (gE c);have:=D7 l _ _ a;simp only[ka,eF];rw[show m+8*(l.length+1)=m+8+8*l.length by omega];exact this
theorem xn(l:List UInt8):bA l<2^(8*l.length):=by have:=D7 l 0 0 dc;simpa [bA] using this
theorem Tz{n:Nat}{c:UInt8}(h:bZ n 8 c.toNat<2^64):bits .or .u64 (IntKind.u64.wrap ((n:Int)*256)) (IntKind.u64.wrap (c.toNat:Int))=((bZ n 8 c.toNat:Nat):Int):=by
 have e:=Fa (n:=n) (b:=8) (v:=c.toNat) rfl rfl rfl (gE c) h;have:IntKind.u64.wrap (c.toNat:Int)=(c.toNat:Int):=by rw[IntKind.wrap_u64];have:=gE c;omega
 rw[this,<-e];rfl
theorem CF(s:ByteArray)(k:Nat)(h:k<s.size):s.1.toList.take (k+1)=s.1.toList.take k++[s[k]]:=by rw[iA (by simpa using h)];rfl
theorem BS(s:ByteArray)(w:Ω)(b:s.size=8):
  Φ prog 204 #[Z s] w λe f=>e=N (I .u64 (bA s.1.toList:Nat))/\f=w:=by
 have h:H (s.size=8):=b;have g:8<=s.size:=om;clear b;go_enter func204,ntmps204;go_wp2;go_loop [3,4,5] (λn _ i=>∃k:Nat,k<=8/\i=I Q k/\n=I .u64 (bA (s.1.toList.take k):Nat)) (λ_ _ i=>8-(intOf i).toNat)
 case atStart=>exact⟨0,aX _,rfl,rfl⟩
 obtain⟨k,l,rfl,rfl⟩:=hrel;by_cases j:k<8
 ·have c:(k:Int)<8:=om;have a:k<s.size:=om;have d:H (bits .or .u64 (IntKind.u64.wrap ((bA (s.1.toList.take k):Nat)*256)) (IntKind.u64.wrap (s[k].toNat:Int))=((bA (s.1.toList.take (k+1)):Nat):Int)):=(by rw[CF s k a,CE];refine Tz (bg (m:=2^(8*(k+1))) ?_ (jI om om));rw[<-CE,<-CF s k a];refine bg (xn _) (jI om ?_);have:=List.length_take_le (k+1) s.1.toList;omega);go_wp2;go_round
  case rel=>exact⟨k+1,om,by go_num,by rw[d.o]⟩
  simp[intOf];omega
 obtain rfl:k=8:=om;go_wp2;go_ret;exact⟨by rw[ip (by simp;have:=h.o;omega)];rfl,rfl⟩
def bu(n p b:Nat):Nat:=n/2^p%2^b
theorem rr(n p b:Nat):bu n p b<2^b:=Nat.mod_lt _ (Nat.two_pow_pos b)
theorem MZ{n p b:Nat}(h:n<2^64)(f:b<=24):wrap64 (bits .and .u64 ((n:Int)/2^p) (IntKind.u64.wrap (IntKind.u64.wrap (2^b)-1)))=((bu n p b:Nat):Int):=by
 have c:2^b<=2^24:=jI om f;have i:1<=2^b:=Nat.two_pow_pos b;have a:((2:Int)^b)=((2^b:Nat):Int):=by simp
 have d:IntKind.u64.wrap (IntKind.u64.wrap ((2:Int)^b)-1)=((2^b-1:Nat):Int):=by rw[a,IntKind.wrap_u64,IntKind.wrap_u64];omega
 have e:((n:Int)/2^p)=((n/2^p:Nat):Int):=by simp
 have j:n/2^p<=n:=Nat.div_le_self _ _;rw[d,e,u64_and_nat _ _ om om,Nat.and_two_pow_sub_one_eq_mod];have g:=rr n p b;unfold bu at *;unfold wrap64;generalize n/2^p%2^b=z at *;omega
theorem p7(n L b p:Nat)(m l:Int)(w:Ω)(lb j:Nat)(y:w.cell? ⟨lb,0,J⟩=O (I Q l))(u:w.frozen? ⟨lb,0,J⟩=false)
  (z:w.cell? ⟨j,0,J⟩=O (I .u64 n))(r:lb≠j)(h:H (m=b))(g:H (l=L))(i:H (p+b=L))(x:L<=64)(k:b<=24)(a:H (n<2^64)):
  Φ prog 205 #[I Q m,Y (O ⟨lb,0,J⟩),Y (O ⟨j,0,J⟩)] w λe s=>e=N (I Q ((bu n p b:Nat):Int))/\∃d,s=(w.setCell ⟨lb,0,J⟩ (I Q (p:Int))).drewN d:=by
 obtain rfl:=h.o;obtain rfl:=g.o;have v:b<=L:=by have:=i.o;omega
 have c:(p:Int)=(L:Int)-(b:Int):=by have:=i.o;omega
 have f:p=L-b:=by have:=i.o;omega
 rw[c,f];have t:(0:Int)<=n:=om;have q:H _:=MZ (p:=L-b) a.o k;clear h g i c f;go_enter func205,ntmps205;go_wp2;go_quiet (fail);go_wp2;rw[q.o];go_ret;exact⟨rfl,_,rfl⟩
open Go.RowKit
def cJ:Value:=.agg #[I Q 0,I Q 0,I Q 0,I Q 0,I Q 0,I Q 0]
theorem JK(s:ByteArray)(w:Ω)(d:s.size≠8)(a:s.size<=maxLen):
  Φ prog 154 #[Z s] w λe b=>e=N (Ψ #[cJ,.iface 57 (I Q 3)])/\B w.1.size w b:=by
 unfold maxLen at a;have c:((s.size:Int) != 8)=true:=by simp;omega
 go_enter func154,ntmps154;go_wp2;exact bK (v:=Ψ #[cJ,.iface 57 (I Q 3)]) (by simp[results,results154,go_sem,cJ]) rfl ⟨rfl,ba⟩
theorem oY(w:Ω)(d:Nat)(a:Addr)(v:Value):(w.drewN d).setCell a v=(w.setCell a v).drewN d:=rfl
theorem uV(w:Ω)(d:Nat)(o:Obj):(w.drewN d).alloc o=(w.alloc o).drewN d:=rfl
def iF(n:Nat):Nat:=bu n 56 8
def jh(n:Nat):Nat:=bu n 53 3
def dp(n:Nat):Nat:=bu n 50 3
def i6(n k:Nat):Nat:=bu n (50-bi k) (bi k)
def kH(n k:Nat):Nat:=bu n 24 (bq k)
def lg(n:Nat):Nat:=bu n 0 24
def nD(K F P C R S:Int):Value:=.agg #[I Q K,I Q F,I Q P,I Q C,I Q R,I Q S]
theorem Sw{w a:Ω}{a0 a1 a2 c e g x y i k p n f o:Value}{q s t r:TypeId}{d:Nat}{W:Ω}
  (u:W=((((w.alloc (Δ #[a0,a1,a2,c,e,g] q)).alloc (Δ #[x] s)).alloc (Δ #[y] t)).alloc (Δ #[i,k,p,n,f,o] r)).drewN d)(b:B W.1.size W a):
  w.1.size+1+1+1<a.1.size/\B w.1.size w a
  /\ (∀j:Nat,j<6->a.cell? ⟨w.1.size,j,J⟩=(#[a0,a1,a2,c,e,g]:Array Value)[j]?/\a.frozen? ⟨w.1.size,j,J⟩=false/\a.cell? ⟨w.1.size+1+1+1,j,J⟩=(#[i,k,p,n,f,o]:Array Value)[j]?):=by
 subst u;have h:(((((w.alloc (Δ #[a0,a1,a2,c,e,g] q)).alloc (Δ #[x] s)).alloc (Δ #[y] t)).alloc (Δ #[i,k,p,n,f,o] r)).drewN d).1.size=w.1.size+1+1+1+1:=by simp
 refine⟨by have:=b.size;omega,?_,?_⟩
 ·refine Below.trans ?_ (b.m om);exact kT (((((aj _ w).l nl _).l sm _).l (by simp;omega) _).l (by simp;omega) _) _
 intro j _;refine⟨?_,?_,?_⟩
 ·rw[b.cell (by rw[h];show w.1.size<_;omega)];go_simp
 ·rw[b.frozen (by rw[h];show w.1.size<_;omega)];go_simp
 rw[b.cell (by rw[h];show w.1.size+1+1+1<_;omega)];go_simp
theorem I2(s:ByteArray)(w:Ω)(b:s.size=8)(n:Nat)(a:n=bA s.1.toList)(f:6<=dp n):
  Φ prog 154 #[Z s] w λe g=>e=N (Ψ #[cJ,.iface 57 (I Q 3)])/\B w.1.size w g:=by
 have j:((s.size:Int) != 8)=false:=by simp;omega
 have i:H (s.size=8):=b;have h:H (n=bA s.1.toList):=a;have d:H (n<2^64):=by have:=xn s.1.toList;rw[<-a,show s.1.toList.length=8 by simpa using b]at this;exact this
 clear b a;have u:=oY;have k:=uV;have r:((bu n 56 8:Nat):Int)<=255:=by have:=rr n 56 8;omega
 have p:6<=((bu n 50 3:Nat):Int):=by unfold dp at f;omega
 clear f;go_enter func154,ntmps154;go_wp2_with fail;refine(BS s _ i.o).m ?_;rw[<-h.o];rintro e c ⟨rfl,rfl⟩;go_wp2_with fail;refine(p7 n 64 8 56 _ _ _ _ _ ?_ ?_ ?_ ?_ rfl rfl rfl om om d.o).m ?_
 ·go_simp
 ·go_simp
 ·go_simp
 ·omega
 rintro e c ⟨rfl,q,rfl⟩;go_wp2_with fail;refine(p7 n 56 3 53 _ _ _ _ _ ?_ ?_ ?_ ?_ rfl rfl rfl om om d.o).m ?_
 ·go_simp
 ·go_simp
 ·go_simp
 ·omega
 rintro e c ⟨rfl,t,rfl⟩;go_wp2_with fail;refine(p7 n 53 3 50 _ _ _ _ _ ?_ ?_ ?_ ?_ rfl rfl rfl om om d.o).m ?_
 ·go_simp
 ·go_simp
 ·go_simp
 ·omega
 rintro e c ⟨rfl,x,rfl⟩;go_wp2;refine bK (v:=Ψ #[cJ,.iface 57 (I Q 3)]) (by simp[results,results154,go_sem,cJ]) rfl ⟨rfl,?_⟩;exact kT (((((aj _ w).l nl _).l sm _).l (by simp;omega) _).l (by simp;omega) _) _
theorem M0(s:ByteArray)(w:Ω)(hT:dy w)(L:s.size=8)(n k:Nat)(hn:n=bA s.1.toList)(hk:k=dp n)(C:k<6)(v:Value)
  (i:v=if cF ((iF n:Int)-47) (jh n) k (i6 n k) (kH n k) (lg n) then Ψ #[nD ((iF n:Int)-47) (jh n) k (i6 n k) (kH n k) (lg n),.nilIface] else Ψ #[cJ,.iface 57 (I Q 3)]):
  Φ prog 154 #[Z s] w λe w'=>e=N v/\B w.1.size w w':=by
 have h8:((s.size:Int) != 8)=false:=by simp;omega
 have HS:H (s.size=8):=L;have HN:H (n=bA s.1.toList):=hn;have z:H (n<2^64):=by have:=xn s.1.toList;rw[<-hn,show s.1.toList.length=8 by simpa using L]at this;exact this
 have G:H (v=_):=i;have HK:H (k=bu n 50 3):=hk;have A:H (dy w):=hT;clear L hn i hk hT;have r1:=oY;have r2:=uV;have f1:((bu n 56 8:Nat):Int)<=255:=by have:=rr n 56 8;omega
 have f3:(k:Int)<6:=om;have hcb:=rZ k;have hrb:=wW k;obtain⟨q,hq⟩:∃q:Nat,q+bi k=50:=⟨50-bi k,om⟩;have D:24+bq k=q:=by have:=tT k;omega
 have S:H (q+bi k=50):=hq;have R:H (24+bq k=q):=D;clear hq D;have q0:∀j r t x:Obj,((((w.alloc j).alloc r).alloc t).alloc x).cell? ⟨1,k*4,J⟩=O (I Q (bi k)):=λj r t x=>(A.o.b (((((aj _ w).l nl j).l sm r).l (by simp;omega) t).l (by simp;omega) x) A.o.a).c k C;have q2:∀j r t x:Obj,((((w.alloc j).alloc r).alloc t).alloc x).cell? ⟨1,k*4+2,J⟩=O (I Q (bq k)):=λj r t x=>(A.o.b (((((aj _ w).l nl j).l sm r).l (by simp;omega) t).l (by simp;omega) x) A.o.a).e k C;go_enter func154,ntmps154;go_wp2_with fail;refine(BS s _ HS.o).m ?_;rw[<-HN.o];rintro e y ⟨rfl,rfl⟩;go_wp2_with fail;refine(p7 n 64 8 56 _ _ _ _ _ ?_ ?_ ?_ ?_ rfl rfl rfl om om z.o).m ?_
 ·go_simp
 ·go_simp
 ·go_simp
 ·omega
 rintro e y ⟨rfl,d1,rfl⟩;go_wp2_with fail;refine(p7 n 56 3 53 _ _ _ _ _ ?_ ?_ ?_ ?_ rfl rfl rfl om om z.o).m ?_
 ·go_simp
 ·go_simp
 ·go_simp
 ·omega
 rintro e y ⟨rfl,d2,rfl⟩;go_wp2_with fail;refine(p7 n 53 3 50 _ _ _ _ _ ?_ ?_ ?_ ?_ rfl rfl rfl om om z.o).m ?_
 ·go_simp
 ·go_simp
 ·go_simp
 ·omega
 rw[<-HK.o];rintro e y ⟨rfl,d3,rfl⟩;go_wp2_with fail;refine(p7 n 50 (bi k) q _ _ _ _ _ ?_ ?_ ?_ ?_ rfl rfl S.o om om z.o).m ?_
 ·go_simp
 ·go_simp
 ·go_simp
 ·omega
 rintro e y ⟨rfl,d4,rfl⟩;go_wp2_with fail;refine(p7 n q (bq k) 24 _ _ _ _ _ ?_ ?_ ?_ ?_ rfl rfl R.o (by have:=S.o;omega) om z.o).m ?_
 ·go_simp
 ·go_simp
 ·go_simp
 ·omega
 rintro e y ⟨rfl,d5,rfl⟩;go_wp2_with fail;refine(p7 n 24 24 0 _ _ _ _ _ ?_ ?_ ?_ ?_ rfl rfl rfl om om z.o).m ?_
 ·go_simp
 ·go_simp
 ·go_simp
 ·omega
 rintro e y ⟨rfl,d6,rfl⟩;go_wp2_with fail;have u:H (bu n q (bi k)=i6 n k):=by unfold i6;rw[show 50-bi k=q by have:=S.o;omega];rfl
 have F:=A.o.b (kT (((((aj _ w).l nl (Δ #[I Q 0,I Q 0,I Q 0,I Q 0,I Q 0,I Q 0] 94)).l sm (Δ #[I .u64 n] 245)).l (by simp;omega) (Δ #[I Q 0] 3)).l (by simp;omega) (Δ #[I Q ((bu n 56 8:Int)-47),I Q (bu n 53 3),I Q k,I Q (bu n q (bi k)),I Q (bu n 24 (bq k)),I Q (bu n 0 24)] 94)) (d1+d2+d3+d4+d5+d6)) A.o.a;refine(vb _ _ _ _ _ _ _ F).m ?_;clear F q0 q2;rintro e w3 ⟨rfl,E⟩;obtain⟨z1,z2,p⟩:=Sw rfl E;obtain⟨a0,b0,W⟩:=p 0 om;obtain⟨a1,b1,X⟩:=p 1 om;obtain⟨a2,b2,T⟩:=p 2 om;obtain⟨K,b3,U⟩:=p 3 om;obtain⟨a4,b4,V⟩:=p 4 om;obtain⟨a5,b5,P⟩:=p 5 om;simp at a0 a1 a2 K a4 a5 W X T U V P;have Z2:H _:=z2;clear p E z2;by_cases d:cF ((iF n:Int)-47) (jh n) k (i6 n k) (kH n k) (lg n)=true
 ·have g:gG ((bu n 56 8:Int)-47) (bu n 53 3) k (bu n q (bi k)) (bu n 24 (bq k)) (bu n 0 24)=.nilIface:=by rw[u.o];unfold gG;exact ak d
  have i:=G.o;rw[ak d]at i;have f:H _:=i;rw[g];clear i G g d;go_wp2;rw[f.o,<-u.o];clear f W X T U V P r1 r2;refine bK (v:=Ψ #[.agg #[I Q ((bu n 56 8:Int)-47),I Q (bu n 53 3),I Q k,I Q (bu n q (bi k)),I Q (bu n 24 (bq k)),I Q (bu n 0 24)],.nilIface]) (by simp[results,results154,go_sem,a0,a1,a2,K,a4,a5]) rfl ⟨rfl,?_⟩;exact(((((Z2.o.c nl _).c nl _).c nl _).c nl _).c nl _).c nl _
 have d:cF ((iF n:Int)-47) (jh n) k (i6 n k) (kH n k) (lg n)=false:=by simpa using d
 have g:gG ((bu n 56 8:Int)-47) (bu n 53 3) k (bu n q (bi k)) (bu n 24 (bq k)) (bu n 0 24)=.iface 57 (I Q 1):=by rw[u.o];unfold gG;exact ag (λh=>by unfold iF jh kH lg at d;rw[d]at h;cases h)
 have i:=G.o;rw[d]at i;have f:H _:=i;rw[g];clear i G g d;go_wp2;rw[f.o];clear f W X T U V P r1 r2;refine bK (v:=Ψ #[cJ,.iface 57 (I Q 3)]) (by simp[results,results154,go_sem,cJ,a0,a1,a2,K,a4,a5]) rfl ⟨rfl,?_⟩;exact(((((Z2.o.c nl _).c nl _).c nl _).c nl _).c nl _).c nl _
open Go.RowKit
def aK(n:Nat):List UInt8:=Lib.decDigits n
theorem JI(a b:List UInt8):(⟨a.toArray⟩:ByteArray)++⟨b.toArray⟩=⟨(a++b).toArray⟩:=by apply ke;simp
theorem aH{w w':Ω}{a:Addr}{v:Value}(b:B w.1.size w w')(h:w.cell? a=O v):w'.cell? a=O v:=by rw[b.cell (rJ w a h)];exact h
theorem bQ{W w w':Ω}(h:B W.1.size W w)(a:B w.1.size w w'):B W.1.size W w':=h.t (a.m h.size)
theorem pZ{w:Ω}{a:Addr}{v:Value}(h:w.cell? a=O v):w.drew.cell? a=O v:=h
theorem ma{W w:Ω}(h:B W.1.size W w):B W.1.size W w.drew:=h.drew
theorem nW{w:Ω}{a:Addr}{v:Value}(o:Obj)(h:w.cell? a=O v):(w.alloc o).cell? a=O v:=aH (br.l nl o) h
theorem l9{W w:Ω}(o:Obj)(h:B W.1.size W w):B W.1.size W (w.alloc o):=bQ h (br.l nl o)
theorem iu{n d:Nat}(h:n<10^d)(e:1<=d):(aK n).length<=d:=by
 unfold aK;rw[Lib.decDigits_length]
 induction d generalizing n with
 |zero=>omega
 |succ d ih=>
  by_cases c:n<10
  ·rw[Lib.nDigits_small c];omega
  rw[Lib.nDigits_big c];have b:n/10<10^d:=by rw[Nat.pow_succ]at h;omega
  have a:1<=d:=by
   cases d with
  |zero=>simp at b;omega
  |succ d=>omega
  have:=ih b a;omega
theorem nX{a b:ByteArray}(h:a.1.toList=b.1.toList):a=b:=by apply ke;exact nU.1 h
def jU(n:Nat):Bool:=decide (dp n<6)&&cF ((iF n:Int)-47) (jh n) (dp n) (i6 n (dp n)) (kH n (dp n)) (lg n)
def iJ(s:ByteArray):Value:=
 if s.size=8/\jU (bA s.1.toList)=true then Ψ #[nD ((iF (bA s.1.toList):Int)-47) (jh (bA s.1.toList)) (dp (bA s.1.toList)) (i6 (bA s.1.toList) (dp (bA s.1.toList))) (kH (bA s.1.toList) (dp (bA s.1.toList))) (lg (bA s.1.toList)),.nilIface]
 else Ψ #[cJ,.iface 57 (I Q 3)]
theorem wK(s:ByteArray)(w:Ω)(d:dy w)(f:s.size<=maxLen):
  Φ prog 154 #[Z s] w λe c=>e=N (iJ s)/\B w.1.size w c:=by
 by_cases a:s.size=8
 case neg=>
  have e:iJ s=Ψ #[cJ,.iface 57 (I Q 3)]:=by unfold iJ;rw[ag (λh=>a h.1)]
  rw[e];exact JK s w a f
 by_cases b:dp (bA s.1.toList)<6
 case neg=>
  have e:iJ s=Ψ #[cJ,.iface 57 (I Q 3)]:=by unfold iJ;rw[ag];intro h;unfold jU at h;simp[b]at h
  rw[e];exact I2 s w a _ rfl om
 have:=M0 s w d a _ _ rfl rfl b _ rfl;have e:iJ s=if cF ((iF (bA s.1.toList):Int)-47) (jh (bA s.1.toList)) (dp (bA s.1.toList)) (i6 (bA s.1.toList) (dp (bA s.1.toList))) (kH (bA s.1.toList) (dp (bA s.1.toList))) (lg (bA s.1.toList)) then Ψ #[nD ((iF (bA s.1.toList):Int)-47) (jh (bA s.1.toList)) (dp (bA s.1.toList)) (i6 (bA s.1.toList) (dp (bA s.1.toList))) (kH (bA s.1.toList) (dp (bA s.1.toList))) (lg (bA s.1.toList)),.nilIface] else Ψ #[cJ,.iface 57 (I Q 3)]:=by unfold iJ jU;simp[a,b]
 rw[e];exact this
theorem PG(n i:Nat):df n i<256:=Nat.mod_lt _ dc
theorem CD(n i:Nat):(UInt8.ofNat (df n i)).toNat=df n i:=by rw[UInt8.toNat_ofNat'];have:=PG n i;omega
theorem zq(n:Nat):(ld n).size=8:=rfl
theorem KV{n:Nat}(h:n<2^64):bA (ld n).1.toList=n:=by show bA [UInt8.ofNat (df n 0),UInt8.ofNat (df n 1),UInt8.ofNat (df n 2),UInt8.ofNat (df n 3),UInt8.ofNat (df n 4),UInt8.ofNat (df n 5),UInt8.ofNat (df n 6),UInt8.ofNat (df n 7)]=n;simp only[bA,ka,List.foldl_nil,CD];simp only[bZ,df];simp only[Nat.reducePow,Nat.reduceMul,Nat.reduceSub]at *;omega
theorem Dk{s:ByteArray}(h:s.size=8):ld (bA s.1.toList)=s:=by
 obtain⟨⟨l⟩⟩:=s
 match l,h with
 |[b0,b1,b2,b3,b4,b5,b6,b7],_=>
  have c:=gE b0;have m:=gE b1;have n:=gE b2;have d:=gE b3;have k:=gE b4;have g:=gE b5;have f:=gE b6;have j:=gE b7;have a:∀(i:Nat)(b:UInt8),df (bA [b0,b1,b2,b3,b4,b5,b6,b7]) i=b.toNat->UInt8.ofNat (df (bA [b0,b1,b2,b3,b4,b5,b6,b7]) i)=b:=λi b e=>by rw[e];simp
  unfold ld;show (⟨#[UInt8.ofNat (df (bA [b0,b1,b2,b3,b4,b5,b6,b7]) 0),UInt8.ofNat (df (bA [b0,b1,b2,b3,b4,b5,b6,b7]) 1),UInt8.ofNat (df (bA [b0,b1,b2,b3,b4,b5,b6,b7]) 2),UInt8.ofNat (df (bA [b0,b1,b2,b3,b4,b5,b6,b7]) 3),UInt8.ofNat (df (bA [b0,b1,b2,b3,b4,b5,b6,b7]) 4),UInt8.ofNat (df (bA [b0,b1,b2,b3,b4,b5,b6,b7]) 5),UInt8.ofNat (df (bA [b0,b1,b2,b3,b4,b5,b6,b7]) 6),UInt8.ofNat (df (bA [b0,b1,b2,b3,b4,b5,b6,b7]) 7)]⟩:ByteArray)=⟨#[b0,b1,b2,b3,b4,b5,b6,b7]⟩;rw[a 0 b0 ?_,a 1 b1 ?_,a 2 b2 ?_,a 3 b3 ?_,a 4 b4 ?_,a 5 b5 ?_,a 6 b6 ?_,a 7 b7 ?_]
  all_goals
   simp only[bA,ka,List.foldl_nil,bZ,df];simp only[Nat.reducePow,Nat.reduceMul,Nat.reduceSub]at *;omega
theorem qj(n a b:Nat):n/2^(a+b)=n/2^a/2^b:=by rw[Nat.pow_add,Nat.div_div_eq_div_mul]
theorem PH{K F k C R S:Nat}(i:K<=3)(j:F<=7)(l:k<=5)(e:C<2^bi k)(g:R<2^bq k)(n:S<=16777215):
  iF (ig K F k C R S)=K+47/\jh (ig K F k C R S)=F/\dp (ig K F k C R S)=k/\i6 (ig K F k C R S) k=C/\kH (ig K F k C R S) k=R/\lg (ig K F k C R S)=S:=by
 have m:=tT k;have h:=rZ k;have b:ig K F k C R S/2^24=bZ (bZ (iQ K F k) (bi k) C) (bq k) R:=vB om;have f:ig K F k C R S/2^(24+bq k)=bZ (iQ K F k) (bi k) C:=by rw[qj,b,vB g]
 have a:ig K F k C R S/2^50=iQ K F k:=by rw[show 50=24+bq k+bi k by omega,qj,f,vB e]
 have c:ig K F k C R S/2^53=bZ (bZ 0 8 (K+47)) 3 F:=by rw[show 53=50+3 by omega,qj,a];exact vB om
 have d:ig K F k C R S/2^56=bZ 0 8 (K+47):=by rw[show 56=53+3 by omega,qj,c];exact vB om
 refine⟨?_,?_,?_,?_,?_,?_⟩
 ·unfold iF bu;rw[d];exact uj om
 ·unfold jh bu;rw[c];exact uj om
 ·unfold dp bu;rw[a];exact uj om
 ·unfold i6 bu;rw[show 50-bi k=24+bq k by omega,f];exact uj e
 ·unfold kH bu;rw[b];exact uj g
 unfold lg bu;rw[Nat.pow_zero,Nat.div_one];exact uj om
theorem KW{n K:Nat}(h:n<2^64)(b:iF n=K+47):ig K (jh n) (dp n) (i6 n (dp n)) (kH n (dp n)) (lg n)=n:=by
 have i:=tT (dp n);have f:=rZ (dp n);have g:bZ 0 8 (K+47)=n/2^56:=by rw[<-b];unfold iF bu bZ;simp only[Nat.reducePow]at *;omega
 have c:bZ (bZ 0 8 (K+47)) 3 (jh n)=n/2^53:=by rw[g];unfold jh bu;rw[show 56=53+3 by omega,qj];exact vi _ _
 have a:iQ K (jh n) (dp n)=n/2^50:=by unfold iQ;rw[c];unfold dp bu;rw[show 53=50+3 by omega,qj];exact vi _ _
 have d:bZ (iQ K (jh n) (dp n)) (bi (dp n)) (i6 n (dp n))=n/2^(24+bq (dp n)):=by rw[a];unfold i6 bu;rw[show 50-bi (dp n)=24+bq (dp n) by omega];generalize hq:dp n=q at *;rw[show 50=24+bq q+bi q by omega,qj];exact vi _ _
 have e:bZ (bZ (iQ K (jh n) (dp n)) (bi (dp n)) (i6 n (dp n))) (bq (dp n)) (kH n (dp n))=n/2^24:=by rw[d];unfold kH bu;rw[qj];exact vi _ _
 unfold ig;rw[e];unfold lg bu;rw[Nat.pow_zero,Nat.div_one];exact vi _ _
end
section
open Go.RowKit
theorem ub(n v b:Nat)(l i g:Int)(w:Ω)(f:Nat)(d:f=w.1.size)(k:H (l=n))(a:H (i=v))(c:H (g=b))(m:H (v<2^b))(q:b<=24)(h:H (bZ n b v<2^64)):
  Φ prog 184 #[I Q i,I Q g,Y (O ⟨f,0,J⟩)] (w.alloc (Δ #[I .u64 l] 245)) λe p=>e=N (Ψ #[])/\p=w.alloc (Δ #[I .u64 ((bZ n b v:Nat):Int)] 245):=by
 subst d;have t:0<=i:=by rw[a.o];omega
 have u:i<=16777216:=by have:v<2^24:=bg m.o (jI om q);have:=a.o;omega
 have r:0<=g:=by rw[c.o];omega
 have s:g<=24:=by rw[c.o];omega
 have j:H _:=Fa (n:=n) k.o a.o c.o m.o h.o;go_enter func184,ntmps184;go_wp2;rw[j.o];go_end0;exact⟨rfl,rfl⟩
theorem ID(n:Nat)(w:Ω):
  Φ prog 185 #[I .u64 n] w λe c=>e=N (Z (ld n))/\B w.1.size w c:=by
 go_enter func185,ntmps185;go_wp2;go_loopw [4,5] (λ_ i c=>∃k:Nat,k<=8/\i=I Q k/\c=w.alloc (Δ (qn n k) 313)) (λ_ i _=>8-(intOf i).toNat)
 case atStart=>exact⟨0,aX _,rfl,rfl⟩
 obtain⟨k,h,rfl,rfl⟩:=hrel;by_cases b:k<8
 ·have d:(k:Int)<8:=om;have f:=JJ (n:=n) b;have a:H _:=I0 (n:=n) b;go_wp2;go_roundw
  case rel=>exact⟨k+1,om,by go_num,by rw[a.o]⟩
  simp[intOf];omega
 obtain rfl:k=8:=om;have g:=I1 n w;go_wp2;go_ret;exact⟨rfl,ba⟩
end
section
open Go.RowKit
theorem KX(K F k C R S:Nat)(w:Ω)(p:dy w)(h:cF K F k C R S=true):
  Φ prog 142 #[.agg #[I Q K,I Q F,I Q k,I Q C,I Q R,I Q S]] w λe G=>e=N (Ψ #[Z (ld (ig K F k C R S)),.nilIface])/\B w.1.size w G:=by
 obtain⟨o1,E,U,v,V,x,y⟩:=qF h;have r:C<2^bi k:=bg x (Bn v);have u:R<2^bq k:=bg y (Bo v);obtain⟨a1,P,z,T,a5,W⟩:=E9 E U v r u V;have A:H (bZ 0 8 (K+47)<2^64/\bZ (bZ 0 8 (K+47)) 3 F<2^64/\iQ K F k<2^64/\bZ (iQ K F k) (bi k) C<2^64/\bZ (bZ (iQ K F k) (bi k) C) (bq k) R<2^64/\ig K F k C R S<2^64/\C<2^bi k/\R<2^bq k/\S<2^24/\F<2^3/\k<2^3/\K+47<2^8):=by have:2^(14+bi k)<=2^34:=jI om (by have:=rZ k;omega);refine⟨om,om,om,om,om,om,r,u,om,om,om,om⟩
 have hcb:=rZ k;have L:=wW k;clear a1 P z T a5 W r u x y;have D:(k:Int)<6:=om;have q:gG K F k C R S=.nilIface:=by simp[gG,h]
 clear h;go_enter func142,ntmps142;go_wp2_with fail;refine(vb K F k C R S _ (p.b ((aj _ w).l nl _) p.a)).m ?_;rintro e w1 ⟨rfl,n⟩;rw[q];obtain⟨s1,i,d0,d1,d2,d3,d4,d5⟩:=eM n;have g:=p.b i p.a;have q0:=g.c k om;have q1:=g.d k om;have q2:=g.e k om;have q3:=g.f k om;clear g p q;have X:H _:=i;clear n i;go_wp2_with fail;refine(ub 0 (K+47) 8 0 _ 8 _ _ sm rfl (Int.natCast_add K 47).symm rfl A.o.2.2.2.2.2.2.2.2.2.2.2 om A.o.1).m ?_;rintro e j ⟨rfl,rfl⟩;go_wp2_with fail;refine(ub (bZ 0 8 (K+47)) F 3 _ _ 3 _ _ sm rfl rfl rfl A.o.2.2.2.2.2.2.2.2.2.1 om A.o.2.1).m ?_;rintro e j ⟨rfl,rfl⟩;go_wp2_with fail;refine(ub (bZ (bZ 0 8 (K+47)) 3 F) k 3 _ _ 3 _ _ sm rfl rfl rfl A.o.2.2.2.2.2.2.2.2.2.2.1 om A.o.2.2.1).m ?_;rintro e j ⟨rfl,rfl⟩;go_wp2_with fail;refine(ub (iQ K F k) C (bi k) _ _ _ _ _ sm rfl rfl rfl A.o.2.2.2.2.2.2.1 om A.o.2.2.2.1).m ?_;rintro e j ⟨rfl,rfl⟩;go_wp2_with fail;refine(ub (bZ (iQ K F k) (bi k) C) R (bq k) _ _ _ _ _ sm rfl rfl rfl A.o.2.2.2.2.2.2.2.1 om A.o.2.2.2.2.1).m ?_;rintro e j ⟨rfl,rfl⟩;go_wp2_with fail;refine(ub (bZ (bZ (iQ K F k) (bi k) C) (bq k) R) S 24 _ _ 24 _ _ sm rfl rfl rfl A.o.2.2.2.2.2.2.2.2.1 om A.o.2.2.2.2.2.1).m ?_;rintro e j ⟨rfl,rfl⟩;go_wp2_with fail;refine(ID (ig K F k C R S) _).m ?_;rintro e j ⟨rfl,s⟩;go_wp2;go_ret2;refine⟨rfl,?_⟩;exact(((X.o.l (gv s1) _).l (by simp;omega) _).t (s.m (by simp;omega)))
end
section
open Go.RowKit
def dJ:Nat->ByteArray|0=>⟨#[105,116,101,109]⟩|1=>⟨#[99,97,115,101]⟩|_=>⟨#[112,97,108,108,101,116]⟩
structure cN (w : Ω):Prop where
 a:dy w
 d:∀ j:Nat,j<3->w.cell? ⟨2,j,J⟩=O (Z (dJ j))
 h:Lib.TabIs prog w "internal/strconv.uint64pow10" .u64 Lib.pow10Tab
 e:∃ m,w.cell? ⟨4,0,J⟩=O (I Q m)
 g:∃ te pe,w.cell? ⟨5,0,J⟩=O (.iface te pe)
 f:∃ te pe,w.cell? ⟨6,0,J⟩=O (.iface te pe)
theorem Sx:prog.globalNamed "internal/strconv.uint64pow10"=O 3:=kr
theorem cN.b{w w':Ω}{c:Nat}(h:cN w)(i:B c w w')(l:11<=c):cN w' where
 a:=h.a.b i l
 d:=λj k=>by rw[i.cell (by show 2<c;omega)];exact h.d j k
 h:=var?_below i Sx om h.h
 e:=by rw[i.cell (by show 4<c;omega)];exact h.e
 g:=by rw[i.cell (by show 5<c;omega)];exact h.g
 f:=by rw[i.cell (by show 6<c;omega)];exact h.f
theorem cN.c{w:Ω}(h:cN w): 11<=w.1.size:=h.a.a
theorem tU(n:Nat):Lib.itoa (n:Int)=aK n:=by unfold Lib.itoa aK;rw[ag om,ir]
theorem Dq(n:Nat)(w:Ω)(c:cN w)(d:n<4294967296):
  Φ prog 48 #[I Q n] w λe b=>e=N (Z ⟨(aK n).toArray⟩)/\B w.1.size w b:=by
 refine(strconv_Itoa (n:Int) om om w c.h).m ?_;rintro e b ⟨a,k,f,rfl⟩;rw[tU]at a;exact⟨a,Lib.below_grow _ _ nl _ _⟩
def kD(c:Nat):List UInt8:=List.replicate c 48
theorem B7:∀c,Lib.repeatL [48] c=kD c
 |0=>rfl
 |c+1=>by rw[Lib.repeatL,B7 c];rfl
theorem I4(c:Nat)(a:Int)(w:Ω)(h:H (a=c))(g:c<=6):
  Φ prog 243 #[Z ⟨#[48]⟩,I Q a] w λe d=>e=N (Z ⟨(kD c).toArray⟩)/\B w.1.size w d:=by
 rw[h.o];refine(strings_Repeat ⟨#[48]⟩ c w om (by show 1*c<=_;omega)).m ?_;rintro e d ⟨b,f⟩;rw[show (⟨#[48]⟩:ByteArray).1.toList=[48] from rfl,B7]at b;exact⟨b,f⟩
def cE(n d:Nat):List UInt8:=kD (d-(aK n).length)++aK n
theorem I3(n d:Nat)(w:Ω)(f:cN w)(h:n<4294967296)(s:d<=6)(p:(aK n).length<=d):
  Φ prog 206 #[I Q n,I Q d] w λe i=>e=N (Z ⟨(cE n d).toArray⟩)/\B w.1.size w i:=by
 have k:H _:=f;have j:H (cE n d=kD (d-(aK n).length)++aK n):=rfl;clear f;go_enter func206,ntmps206;go_wp2_with fail;refine(Dq n _ k.o h).m ?_;rintro e q ⟨rfl,b⟩;have c:H _:=b;clear b;generalize aK n=l at *;go_wp2_with fail;refine(I4 (d-l.length) _ _ ?_ om).m ?_
 ·show _=_;omega
 rintro e r ⟨rfl,a⟩;have g:H _:=a;clear a;have u:(kD (d-l.length)).length<=6:=by simp[kD];omega
 go_wp2;go_ret;refine⟨?_,c.o.t (g.o.m c.o.size)⟩;rw[j.o,<-JI];rfl
end
section
open Go.RowKit
attribute [local go_sem ↓] Go.wp_at_zero Go.wp_at_succ
theorem p8{w w':Ω}(h:cN w)(a:B w.1.size w w'):cN w':=h.b a h.c
theorem KY{w:Ω}(h:cN w):cN w.drew:=h.b (aj w.1.size w).drew h.c
theorem jr{w:Ω}(o:Obj)(h:cN w):cN (w.alloc o):=p8 h (br.l nl o)
def mu(F k C R S:Nat):List ByteArray:=[⟨(aK F).toArray⟩,⟨(cE C (bm k)).toArray⟩,⟨(cE R (bO k)).toArray⟩,⟨(aK S).toArray⟩]
def fN(F k C R S:Nat):List UInt8:=aK F++46::(cE C (bm k)++46::(cE R (bO k)++46::aK S))
theorem CG(F k C R S:Nat):Lib.join ((mu F k C R S).map (·.1.toList)) [46]=fN F k C R S:=by simp[mu,fN,Lib.join,List.intercalate]
theorem nY{n d:Nat}(h:(aK n).length<=d):(cE n d).length=d:=by simp[cE,kD];omega
theorem Fb{F k C R S:Nat}(f:F<=7)(c:(aK C).length<=bm k)(e:(aK R).length<=bO k)(g:S<=16777215):(fN F k C R S).length<=24:=by have a:=iu (n:=F) (d:=1) om om;have b:=iu (n:=S) (d:=8) om om;have:=lH k;have:=lI k;have:=M2 k;simp only[fN,bU,eF,nY c,nY e];omega
theorem D8(j:Nat):(dJ j).size<=6:=by unfold dJ;split<;>decide
def gw(j F k C R S:Nat):ByteArray:=dJ j++⟨#[58]⟩++⟨(fN F k C R S).toArray⟩
theorem KZ(F k C R S a:Nat)(w:Ω)(c:∀(i:Nat)(x:ByteArray),(mu F k C R S)[i]?=O x->w.cell? ⟨a,0+i,J⟩=O (Z x))(b:a<w.1.size)(f:(fN F k C R S).length<=24):
  Φ prog 113 #[M (O ⟨a,0,J⟩) 4 4,Z ⟨#[46]⟩] w λe d=>e=N (Z ⟨(fN F k C R S).toArray⟩)/\B w.1.size w d:=by
 have:=strings_Join a 0 4 (mu F k C R S) ⟨#[46]⟩ w c b (by show 4<=_;omega) (by show 4<=4;omega) (by rw[show (⟨#[46]⟩:ByteArray).1.toList=[46] from rfl,CG];omega);rw[show (⟨#[46]⟩:ByteArray).1.toList=[46] from rfl,CG]at this;exact this
theorem M3(j F k C R S:Nat)(w:Ω)(hT:cN w)(y:cF (j+1:Nat) F k C R S=true):
  Φ prog 155 #[.agg #[I Q ((j:Int)+1),I Q F,I Q k,I Q C,I Q R,I Q S]] w λe g=>e=N (Ψ #[Z (gw j F k C R S),.nilIface])/\B w.1.size w g:=by
 obtain⟨o1,o2,o3,o4,o5,X,o7⟩:=qF y;have lC:(aK C).length<=bm k:=iu X (lH k).1;have lR:(aK R).length<=bO k:=iu o7 (lI k).1;have T:=lH k;have a1:=lI k;have hC:C<4294967296:=bg X (aP (jI om T.2) dc);have hR:R<4294967296:=bg o7 (aP (jI om a1.2) dc);have hkI:(k:Int)<6:=om;have hjI:(j:Int)<3:=om;have G:gG ((j:Int)+1) F k C R S=.nilIface:=by simp only[gG];rw[ak (by simpa using y)]
 have L:H _:=hT;clear y X o7 hT;go_enter func155,ntmps155;go_wp2_with fail;refine(vb _ F k C R S _ (L.o.a.b ((aj _ w).l nl _) L.o.c)).m ?_;rintro e s ⟨rfl,D⟩;rw[G];obtain⟨s1,v,d0,d1,d2,d3,d4,d5⟩:=eM D;have q:=L.o.b v L.o.c;have q0:=q.a.c k om;have q1:=q.a.d k om;have q2:=q.a.e k om;have q3:=q.a.f k om;have u:H _:=q;clear G q;have HB:H _:=v;clear D v;go_upto_region 5 with fail
 have h:B s.1.size s (s.alloc (Δ #[I Q (bi k),I Q (bm k),I Q (bq k),I Q (bO k)] 263)):=ba;have e0:=aH h d0;have e1:=aH h d1;have e3:=aH h d3;have e4:=aH h d4;have e5:=aH h d5;have p1:(s.alloc (Δ #[I Q (bi k),I Q (bm k),I Q (bq k),I Q (bO k)] 263)).cell? ⟨s.1.size,1,J⟩=O (I Q (bm k)):=by go_simp
 have p3:(s.alloc (Δ #[I Q (bi k),I Q (bm k),I Q (bq k),I Q (bO k)] 263)).cell? ⟨s.1.size,3,J⟩=O (I Q (bO k)):=by go_simp
 have a0:=u.o.b h u.o.c;have K:=HB.o.t (h.m (gv s1));clear h d0 d1 d2 d3 d4 d5 q0 q1 q2 q3 u HB L;generalize s.alloc (Δ #[I Q (bi k),I Q (bm k),I Q (bq k),I Q (bO k)] 263)=W at *;have A:H _:=K;have U:B W.1.size W W:=aj _ _;clear K;go_cut [6] (λf V=>∃P:Nat,f=M (O ⟨P,0,J⟩) 4 4/\P<V.1.size/\(∀(i:Nat)(x:ByteArray),(mu F k C R S)[i]?=O x->V.cell? ⟨P,0+i,J⟩=O (Z x))/\cN V/\B W.1.size W V/\V.cell? ⟨w.1.size,0,J⟩=O (I Q ((j:Int)+1)))
 case first=>
  go_region_held3 (λg=>g.cell? ⟨w.1.size,0,J⟩=O (I Q ((j:Int)+1))/\g.cell? ⟨w.1.size,1,J⟩=O (I Q F)/\g.cell? ⟨w.1.size,3,J⟩=O (I Q C)/\g.cell? ⟨w.1.size,4,J⟩=O (I Q R)/\g.cell? ⟨w.1.size,5,J⟩=O (I Q S)/\g.cell? ⟨s.1.size,1,J⟩=O (I Q (bm k))/\g.cell? ⟨s.1.size,3,J⟩=O (I Q (bO k))/\cN g/\B W.1.size W g)
   (first|exact⟨pZ ‹_›,pZ ‹_›,pZ ‹_›,pZ ‹_›,pZ ‹_›,pZ ‹_›,pZ ‹_›,KY ‹_›,ma ‹_›⟩|(go_split_ands;exact⟨nW _ ‹_›,nW _ ‹_›,nW _ ‹_›,nW _ ‹_›,nW _ ‹_›,nW _ ‹_›,nW _ ‹_›,jr _ ‹_›,l9 _ ‹_›⟩)|(go_split_ands;exact⟨aH n ‹_›,aH n ‹_›,aH n ‹_›,aH n ‹_›,aH n ‹_›,aH n ‹_›,aH n ‹_›,p8 ‹_› n,bQ ‹_› n⟩))
   (first|(go_at_call 48;go_split_ands;refine(Dq _ _ ‹_› om).m ?_;rintro e g ⟨rfl,n⟩)|(go_at_call 206;go_split_ands;refine(I3 _ _ _ ‹_› om om om).m ?_;rintro e g ⟨rfl,n⟩))
  rename_i hH;go_wp2;go_meet;obtain⟨g0,-,-,-,-,-,-,E,z⟩:=hH;refine⟨_,rfl,by simp,?_,E,z,g0⟩;intro i x r
  match i,r with
 |0,r|1,r|2,r|3,r=>simp[mu]at r;subst r;go_simp
 |_+4,r=>simp[mu]at r
 obtain⟨P,rfl,hbk,p,E,z,g0⟩:=hcut;clear e0 e1 e3 e4 e5 p1 p3 a0 U;have gk:=E.d j om;have a4:H _:=p;have GT:H _:=E;have GB:H _:=z;clear p E z;have a3:=Fb o3 lC lR o5;have hks:=D8 j;have hks1:¬9223372036854775807<(dJ j).size+(⟨#[58]⟩:ByteArray).size:=by show ¬_<(dJ j).size+1;omega
 have hks2:¬9223372036854775807<(dJ j++(⟨#[58]⟩:ByteArray)).size+(⟨(fN F k C R S).toArray⟩:ByteArray).size:=by rw[qW];show ¬_<(dJ j).size+1+(fN F k C R S).toArray.size;rw[List.size_toArray];omega
 have hks3:¬9223372036854775807<(dJ j).size+1:=om;have hks4:¬9223372036854775807<(dJ j).size+1+(fN F k C R S).length:=om;have hj0:(0:Int)<=(j:Int):=om;have a2:IntKind.i64.wrap (j:Int)=(j:Int):=by simp[IntKind.wrap,IntKind.bits,IntKind.signed];omega
 have hw2:IntKind.i64.wrap ((j:Int)+1-1)=(j:Int):=by rw[show (j:Int)+1-1=j by omega];exact a2
 go_upto_region 6 with fail;have hww:B wc.1.size wc wc:=aj _ _
 go_region_held3 (λg=>g.cell? ⟨w.1.size,0,J⟩=O (I Q ((j:Int)+1))/\g.cell? ⟨2,j,J⟩=O (Z (dJ j))/\B wc.1.size wc g)
  (first|exact⟨pZ ‹_›,pZ ‹_›,ma ‹_›⟩|(go_split_ands;exact⟨aH n ‹_›,aH n ‹_›,bQ ‹_› n⟩))
  (first|(go_at_call 113;go_split_ands;refine(KZ F k C R S P _ ?_ (by simpa using hbk) a3).m ?_;(exact λi x r=>a4.o i x r);rintro e g ⟨rfl,n⟩))
 rename_i hH;go_wp2;go_ret2;obtain⟨-,-,z⟩:=hH;refine⟨rfl,?_⟩;exact A.o.t ((GB.o.t (z.m GB.o.size)).m A.o.size)
end
section
open Go.RowKit
theorem M4(K F P C R S:Int)(w:Ω)(h:dy w)(c:cF K F P C R S=false):
  Φ prog 155 #[.agg #[I Q K,I Q F,I Q P,I Q C,I Q R,I Q S]] w λe i=>e=N (Ψ #[Z ⟨#[]⟩,.iface 57 (I Q 1)])/\B w.1.size w i:=by
 have g:gG K F P C R S=.iface 57 (I Q 1):=by simp[gG,c]
 go_enter func155,ntmps155;go_wp2_with fail;refine(vb K F P C R S _ (h.b ((aj _ w).l nl _) h.a)).m ?_;rintro e p ⟨rfl,f⟩;rw[g];obtain⟨q,d,s,n,r,u,k,t⟩:=eM f;have j:=hid d;go_wp2;go_ret2;exact⟨rfl,j.o⟩
theorem Dr(a b:ByteArray):(a.toList == b.toList)=true↔a=b:=by
 rw[cY,cY,beq_iff_eq];constructor
 ·intro h;apply ke;exact nU.1 h
 rintro rfl;rfl
theorem vd{a b:ByteArray}(h:a=b):(a.toList == b.toList)=true:=(Dr a b).2 h
theorem uW{a b:ByteArray}(h:¬a=b):(a.toList == b.toList)=false:=by
 cases e:(a.toList == b.toList) with
 |true=>exact absurd ((Dr a b).1 e) h
 |false=>rfl
def py(b:ByteArray):Nat:=if dJ 0=b then 1 else if dJ 1=b then 2 else if dJ 2=b then 3 else 0
theorem Sy(a b c:Value)(w:Ω):(Instr.index 297 (.agg #[a,b,c]) (I Q 0)).run prog w=.ok a w:=kr
theorem Sz(a b c:Value)(w:Ω):(Instr.index 297 (.agg #[a,b,c]) (I Q 1)).run prog w=.ok b w:=kr
theorem SA(a b c:Value)(w:Ω):(Instr.index 297 (.agg #[a,b,c]) (I Q 2)).run prog w=.ok c w:=kr
theorem I5(b:ByteArray)(w:Ω)(r:w.cell? ⟨2,0,J⟩=O (Z (dJ 0)))(u:w.cell? ⟨2,1,J⟩=O (Z (dJ 1)))(t:w.cell? ⟨2,2,J⟩=O (Z (dJ 2))):
  Φ prog 229 #[Z b] w λe m=>e=N (I Q (py b:Nat))/\m=w:=by
 have q:=Sy;have p:=Sz;have s:=SA;go_enter func229,ntmps229;go_wp2;go_loop [3,4,6] (λ_ _ i=>∃k:Nat,k<=3/\i=I Q k/\∀j:Nat,j<k->dJ j≠b) (λ_ _ i=>3-(intOf i).toNat)
 case atStart=>exact⟨0,aX _,rfl,λj h=>by omega⟩
 case round=>
  obtain⟨k,n,rfl,g⟩:=hrel;have f:=hid g
  match k,n with
 |0,_=>
   by_cases a:dJ 0=b
   ·have c:=vd a;have d:=hid a;go_wp2;go_ret;refine⟨?_,rfl⟩;unfold py;rw[ak d.o];rfl
   ·have c:=uW a;have d:=hid a;go_wp2;go_round
    case rel=>exact⟨1,om,rfl,λj l=>by
     by_cases e:j=0
     ·subst e;exact d.o
     ·exact f.o j om⟩
    simp[intOf]
 |1,_=>
   by_cases a:dJ 1=b
   ·have c:=vd a;have d:=hid a;go_wp2;go_ret;refine⟨?_,rfl⟩;unfold py;rw[ag (f.o 0 om)];rw[ak d.o];rfl
   ·have c:=uW a;have d:=hid a;go_wp2;go_round
    case rel=>exact⟨2,om,rfl,λj l=>by
     by_cases e:j=1
     ·subst e;exact d.o
     ·exact f.o j om⟩
    simp[intOf]
 |2,_=>
   by_cases a:dJ 2=b
   ·have c:=vd a;have d:=hid a;go_wp2;go_ret;refine⟨?_,rfl⟩;unfold py;rw[ag (f.o 0 om)];rw[ag (f.o 1 om)];rw[ak d.o];rfl
   ·have c:=uW a;have d:=hid a;go_wp2;go_round
    case rel=>exact⟨3,om,rfl,λj l=>by
     by_cases e:j=2
     ·subst e;exact d.o
     ·exact f.o j om⟩
    simp[intOf]
 |3,_=>
   go_wp2;go_ret;refine⟨?_,rfl⟩;unfold py;rw[ag (f.o 0 om),ag (f.o 1 om),ag (f.o 2 om)];rfl
end
section
open Go.RowKit
def sM(s:ByteArray):ByteArray:=⟨(Lib.cut s.1.toList [58]).1.toArray⟩
def fY(s:ByteArray):ByteArray:=⟨(Lib.cut s.1.toList [58]).2.1.toArray⟩
def SB(s:ByteArray):Bool:=(Lib.cut s.1.toList [58]).2.2
theorem CH(s:ByteArray):(fY s).size<=s.size:=by
 show (Lib.cut s.1.toList [58]).2.1.toArray.size<=_;rw[List.size_toArray];unfold Lib.cut;split
 ·simp
 simp
theorem D9(s:ByteArray)(w:Ω)(c:cN w)(b:s.size<4294967281):
  Φ prog 126 #[Z s,Z ⟨#[58]⟩] w λe a=>e=N (Ψ #[Z (sM s),Z (fY s),.bool (SB s)])/\∃n,a=w.drewN n:=by
 obtain⟨m,d⟩:=c.e;exact strings_Cut s ⟨#[58]⟩ m w b d
def fI(r:ByteArray):List ByteArray:=Lib.splitB ⟨#[46]⟩ 0 (min 4 (r.size+1)-1) r
theorem CI(r:ByteArray)(w:Ω)(g:cN w)(d:r.size<4294967281):
  Φ prog 228 #[Z r,Z ⟨#[46]⟩,I Q 4] w λe a=>e=N (M (O ⟨w.1.size,0,J⟩) (fI r).length (min 4 (r.size+1)))/\B w.1.size w a/\a.1.size=w.1.size+1/\∀(i:Nat)(x:ByteArray),(fI r)[i]?=O x->a.cell? ⟨w.1.size,i,J⟩=O (Z x):=by
 obtain⟨m,j⟩:=g.e;refine(strings_SplitN r ⟨#[46]⟩ 4 m w d j dc om om).m ?_;rintro e a ⟨c,rfl⟩;refine⟨c,ba,by simp,?_⟩;intro i x b;go_simp;show (Lib.cellsOf (fI r) _)[i]?=_
 have f:i<(fI r).length:=by
  rcases gQ i (fI r).length with h|h
  ·exact h
  rw[iV h]at b;cases b
 unfold Lib.cellsOf;rw[List.getElem?_toArray,gO (by simpa using f),eE,b];rfl
def iv(x:ByteArray):Option Int:=match Lib.atoiAll x.1.toList with
 |.ok v=>O v
 |_=>J
theorem Ic(w:Ω)(t:ByteArray):B w.1.size w (Lib.bytesWorld w 5 t):=by exact⟨rfl,rfl,rfl,by rw[Lib.bytesWorld_size];omega,λj a=>Lib.bytesWorld_at_old w 5 t j a⟩
theorem M6(x:ByteArray)(v:Int)(w:Ω)(d:x.size<4294967281)(h:iv x=O v):
  Φ prog 91 #[Z x] w λe b=>e=N (Ψ #[I Q v,.nilIface])/\B w.1.size w b:=by
 have c:Lib.atoiAll x.1.toList=.ok v:=by
  unfold iv at h;split at h
  ·cases h;assumption
  cases h
 refine(strconv_Atoi_ok x om v c w).m ?_;rintro e b ⟨a,rfl|⟨t,rfl⟩⟩
 ·exact⟨a,aj _ _⟩
 exact⟨a,Ic w t⟩
theorem M5(x:ByteArray)(w:Ω)(l:cN w)(n:x.size<4294967281)(h:iv x=J):
  Φ prog 91 #[Z x] w λe d=>∃v a,e=N (Ψ #[I Q v,.iface 255 (Y (O ⟨a,0,J⟩))])/\B w.1.size w d:=by
 cases h':Lib.atoiAll x.1.toList with
 |ok v=>unfold iv at h;rw[h']at h;cases h
 |«syntax»=>
  obtain⟨b,k,j⟩:=l.g;refine(strconv_Atoi_syntax x om h' _ w j (ah ⟨b,k,rfl⟩)).m ?_;rintro e d ⟨a,c,_,_,i⟩;exact⟨_,a,c,i⟩
 |range=>
  obtain⟨b,k,j⟩:=l.f;refine(strconv_Atoi_range x om h' _ w j (ah ⟨b,k,rfl⟩)).m ?_;rintro e d ⟨a,c,_,_,i⟩;exact⟨_,a,c,i⟩
end
section
open Go.RowKit
attribute [local go_sem ↓] Go.wp_at_zero Go.wp_at_succ
def eW(xs:List ByteArray)(i:Nat):Int:=((xs[i]?).bind iv).getD 0
structure uO (w:Ω) (res fb nb:Nat) (xs:List ByteArray) (k:Nat) (V:Ω):Prop where
 c:cN V
 d:B w.1.size w V
 a:∀j:Nat,j<6->V.cell? ⟨res,j,J⟩=O (I Q 0)/\V.frozen? ⟨res,j,J⟩=false
 f:∀(i:Nat)(x:ByteArray),xs[i]?=O x->V.cell? ⟨fb,i,J⟩=O (Z x)
 b:∀j:Nat,j<4->V.cell? ⟨nb,j,J⟩=O (I Q (if j<k then eW xs j else 0))/\V.frozen? ⟨nb,j,J⟩=false
 e:w.1.size<=res/\res<fb/\fb<nb/\nb<V.1.size
 g:11<=w.1.size
theorem uO.h{w V V':Ω}{o p q k:Nat}{xs:List ByteArray}(h:uO w o p q xs k V)(l:B V.1.size V V'):uO w o p q xs k V' where
 c:=p8 h.c l
 d:=h.d.t (l.m h.d.size)
 a:=λj n=>⟨aH l (h.a j n).1,by rw[l.frozen (rJ _ _ (h.a j n).1)];exact(h.a j n).2⟩
 f:=λi x r=>aH l (h.f i x r)
 b:=λj n=>⟨aH l (h.b j n).1,by rw[l.frozen (rJ _ _ (h.b j n).1)];exact(h.b j n).2⟩
 e:=⟨h.e.1,h.e.2.1,h.e.2.2.1,bg h.e.2.2.2 l.size⟩
 g:=h.g
theorem uO.l{w V:Ω}{n s m k:Nat}{xs:List ByteArray}(h:uO w n s m xs k V)(z:k<4):uO w n s m xs (k+1) (V.setCell ⟨m,k,J⟩ (I Q (eW xs k))):=by
 have r:B m V (V.setCell ⟨m,k,J⟩ (I Q (eW xs k))):=(aj m V).c (p:=⟨m,k,J⟩) nl _;have q:=h.e;have v:=h.g;refine⟨?_,?_,?_,?_,?_,?_,v⟩
 ·exact h.c.b r om
 ·exact h.d.c (by show w.1.size<=m;omega) _
 ·intro j o;rw[r.cell (by show n<m;omega),r.frozen (by show n<m;omega)];exact h.a j o
 ·intro i x y;rw[r.cell (by show s<m;omega)];exact h.f i x y
 ·intro j o;rw[oR];refine⟨?_,(h.b j o).2⟩;by_cases e:j=k
  ·subst e;rw[nR _ _ _ (by rw[(h.b j o).1];rfl),ak om]
  rw[dB (a:=⟨m,k,J⟩) (b:=⟨m,j,J⟩) (h:=by intro u;cases u;exact e rfl),(h.b j o).1];by_cases t:j<k
  ·rw[ak t,ak om]
  rw[ag t,ag om]
 exact⟨q.1,q.2.1,q.2.2.1,by simpa using q.2.2.2⟩
def vr:Value:=Ψ #[cJ,.bool false]
def q9(s:ByteArray):Value:=
 Ψ #[nD (py (sM s):Nat) (eW (fI (fY s)) 0) (6-((((fI (fY s))[1]?).getD ByteArray.empty).size:Int)) (eW (fI (fY s)) 1) (eW (fI (fY s)) 2) (eW (fI (fY s)) 3),.bool true]
theorem CJ{w:Ω}{d:Nat}(h:cN w):cN (w.drewN d):=h.b (kT (aj w.1.size w) d) h.c
theorem qk{w:Ω}{r:Nat}{a:Addr}{v:Value}(i g e c d f:Value)(h:w.cell? a=O v)(b:r≠a.block):
  ((((((w.setCell ⟨r,0,J⟩ i).setCell ⟨r,1,J⟩ g).setCell ⟨r,2,J⟩ e).setCell ⟨r,3,J⟩ c).setCell ⟨r,4,J⟩ d).setCell ⟨r,5,J⟩ f).cell? a=O v:=by
 rw[dT _ _ _ _ b,dT _ _ _ _ b,dT _ _ _ _ b,dT _ _ _ _ b,dT _ _ _ _ b,dT _ _ _ _ b];exact h
theorem M7(w:Ω)(a:Addr)(v:Value):w.drew.setCell a v=(w.setCell a v).drew:=rfl
theorem K0(w:Ω)(a:Addr):w.drew.cell? a=w.cell? a:=rfl
theorem M9{W:Ω}{r f i:Nat}{l p k q s m n o t:Value}(C:r≠1)(j:r≠2)(h:r≠f)(v:r≠i)
  (u:W.cell? ⟨f,0,J⟩=O l)(D:W.cell? ⟨f,1,J⟩=O p)(y:W.cell? ⟨f,2,J⟩=O k)(w:W.cell? ⟨f,3,J⟩=O q)(z:W.cell? ⟨1,1,J⟩=O s)(F:W.cell? ⟨i,1,J⟩=O m)
  (x:W.cell? ⟨2,0,J⟩=O n)(E:W.cell? ⟨2,1,J⟩=O o)(A:W.cell? ⟨2,2,J⟩=O t)(b g d a c e:Value):
  ((((((W.setCell ⟨r,0,J⟩ b).setCell ⟨r,1,J⟩ g).setCell ⟨r,2,J⟩ d).setCell ⟨r,3,J⟩ a).setCell ⟨r,4,J⟩ c).setCell ⟨r,5,J⟩ e).drew.cell? ⟨f,0,J⟩=O l
  /\ ((((((W.setCell ⟨r,0,J⟩ b).setCell ⟨r,1,J⟩ g).setCell ⟨r,2,J⟩ d).setCell ⟨r,3,J⟩ a).setCell ⟨r,4,J⟩ c).setCell ⟨r,5,J⟩ e).drew.cell? ⟨f,1,J⟩=O p
  /\ ((((((W.setCell ⟨r,0,J⟩ b).setCell ⟨r,1,J⟩ g).setCell ⟨r,2,J⟩ d).setCell ⟨r,3,J⟩ a).setCell ⟨r,4,J⟩ c).setCell ⟨r,5,J⟩ e).drew.cell? ⟨f,2,J⟩=O k
  /\ ((((((W.setCell ⟨r,0,J⟩ b).setCell ⟨r,1,J⟩ g).setCell ⟨r,2,J⟩ d).setCell ⟨r,3,J⟩ a).setCell ⟨r,4,J⟩ c).setCell ⟨r,5,J⟩ e).drew.cell? ⟨f,3,J⟩=O q
  /\ ((((((W.setCell ⟨r,0,J⟩ b).setCell ⟨r,1,J⟩ g).setCell ⟨r,2,J⟩ d).setCell ⟨r,3,J⟩ a).setCell ⟨r,4,J⟩ c).setCell ⟨r,5,J⟩ e).drew.cell? ⟨1,1,J⟩=O s
  /\ ((((((W.setCell ⟨r,0,J⟩ b).setCell ⟨r,1,J⟩ g).setCell ⟨r,2,J⟩ d).setCell ⟨r,3,J⟩ a).setCell ⟨r,4,J⟩ c).setCell ⟨r,5,J⟩ e).drew.cell? ⟨i,1,J⟩=O m
  /\ ((((((W.setCell ⟨r,0,J⟩ b).setCell ⟨r,1,J⟩ g).setCell ⟨r,2,J⟩ d).setCell ⟨r,3,J⟩ a).setCell ⟨r,4,J⟩ c).setCell ⟨r,5,J⟩ e).drew.cell? ⟨2,0,J⟩=O n
  /\ ((((((W.setCell ⟨r,0,J⟩ b).setCell ⟨r,1,J⟩ g).setCell ⟨r,2,J⟩ d).setCell ⟨r,3,J⟩ a).setCell ⟨r,4,J⟩ c).setCell ⟨r,5,J⟩ e).drew.cell? ⟨2,1,J⟩=O o
  /\ ((((((W.setCell ⟨r,0,J⟩ b).setCell ⟨r,1,J⟩ g).setCell ⟨r,2,J⟩ d).setCell ⟨r,3,J⟩ a).setCell ⟨r,4,J⟩ c).setCell ⟨r,5,J⟩ e).drew.cell? ⟨2,2,J⟩=O t:=by
 simp only[K0];exact⟨qk _ _ _ _ _ _ u h,qk _ _ _ _ _ _ D h,qk _ _ _ _ _ _ y h,qk _ _ _ _ _ _ w h,qk _ _ _ _ _ _ z C,qk _ _ _ _ _ _ F v,qk _ _ _ _ _ _ x j,qk _ _ _ _ _ _ E j,qk _ _ _ _ _ _ A j⟩
theorem BN(s:ByteArray)(a b:Nat):(s.extract a b).size<=s.size:=by rw[pM];omega
theorem B8(a:ByteArray):∀(k:Nat)(s x:ByteArray),x∈Lib.splitB a 0 k s->x.size<=s.size
 |0,s,x,h=>by rw[Lib.splitB_zero]at h;simp at h;rw[h];exact aa _
 |k+1,s,x,h=>by
  unfold Lib.splitB at h;split at h
  ·simp at h;rw[h];exact aa _
  rcases jN.1 h with h|h
  ·rw[h];exact BN _ _ _
  exact aP (B8 a k _ x h) (BN _ _ _)
theorem Cp{r x:ByteArray}{i:Nat}(h:(fI r)[i]?=O x):x.size<=r.size:=B8 _ _ _ _ (iW h)
theorem Fc{w a:Ω}{d:Nat}{xs:List ByteArray}{W:Ω}(f:cN w)(g:W=(w.alloc (Δ #[I Q 0,I Q 0,I Q 0,I Q 0,I Q 0,I Q 0] 94)).drewN d)
  (e:B W.1.size W a)(p:a.1.size=W.1.size+1)(n:∀(i:Nat)(x:ByteArray),xs[i]?=O x->a.cell? ⟨W.1.size,i,J⟩=O (Z x)):
  cN a/\B w.1.size w a/\a.1.size=w.1.size+1+1/\(∀j:Nat,j<6->a.cell? ⟨w.1.size,j,J⟩=O (I Q 0)/\a.frozen? ⟨w.1.size,j,J⟩=false)/\(∀(i:Nat)(x:ByteArray),xs[i]?=O x->a.cell? ⟨w.1.size+1,i,J⟩=O (Z x)):=by
 have o:W.1.size=w.1.size+1:=by rw[g];simp
 have k:B w.1.size w W:=by rw[g];exact kT ((aj _ w).l nl _) _
 refine⟨(f.b k f.c).b e (by have:=f.c;omega),k.t (e.m om),om,?_,?_⟩
 ·intro j r;rw[e.cell (by show w.1.size<_;omega),e.frozen (by show w.1.size<_;omega),g]
  match j,r with
 |0,_|1,_|2,_|3,_|4,_|5,_=>exact⟨by go_simp,by go_simp⟩
 |_+6,h=>omega
 intro i x q;rw[<-o];exact n i x q
theorem JL(s:ByteArray)(w:Ω)(f:cN w)(n:s.size<4294967281)(r:(fI (fY s)).length≠4):
  Φ prog 182 #[Z s] w λe q=>e=N vr/\B w.1.size w q:=by
 have l:(((fI (fY s)).length:Int) != 4)=true:=by simp;omega
 have T:=CH s;have d:H _:=f;clear r f;have D:=oY;have k:=uV;go_enter func182,ntmps182;go_wp2_with fail;refine(D9 s _ (jr _ d.o) n).m ?_;rintro e P ⟨rfl,K,rfl⟩;go_wp2_with fail;refine(CI _ _ ?_ om).m ?_
 ·exact CJ (jr _ d.o)
 rintro e G ⟨rfl,g,b,h⟩;obtain⟨t,i,p,a,E⟩:=Fc d.o rfl g b h;obtain⟨z,L⟩:=a 0 om;obtain⟨A,U⟩:=a 1 om;obtain⟨u,R⟩:=a 2 om;obtain⟨j,F⟩:=a 3 om;obtain⟨x,S⟩:=a 4 om;obtain⟨C,V⟩:=a 5 om;have y:H _:=i;clear g b h t i p a E;go_wp2;clear D k;refine bK (v:=Ψ #[cJ,.bool false]) (by simp[results,results182,go_sem,cJ,z,A,u,j,x,C]) rfl ⟨rfl,?_⟩;exact(((((y.o.c nl _).c nl _).c nl _).c nl _).c nl _).c nl _
theorem M8(s:ByteArray)(w:Ω)(hT:cN w)(hs:s.size<4294967281)(xs:List ByteArray)(D:xs=fI (fY s))(h4:xs.length=4)(v:Value)
  (hv:v=if (xs[0]?.bind iv).isSome&&(xs[1]?.bind iv).isSome&&(xs[2]?.bind iv).isSome&&(xs[3]?.bind iv).isSome then q9 s else vr):
  Φ prog 182 #[Z s] w λe w'=>e=N v/\B w.1.size w w':=by
 have h4':((xs.length:Int) != 4)=false:=by simp;omega
 have hlen:4<=xs.length:=om;have hr:=CH s;have HT:H _:=hT;have H4:H (xs.length=4):=h4;have HV:H (v=_):=hv;have HX:H (xs=fI (fY s)):=D;clear h4 hT hv D;have r1:=oY;have r2:=uV;go_enter func182,ntmps182;go_wp2_with fail;refine(D9 s _ (jr _ HT.o) hs).m ?_;rintro e w1 ⟨rfl,d1,rfl⟩;go_wp2_with fail;refine(CI _ _ ?_ om).m ?_
 ·exact CJ (jr _ HT.o)
 rw[<-HX.o];rintro e y ⟨rfl,hb,hsz,hc⟩;obtain⟨z1,z2,z3,z4,z5⟩:=Fc HT.o rfl hb hsz hc;clear hb hsz hc;have C:B y.1.size y (y.alloc (Δ #[I Q 0,I Q 0,I Q 0,I Q 0] 31)):=ba
 have hGS:uO w w.1.size (w.1.size+1) y.1.size xs 0 (y.alloc (Δ #[I Q 0,I Q 0,I Q 0,I Q 0] 31)):=by
  refine⟨jr _ z1,z2.t (C.m om),λj hj=>?_,λi x hx=>aH C (z5 i x hx),λj hj=>?_,⟨aa _,om,om,by simp⟩,HT.o.c⟩
  ·exact⟨aH C (z4 j hj).1,by rw[C.frozen (by show w.1.size<_;omega)];exact(z4 j hj).2⟩
  match j,hj with
 |0,_|1,_|2,_|3,_=>exact⟨by go_simp,by go_simp⟩
 |_+4,h=>omega
 have HG:H _:=hGS;clear hGS C z1 z2 z4 z5;have Z3:H _:=z3;clear z3;go_wp2;go_loopw [9,10,11,24] (λ_ _ _ i V=>∃k:Nat,k<=4/\i=I Q k/\uO w w.1.size (w.1.size+1) y.1.size xs k V/\∀j:Nat,j<k->(xs[j]?.bind iv).isSome=true) (λ_ _ _ i _=>4-(intOf i).toNat)
 case atStart=>exact⟨0,aX _,rfl,HG.o,λj h=>by omega⟩
 obtain⟨k,hk,rfl,hG,hS⟩:=hrel;have q:H _:=hG;have HS:H _:=hS;clear hG hS HG;by_cases T:k<4
 ·have hlt':(k:Int)<4:=om;have hlx:(k:Int)<(xs.length:Int):=om;obtain⟨x,hx⟩:∃x,xs[k]?=O x:=⟨xs[k]'om,bc om⟩;have G:H _:=hx;have hfc:=q.o.f k x hx;clear hx;have D:x.size<4294967281:=(by have:=Cp (r:=fY s) (i:=k) (x:=x) (by rw[<-HX.o];exact G.o);omega);cases hav:iv x with
 |none=>
   have A:H _:=hav;clear hav;go_wp2_with fail;refine(M5 x _ q.o.c D A.o).m ?_;rintro e w3 ⟨v3,p,rfl,E⟩;have u:=q.o.h E;obtain⟨a0,b0⟩:=u.a 0 om;obtain⟨a1,b1⟩:=u.a 1 om;obtain⟨a2,b2⟩:=u.a 2 om;obtain⟨a3,b3⟩:=u.a 3 om;obtain⟨a4,b4⟩:=u.a 4 om;obtain⟨a5,b5⟩:=u.a 5 om;have R:H _:=u;clear E u;go_wp2
   have S:v=vr:=by
    rw[HV.o,ag];intro hh;simp only[jo]at hh;have L:(xs[k]?.bind iv).isSome=false:=by rw[G.o];simp[A.o]
    match k,T,L with
   |0,_,z=>rw[hh.1.1.1]at z;cases z
   |1,_,z=>rw[hh.1.1.2]at z;cases z
   |2,_,z=>rw[hh.1.2]at z;cases z
   |3,_,z=>rw[hh.2]at z;cases z
   rw[S];clear r1 r2;refine bK (v:=Ψ #[cJ,.bool false]) (by simp[results,results182,go_sem,cJ,a0,a1,a2,a3,a4,a5]) rfl ⟨rfl,?_⟩;exact(((((R.o.d.c nl _).c nl _).c nl _).c nl _).c nl _).c nl _
 |some n=>
   have A:H _:=hav;clear hav;go_wp2_with fail;refine(M6 x n _ D A.o).m ?_;rintro e w3 ⟨rfl,E⟩;have u:=q.o.h E;obtain⟨a0,b0⟩:=u.b k T;have R:H _:=u;clear E u;go_wp2;go_roundw
   case rel=>
    have z:eW xs k=n:=(by unfold eW;rw[G.o];simp[A.o]);refine⟨k+1,om,by go_num,by have:=R.o.l T;rw[z]at this;exact this,?_⟩;intro j hj;by_cases e:j=k
    ·subst e;rw[G.o];simp[A.o]
    exact HS.o j om
   simp[intOf];omega
 obtain rfl:k=4:=om;have S:H (v=q9 s):=(by have h0:=HS.o 0 om;have h1:=HS.o 1 om;have h2:=HS.o 2 om;have h3:=HS.o 3 om;show v=q9 s;rw[HV.o,ak];rw[h0,h1,h2,h3];rfl);obtain⟨F,P⟩:∃x,xs[1]?=O x:=⟨xs[1]'om,bc om⟩;have U:H _:=P;have f1:=q.o.f 1 F P;clear P;have hx1s:F.size<4294967281:=(by have:=Cp (r:=fY s) (i:=1) (x:=F) (by rw[<-HX.o];exact U.o);omega);obtain⟨a0,b0⟩:=q.o.a 0 om;obtain⟨a1,b1⟩:=q.o.a 1 om;obtain⟨a2,b2⟩:=q.o.a 2 om;obtain⟨a3,b3⟩:=q.o.a 3 om;obtain⟨a4,b4⟩:=q.o.a 4 om;obtain⟨a5,b5⟩:=q.o.a 5 om;have n0:=(q.o.b 0 om).1;have n1:=(q.o.b 1 om).1;have n2:=(q.o.b 2 om).1;have n3:=(q.o.b 3 om).1;rw[ak om]at n0 n1 n2 n3;have k0:=q.o.c.d 0 om;have k1:=q.o.c.d 1 om;have k2:=q.o.c.d 2 om;have q1:=q.o.c.a.d 0 om;have e1:w.1.size≠1:=(by have:=q.o.g;omega);have e2:w.1.size≠2:=(by have:=q.o.g;omega);have e4:w.1.size≠w.1.size+1:=om;have e3:w.1.size≠y.1.size:=(by have:=Z3.o;omega);have X:wr.cell? ⟨1,1,J⟩=O (I Q 6):=q1;have hl1:(1:Int)<(xs.length:Int):=om;have hl0:(0:Int)<=1:=om;have hwr:IntKind.i64.wrap (6-(F.size:Int))=6-(F.size:Int):=(by have:-9223372036854775808<=6-(F.size:Int):=om;simp[IntKind.wrap,IntKind.bits,IntKind.signed];omega);have hY:H (q9 s=Ψ #[.agg #[I Q (py (sM s):Nat),I Q (eW xs 0),I Q (6-(F.size:Int)),I Q (eW xs 1),I Q (eW xs 2),I Q (eW xs 3)],.bool true]):=(by show q9 s=_;unfold q9;rw[<-HX.o,U.o];rfl);clear q1 hs HV HX H4 HT h4';have K:wr.drew.cell? ⟨y.1.size,0,J⟩=O (I Q (eW xs 0))/\wr.drew.cell? ⟨y.1.size,1,J⟩=O (I Q (eW xs 1))/\wr.drew.cell? ⟨y.1.size,2,J⟩=O (I Q (eW xs 2))/\wr.drew.cell? ⟨y.1.size,3,J⟩=O (I Q (eW xs 3))/\wr.drew.cell? ⟨1,1,J⟩=O (I Q 6)/\wr.drew.cell? ⟨w.1.size+1,1,J⟩=O (Z F)/\wr.drew.cell? ⟨2,0,J⟩=O (Z (dJ 0))/\wr.drew.cell? ⟨2,1,J⟩=O (Z (dJ 1))/\wr.drew.cell? ⟨2,2,J⟩=O (Z (dJ 2)):=⟨n0,n1,n2,n3,X,f1,k0,k1,k2⟩;have hS1:=M9 (W:=wr) e1 e2 e3 e4 n0 n1 n2 n3 X f1 k0 k1 k2;go_upto_region 14 with fail
 go_region_held3 (λV=>V.cell? ⟨y.1.size,0,J⟩=O (I Q (eW xs 0))/\V.cell? ⟨y.1.size,1,J⟩=O (I Q (eW xs 1))/\V.cell? ⟨y.1.size,2,J⟩=O (I Q (eW xs 2))/\V.cell? ⟨y.1.size,3,J⟩=O (I Q (eW xs 3))/\V.cell? ⟨1,1,J⟩=O (I Q 6)/\V.cell? ⟨w.1.size+1,1,J⟩=O (Z F)/\V.cell? ⟨2,0,J⟩=O (Z (dJ 0))/\V.cell? ⟨2,1,J⟩=O (Z (dJ 1))/\V.cell? ⟨2,2,J⟩=O (Z (dJ 2)))
  (first|with_reducible exact K|((try simp only[M7]);with_reducible exact hS1 _ _ _ _ _ _))
  (first|(go_at_call 229;refine(I5 _ _ K.2.2.2.2.2.2.1 K.2.2.2.2.2.2.2.1 K.2.2.2.2.2.2.2.2).m ?_;rintro e w' ⟨rfl,rfl⟩))
 go_wp2;rw[S.o,hY.o];clear r1 r2;refine bK (v:=Ψ #[.agg #[I Q (py (sM s):Nat),I Q (eW xs 0),I Q (6-(F.size:Int)),I Q (eW xs 1),I Q (eW xs 2),I Q (eW xs 3)],.bool true]) (by simp[results,results182,go_sem,a0,a1,a2,a3,a4,a5]) rfl ⟨rfl,?_⟩;exact((((((q.o.d.c nl _).c nl _).c nl _).c nl _).c nl _).c nl _).drew
end
section
open Go.RowKit
theorem kW(k:Nat)(w:Ω)(b:k<6):
  Φ prog 56 #[I Q k] w λe a=>e=N (Ψ #[.agg #[I Q (bi k),I Q (bm k),I Q (bq k),I Q (bO k)],.bool true])/\B w.1.size w a:=by
 match k,b with
 |0,_|1,_|2,_|3,_|4,_|5,_=>
  go_enter func56,ntmps56;go_wp2;exact bK (v:=_) (by simp[results,results56,go_sem];exact⟨rfl,rfl,rfl,rfl⟩) rfl ⟨rfl,ba⟩
theorem Ds(P:Int)(w:Ω)(a:P<0\/5<P):
  Φ prog 56 #[I Q P] w λe b=>e=N (Ψ #[.agg #[I Q 0,I Q 0,I Q 0,I Q 0],.bool false])/\B w.1.size w b:=by
 have c:(P == 0)=false:=by simp;omega
 have h:(P == 1)=false:=by simp;omega
 have i:(P == 2)=false:=by simp;omega
 have d:(P == 3)=false:=by simp;omega
 have g:(P == 4)=false:=by simp;omega
 have f:(P == 5)=false:=by simp;omega
 clear a;go_enter func56,ntmps56;go_wp2;exact bK (v:=Ψ #[.agg #[I Q 0,I Q 0,I Q 0,I Q 0],.bool false]) (by simp[results,results56,go_sem]) rfl ⟨rfl,ba⟩
theorem FSx(x:Int)(t:TypeId)(w:Ω):(convert 117 9 (M (O ⟨w.1.size,0,J⟩) 1 1)).run prog (w.alloc (Δ #[I .u8 x] t))=.ok (Z ⟨#[UInt8.ofNat x.toNat]⟩) (w.alloc (Δ #[I .u8 x] t)):=by
 have:=run_convert_bytes_arg (P:=prog) (w.alloc (Δ #[I .u8 x] t)) 117 5 underlying117 underlying5 w.1.size 0 1 1 [x] rfl (λi a=>by
  match i,a with
 |0,_=>go_simp) 9 underlying9
 rw[this];rfl
theorem PI(x:Nat):(48+UInt8.ofNat x:UInt8)=UInt8.ofNat (48+x):=(UInt8.ofNat_add 48 x).symm
theorem vt{a b:ByteArray}(h:a=b):Ending.returned (Z a)=N (Z b):=by rw[h]
theorem K2{n:Nat}(h:¬n<10):aK n=aK (n/10)++[UInt8.ofNat (48+n%10)]:=by unfold aK;rw[Lib.decDigits,dif_neg h]
theorem zX{n:Nat}(h:n<10):aK n=[UInt8.ofNat (48+n)]:=by unfold aK;rw[Lib.decDigits,dif_pos h]
theorem CK{n:Nat}(h:n<9223372036854775808):(aK n).length<=19:=iu (d:=19) om om
theorem jM(c:Nat)(w:Ω)(m:c<9223372036854775808):
  Φ prog 22 #[I Q c] w λe s=>e=N (Z ⟨(aK c).toArray⟩)/\B w.1.size w s:=by
 have r:H _:=CK m;have t:(c:Int)<=9223372036854775807:=om;clear m;have q:=FSx;go_enter func22,ntmps22;go_wp2;go_loopw [0,3,5] (λa b _ V=>∃(n:Nat) (l:List UInt8),n<=c/\a=I Q n/\b=Z ⟨l.toArray⟩/\aK c=aK n++l/\B w.1.size w V) (λa _ _ _=>(intOf a).toNat)
 case atStart=>exact⟨c,[],aa _,rfl,rfl,by simp,aj _ _⟩
 obtain⟨n,l,x,rfl,rfl,i,k⟩:=hrel;have p:H _:=i;have h:H _:=k;have j:l.length<=19:=by have:=r.o;rw[i,bU]at this;omega
 clear i k;have u:(n:Int)<=9223372036854775807:=om;have g:=PI (n%10);have f:H _:=g;clear g;go_wp2
 ·have v:(n:Int)/10=0:=(by simpa using ‹((n:Int)/10 == 0)=true›);have d:n<10:=om;go_ret;refine⟨vt ?_,h.o.l h.o.size _⟩;rw[f.o,p.o,zX d,Nat.mod_eq_of_lt d];exact nX sm
 have v:¬(n:Int)/10=0:=(by simpa using ‹((n:Int)/10 == 0)=false›);have d:¬n<10:=om;go_roundw
 case rel=>
  refine⟨n/10,UInt8.ofNat (48+n%10)::l,om,by go_num,?_,?_,h.o.l h.o.size _⟩
  ·rw[f.o];exact congrArg Z (nX sm)
  rw[p.o,K2 d];simp
 simp[intOf];omega
open Go.RowKit
open Go.Sort (grow)
theorem ud{n d:Nat}(a:1<=d):(aK n).length<=d↔n<10^d:=by
 constructor
 ·intro h;have:=Lib.lt_pow_nDigits n;rw[<-Lib.decDigits_length]at this;exact bg this (jI om h)
 exact λh=>iu h a
theorem Ea(n d:Nat):jx (n:Int) d=decide (n<10^d):=by
 unfold jx;rw[jq];have e:((10:Int)^d)=((10^d:Nat):Int):=by simp
 rw[e];simp only[jo,kO];omega
def oh(K F P C R S:Int):Int:=if cF K F P C R S then 0 else 1
theorem I6(K F P C R S:Int)(w:Ω)(h:¬(fB K 1 3=true/\fB F 0 7=true/\fB P 0 5=true/\fB S 0 16777215=true)):
  Φ prog 57 #[.agg #[I Q K,I Q F,I Q P,I Q C,I Q R,I Q S]] w λe A=>e=N (I Q 1)/\B w.1.size w A:=by
 by_cases v:fB P 0 5=true
 case neg=>
  have u:P<0\/5<P:=by rw[mc]at v;omega
  clear h v;go_enter func57,ntmps57;go_wp2_with fail;refine(Ds P _ u).m ?_;rintro e p ⟨rfl,a⟩;obtain⟨d,b,f,i,s,t,g,j⟩:=eM a;have c:H _:=b;clear a b u;go_wp2;go_ret;exact⟨rfl,c.o.l (gv d) _⟩
 obtain⟨r,n⟩:=mc.1 v;obtain⟨k,rfl⟩:∃k:Nat,P=k:=⟨P.toNat,om⟩;have q:k<6:=om;rw[mc,mc,mc,mc]at h;clear v;by_cases L:K<1
 ·go_enter func57,ntmps57;go_wp2_with fail;refine(kW k _ q).m ?_;rintro e p ⟨rfl,a⟩;obtain⟨d,b,f,i,s,t,g,j⟩:=eM a;have c:H _:=b;clear a b h r n;go_wp2;go_ret;exact⟨rfl,c.o.l (gv d) _⟩
 have E:decide (K<1)=false:=by simpa using L
 by_cases T:3<K
 ·go_enter func57,ntmps57;go_wp2_with fail;refine(kW k _ q).m ?_;rintro e p ⟨rfl,a⟩;obtain⟨d,b,f,i,s,t,g,j⟩:=eM a;have c:H _:=b;clear a b h r n;go_wp2;go_ret;exact⟨rfl,c.o.l (gv d) _⟩
 have V:decide (3<K)=false:=by simpa using T
 by_cases x:F<0
 ·go_enter func57,ntmps57;go_wp2_with fail;refine(kW k _ q).m ?_;rintro e p ⟨rfl,a⟩;obtain⟨d,b,f,i,s,t,g,j⟩:=eM a;have c:H _:=b;clear a b h r n;go_wp2;go_ret;exact⟨rfl,c.o.l (gv d) _⟩
 have z:decide (F<0)=false:=by simpa using x
 by_cases D:7<F
 ·go_enter func57,ntmps57;go_wp2_with fail;refine(kW k _ q).m ?_;rintro e p ⟨rfl,a⟩;obtain⟨d,b,f,i,s,t,g,j⟩:=eM a;have c:H _:=b;clear a b h r n;go_wp2;go_ret;exact⟨rfl,c.o.l (gv d) _⟩
 have y:decide (7<F)=false:=by simpa using D
 by_cases G:S<0
 ·go_enter func57,ntmps57;go_wp2_with fail;refine(kW k _ q).m ?_;rintro e p ⟨rfl,a⟩;obtain⟨d,b,f,i,s,t,g,j⟩:=eM a;have c:H _:=b;clear a b h r n;go_wp2;go_ret;exact⟨rfl,c.o.l (gv d) _⟩
 have U:decide (S<0)=false:=by simpa using G
 have W:16777215<S:=om;go_enter func57,ntmps57;go_wp2_with fail;refine(kW k _ q).m ?_;rintro e p ⟨rfl,a⟩;obtain⟨d,b,f,i,s,t,g,j⟩:=eM a;have c:H _:=b;clear a b h r n;go_wp2;go_ret;exact⟨rfl,c.o.l (gv d) _⟩
open Go.RowKit
open Go.Sort (grow)
theorem vC{w a:Ω}{K F P C R S:Int}{k:Nat}(d:B (w.alloc (Δ #[I Q K,I Q F,I Q P,I Q C,I Q R,I Q S] 94)).1.size (w.alloc (Δ #[I Q K,I Q F,I Q P,I Q C,I Q R,I Q S] 94)) a){W:Ω}
  (g:W=a.alloc (Δ #[I Q (bi k),I Q (bm k),I Q (bq k),I Q (bO k)] 31)):
  B w.1.size w W/\W.cell? ⟨w.1.size,3,J⟩=O (I Q C)/\W.cell? ⟨w.1.size,4,J⟩=O (I Q R)/\W.cell? ⟨a.1.size,1,J⟩=O (I Q (bm k))/\W.cell? ⟨a.1.size,3,J⟩=O (I Q (bO k)):=by
 subst g;obtain⟨f,c,n,i,j,h,e,o⟩:=eM d;have b:=(aj a.1.size a).l nl (Δ #[I Q (bi k),I Q (bm k),I Q (bq k),I Q (bO k)] 31);exact⟨c.t (b.m (gv f)),aH b h,aH b e,by go_simp,by go_simp⟩
theorem Nc(K F C R S:Int)(k:Nat)(w:Ω)(h1:¬K<1)(h2:¬3<K)(i:¬F<0)(E:¬7<F)(U:¬S<0)(P:¬16777215<S)(X:k<6)(s:C<0):
  Φ prog 57 #[.agg #[I Q K,I Q F,I Q k,I Q C,I Q R,I Q S]] w λe y=>e=N (I Q 1)/\B w.1.size w y:=by
 have T:decide (K<1)=false:=by simpa using h1
 have h2d:decide (3<K)=false:=by simpa using h2
 have p:decide (F<0)=false:=by simpa using i
 have l:decide (7<F)=false:=by simpa using E
 have h5d:decide (S<0)=false:=by simpa using U
 have u:decide (16777215<S)=false:=by simpa using P
 have r:decide (C<0)=true:=by simpa using s
 go_enter func57,ntmps57;go_wp2_with fail;refine(kW k _ X).m ?_;rintro e V ⟨rfl,a⟩;have j:=vC (k:=k) a rfl;obtain⟨s1,g,q,A,d2,d3,v,L⟩:=eM a;clear a g;go_upto_region 4 with fail
 clear q A d2 d3 v L;generalize V.alloc (Δ #[I Q (bi k),I Q (bm k),I Q (bq k),I Q (bO k)] 31)=W at *;obtain⟨c,z,D,n,x⟩:=j;have h:H _:=c;clear c;have k3:=cell_regrown z;have k4:=cell_regrown D;have k5:=cell_regrown n;have k6:=cell_regrown x;refine wp_region_quiet_below kr kr ?_
 repeat (go_big_quiet_step (fail))
 refine gq ?_;intro _ f;obtain⟨⟨G,d⟩,b⟩:=f;subst b;go_wp2;go_ret;exact⟨rfl,h.o.t ((below_regrown W G d).m h.o.size)⟩
theorem K3(K F R S:Int)(C k:Nat)(w:Ω)(h1:¬K<1)(h2:¬3<K)(j:¬F<0)(G:¬7<F)(V:¬S<0)(T:¬16777215<S)(hk:k<6)(h:C<9223372036854775808)(hl:bm k<(aK C).length):
  Φ prog 57 #[.agg #[I Q K,I Q F,I Q k,I Q C,I Q R,I Q S]] w λe z=>e=N (I Q 1)/\B w.1.size w z:=by
 have U:decide (K<1)=false:=by simpa using h1
 have h2d:decide (3<K)=false:=by simpa using h2
 have r:decide (F<0)=false:=by simpa using j
 have p:decide (7<F)=false:=by simpa using G
 have h5d:decide (S<0)=false:=by simpa using V
 have v:decide (16777215<S)=false:=by simpa using T
 have u:decide ((C:Int)<0)=false:=by simp
 have n:decide (((bm k:Nat):Int)<((aK C).length:Int))=true:=by simp;omega
 have HC:H _:=h;clear h;go_enter func57,ntmps57;go_wp2_with fail;refine(kW k _ hk).m ?_;rintro e X ⟨rfl,a⟩;have l:=vC (k:=k) a rfl;obtain⟨s1,g,s,D,d2,d3,x,P⟩:=eM a;clear a g;go_upto_region 4 with fail
 clear s D d2 d3 x P;generalize X.alloc (Δ #[I Q (bi k),I Q (bm k),I Q (bq k),I Q (bO k)] 31)=W at *;obtain⟨c,A,E,q,y⟩:=l;have i:H _:=c;clear c;have k3:=cell_regrown A;have k4:=cell_regrown E;have k5:=cell_regrown q;have k6:=cell_regrown y;refine wp_region_quiet_below kr kr ?_
 repeat (go_big_quiet_step (exact Calls.regrown_of (jM C _ HC.o)))
 refine gq ?_;intro _ f;obtain⟨⟨L,d⟩,b⟩:=f;subst b;go_wp2;go_ret;exact⟨rfl,i.o.t ((below_regrown W L d).m i.o.size)⟩
theorem Nd(K F R S:Int)(C k:Nat)(w:Ω)(h1:¬K<1)(h2:¬3<K)(j:¬F<0)(L:¬7<F)(h5:¬S<0)(V:¬16777215<S)(hk:k<6)(h:C<9223372036854775808)(hl:(aK C).length<=bm k)(hR:R<0):
  Φ prog 57 #[.agg #[I Q K,I Q F,I Q k,I Q C,I Q R,I Q S]] w λe z=>e=N (I Q 1)/\B w.1.size w z:=by
 have X:decide (K<1)=false:=by simpa using h1
 have h2d:decide (3<K)=false:=by simpa using h2
 have r:decide (F<0)=false:=by simpa using j
 have p:decide (7<F)=false:=by simpa using L
 have h5d:decide (S<0)=false:=by simpa using h5
 have v:decide (16777215<S)=false:=by simpa using V
 have u:decide ((C:Int)<0)=false:=by simp
 have n:decide (((bm k:Nat):Int)<((aK C).length:Int))=false:=by simp;omega
 have D:decide (bm k<(aK C).length)=false:=by simp;omega
 have P:decide (R<0)=true:=by simpa using hR
 have HC:H _:=h;clear h;go_enter func57,ntmps57;go_wp2_with fail;refine(kW k _ hk).m ?_;rintro e w1 ⟨rfl,a⟩;have l:=vC (k:=k) a rfl;obtain⟨s1,g,s,E,d2,d3,x,U⟩:=eM a;clear a g;go_upto_region 4 with fail
 clear s E d2 d3 x U;generalize w1.alloc (Δ #[I Q (bi k),I Q (bm k),I Q (bq k),I Q (bO k)] 31)=W at *;obtain⟨c,A,G,q,y⟩:=l;have i:H _:=c;clear c;have k3:=cell_regrown A;have k4:=cell_regrown G;have k5:=cell_regrown q;have k6:=cell_regrown y;refine wp_region_quiet_below kr kr ?_
 repeat (go_big_quiet_step (exact Calls.regrown_of (jM C _ HC.o)))
 refine gq ?_;intro _ f;obtain⟨⟨T,d⟩,b⟩:=f;subst b;go_wp2;go_ret;exact⟨rfl,i.o.t ((below_regrown W T d).m i.o.size)⟩
theorem K4(K F S:Int)(C R k:Nat)(w:Ω)(h1:¬K<1)(h2:¬3<K)(l:¬F<0)(U:¬7<F)(h5:¬S<0)(h6:¬16777215<S)(hk:k<6)(h:C<9223372036854775808)(hl:(aK C).length<=bm k)(j:R<9223372036854775808)(hr:bO k<(aK R).length):
  Φ prog 57 #[.agg #[I Q K,I Q F,I Q k,I Q C,I Q R,I Q S]] w λe E=>e=N (I Q 1)/\B w.1.size w E:=by
 have h1d:decide (K<1)=false:=by simpa using h1
 have h2d:decide (3<K)=false:=by simpa using h2
 have u:decide (F<0)=false:=by simpa using l
 have q:decide (7<F)=false:=by simpa using U
 have h5d:decide (S<0)=false:=by simpa using h5
 have z:decide (16777215<S)=false:=by simpa using h6
 have x:decide ((C:Int)<0)=false:=by simp
 have p:decide (((bm k:Nat):Int)<((aK C).length:Int))=false:=by simp;omega
 have L:decide (bm k<(aK C).length)=false:=by simp;omega
 have V:decide ((R:Int)<0)=false:=by simp
 have r:decide (((bO k:Nat):Int)<((aK R).length:Int))=true:=by simp;omega
 have HC:H _:=h;have y:H _:=j;clear h j;go_enter func57,ntmps57;go_wp2_with fail;refine(kW k _ hk).m ?_;rintro e w1 ⟨rfl,a⟩;have n:=vC (k:=k) a rfl;obtain⟨s1,g,v,P,d2,d3,A,d5⟩:=eM a;clear a g;go_upto_region 4 with fail
 clear v P d2 d3 A d5;generalize w1.alloc (Δ #[I Q (bi k),I Q (bm k),I Q (bq k),I Q (bO k)] 31)=W at *;obtain⟨c,G,T,s,D⟩:=n;have i:H _:=c;clear c;have k3:=cell_regrown G;have k4:=cell_regrown T;have k5:=cell_regrown s;have k6:=cell_regrown D;refine wp_region_quiet_below kr kr ?_
 repeat (go_big_quiet_step (first|with_reducible exact Calls.regrown_of (jM C _ HC.o)|with_reducible exact Calls.regrown_of (jM R _ y.o)))
 refine gq ?_;intro _ f;obtain⟨⟨X,d⟩,b⟩:=f;subst b;go_wp2;go_ret;exact⟨rfl,i.o.t ((below_regrown W X d).m i.o.size)⟩
theorem Na(K F S:Int)(C R k:Nat)(w:Ω)(h1:¬K<1)(h2:¬3<K)(l:¬F<0)(U:¬7<F)(h5:¬S<0)(h6:¬16777215<S)(hk:k<6)(h:C<9223372036854775808)(hl:(aK C).length<=bm k)(j:R<9223372036854775808)(hr:(aK R).length<=bO k):
  Φ prog 57 #[.agg #[I Q K,I Q F,I Q k,I Q C,I Q R,I Q S]] w λe E=>e=N (I Q 0)/\B w.1.size w E:=by
 have h1d:decide (K<1)=false:=by simpa using h1
 have h2d:decide (3<K)=false:=by simpa using h2
 have u:decide (F<0)=false:=by simpa using l
 have q:decide (7<F)=false:=by simpa using U
 have h5d:decide (S<0)=false:=by simpa using h5
 have z:decide (16777215<S)=false:=by simpa using h6
 have x:decide ((C:Int)<0)=false:=by simp
 have p:decide (((bm k:Nat):Int)<((aK C).length:Int))=false:=by simp;omega
 have L:decide (bm k<(aK C).length)=false:=by simp;omega
 have V:decide ((R:Int)<0)=false:=by simp
 have r:decide (((bO k:Nat):Int)<((aK R).length:Int))=false:=by simp;omega
 have a0:decide (bO k<(aK R).length)=false:=by simp;omega
 have HC:H _:=h;have y:H _:=j;clear h j;go_enter func57,ntmps57;go_wp2_with fail;refine(kW k _ hk).m ?_;rintro e w1 ⟨rfl,a⟩;have n:=vC (k:=k) a rfl;obtain⟨s1,g,v,P,d2,d3,A,d5⟩:=eM a;clear a g;go_upto_region 4 with fail
 clear v P d2 d3 A d5;generalize w1.alloc (Δ #[I Q (bi k),I Q (bm k),I Q (bq k),I Q (bO k)] 31)=W at *;obtain⟨c,G,T,s,D⟩:=n;have i:H _:=c;clear c;have k3:=cell_regrown G;have k4:=cell_regrown T;have k5:=cell_regrown s;have k6:=cell_regrown D;refine wp_region_quiet_below kr kr ?_
 repeat (go_big_quiet_step (first|with_reducible exact Calls.regrown_of (jM C _ HC.o)|with_reducible exact Calls.regrown_of (jM R _ y.o)))
 refine gq ?_;intro _ f;obtain⟨⟨X,d⟩,b⟩:=f;subst b;go_wp2;go_ret;exact⟨rfl,i.o.t ((below_regrown W X d).m i.o.size)⟩
theorem yU(K F P C R S:Int)(w:Ω)(s:C<=9223372036854775807)(x:R<=9223372036854775807):
  Φ prog 57 #[.agg #[I Q K,I Q F,I Q P,I Q C,I Q R,I Q S]] w λe n=>e=N (I Q (oh K F P C R S))/\B w.1.size w n:=by
 by_cases g:fB K 1 3=true/\fB F 0 7=true/\fB P 0 5=true/\fB S 0 16777215=true
 case neg=>
  have e:oh K F P C R S=1:=by unfold oh cF;rw[ag];intro h;simp only[jo]at h;exact g ⟨h.1.1.1.1.1,h.1.1.1.1.2,h.1.1.1.2,h.1.1.2⟩
  rw[e];exact I6 K F P C R S w g
 obtain⟨m,j,i,l⟩:=g;have v:=mc.1 m;have t:=mc.1 j;have q:=mc.1 i;have u:=mc.1 l;obtain⟨k,rfl⟩:∃k:Nat,P=k:=⟨P.toNat,om⟩;have e:oh K F k C R S=if jx C (bm k)&&jx R (bO k) then 0 else 1:=by unfold oh cF;rw[m,j,i,l];simp[ir]
 rw[e];have a:=lH k;have b:=lI k;by_cases o:C<0
 ·have:jx C (bm k)=false:=by unfold jx;simp;omega
  rw[this];exact Nc K F C R S k w om om om om om om om o
 obtain⟨c,rfl⟩:∃c:Nat,C=c:=⟨C.toNat,om⟩;rw[Ea];by_cases d:(aK c).length<=bm k
 case neg=>have:¬c<10^bm k:=λh=>d ((ud a.1).2 h);rw[decide_eq_false this];exact K3 K F R S c k w om om om om om om om om om
 rw[decide_eq_true ((ud a.1).1 d)];by_cases p:R<0
 ·have:jx R (bO k)=false:=by unfold jx;simp;omega
  rw[this];exact Nd K F R S c k w om om om om om om om om d p
 obtain⟨r,rfl⟩:∃r:Nat,R=r:=⟨R.toNat,om⟩;rw[Ea];by_cases f:(aK r).length<=bO k
 case neg=>have:¬r<10^bO k:=λh=>f ((ud b.1).2 h);rw[decide_eq_false this];exact K4 K F S c r k w om om om om om om om om d om om
 rw[decide_eq_true ((ud b.1).1 f)];exact Na K F S c r k w om om om om om om om om d om f
end
end Go.Proofs.YtlaodjjfmhipnaaGreatDoor
