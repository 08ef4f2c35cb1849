/-
  Part of it.
-/
import Derived.Test.YtlaodjjfmhipnaaGreatDoorSac
set_option maxRecDepth 100000
set_option maxHeartbeats 8000000
set_option linter.all false
namespace Go.Proofs.YtlaodjjfmhipnaaGreatDoor
open Go.Proofs.Tryz
open Value renaming int→I,string→Z,pointer→Y,slice→M,tuple→Ψ
open Ending renaming returned→N
open Obj renaming cells→Δ
open Go renaming World→Ω,Calls→Φ
open IntKind renaming i64→Q
open Option renaming some→O,none→J
open RowKit renaming Below→B,Hid→H
section
open Go.RowKit
theorem Sr:(prog.info? 9).map (λi=>(i.zero,i.size,i.bytes))=O (O (Z ⟨#[]⟩),1,16):=kr
theorem xl(n:Int)(w:Ω)(d:aT w)(f:0<=n)(i:n<1000):
  Φ prog 48 #[I Q n] w λe b=>e=N (Z (ae (bF n.toNat)))/\B w.1.size w b:=by
 refine(strconv_Itoa n om om w d.h).m ?_;rintro e b ⟨a,k,g,rfl⟩;have c:Lib.itoa n=bF n.toNat:=by unfold Lib.itoa bF;rw[ag om]
 rw[c]at a;exact⟨a,Lib.below_grow _ _ nl _ _⟩
theorem Su(n:Nat)(w:Ω)(b:aT w)(c:n<1000):
  Φ prog 48 #[I Q (n:Int)] w λe a=>e=N (Z (ae (bF n)))/\B w.1.size w a:=xl (n:Int) w b om om
theorem pq(a b:List UInt8):ae a++ae b=ae (a++b):=by apply ke;simp[ae,ByteArray.data_append]
def wn(l:List UInt8):Value:=Z (ae l)
structure kM (w V:Ω) (r:aq) (v:Value) (xs:List (List UInt8)):Prop where
 c:V.ownsRow (w.1.size+1) 9 1 v xs.length (xs.map wn)
 e:aT V
 b:B w.1.size w V
 a:ed V w.1.size (Z r.a) (I Q r.e) (I Q r.c) (I Q r.g) (I Q r.b) (I Q r.d)
theorem Dg{V V':Ω}{a:Nat}{e:TypeId}{b:Nat}{v:Value}{n:Nat}{xs:List Value}(h:V.ownsRow a e b v n xs)(c:B V.1.size V V'):V'.ownsRow a e b v n xs:=by
 refine⟨h.1,?_⟩;rcases h.2 with h|⟨g,cap,cur,h1,h2,h3,h4⟩
 ·exact af h
 exact ah ⟨g,cap,cur,h1,h2,(c.block g (bP.1 h3).1).trans h3,h4⟩
theorem kM.d{w V V':Ω}{r:aq}{v:Value}{xs:List (List UInt8)}(h:kM w V r v xs)(f:B V.1.size V V'):kM w V' r v xs:=
 ⟨Dg h.c f,h.e.a f,h.b.t (f.m h.b.size),h.a.p (f.block _ h.a.o) f.size⟩
theorem kM.f{w V V':Ω}{r:aq}{v v':Value}{xs i:List (List UInt8)}(h:kM w V r v xs)(l:11<=w.1.size)(k:V'.ownsRow (w.1.size+1) 9 1 v' (xs++i).length ((xs++i).map wn))(d:V.grownBy V' v.ownBlock):kM w V' r v' (xs++i):=by have g:B (w.1.size+1) V V':=⟨d.os,d.tape,d.output,d.size,λj n=>d.block j (by have:=h.a.o;omega) (λe=>by have:=(bG h.c j e.symm).1;omega)⟩;exact⟨k,h.e.c g om,h.b.t (g.m om),h.a.p (g.block _ om) g.size⟩
theorem qi{w:Ω}{a:Addr}{v:Value}(h:w.cell? a=O v):w.drew.cell? a=O v:=h
theorem ua{w w':Ω}{a:Addr}{v:Value}(b:B w.1.size w w')(h:w.cell? a=O v):w'.cell? a=O v:=by rw[b.cell (rJ _ _ h)];exact h
theorem De{W w w':Ω}(h:B W.1.size W w)(a:B w.1.size w w'):B W.1.size W w':=h.t (a.m h.size)
theorem pY{w:Ω}{a:Addr}{v:Value}(o:Obj)(h:w.cell? a=O v):(w.alloc o).cell? a=O v:=ua (br.l nl o) h
theorem JH{W w:Ω}(o:Obj)(h:B W.1.size W w):B W.1.size W (w.alloc o):=De h (br.l nl o)
structure oy (w V:Ω) (r:aq):Prop where
 b:aT V
 d:B w.1.size w V
 a:ed V w.1.size (Z r.a) (I Q r.e) (I Q r.c) (I Q r.g) (I Q r.b) (I Q r.d)
theorem oy.c{w V V':Ω}{r:aq}(h:oy w V r)(e:B V.1.size V V'):oy w V' r:=
 ⟨h.b.a e,h.d.t (e.m h.d.size),h.a.p (e.block _ h.a.o) e.size⟩
theorem oy.f{w V:Ω}{r:aq}(h:oy w V r):oy w V.drew r:=h.c (aj V.1.size V).drew
theorem oy.e{w V:Ω}{r:aq}(o:Obj)(h:oy w V r):oy w (V.alloc o) r:=h.c ((aj V.1.size V).l nl o)
theorem MW(r:aq){w h:Ω}(k:aT w)(m:B (w.alloc (Δ #[Z r.a,I Q r.e,I Q r.c,I Q r.g,I Q r.b,I Q r.d] 65)).1.size (w.alloc (Δ #[Z r.a,I Q r.e,I Q r.c,I Q r.g,I Q r.b,I Q r.d] 65)) h):oy w h r:=by
 have f:B w.1.size w (w.alloc (Δ #[Z r.a,I Q r.e,I Q r.c,I Q r.g,I Q r.b,I Q r.d] 65)):=(aj _ w).l nl _
 have j:oy w (w.alloc (Δ #[Z r.a,I Q r.e,I Q r.c,I Q r.g,I Q r.b,I Q r.d] 65)) r:=by
  refine⟨k.a f,f,⟨?_,?_,?_,?_,?_,?_,?_,?_⟩⟩
  all_goals first|go_simp|(intro i;go_simp)
 exact j.c m
def ja(nm:ByteArray)(k f t:Nat):List (List UInt8):=[nm.1.toList++[58],iw k,bF f,rz,bF t]
theorem Sq(V:Ω)(a b c d e:Value):(V.alloc (Δ #[a,b,c,d,e] 9)).cell? ⟨V.1.size,1,J⟩=O b:=by go_simp
theorem Bx(V:Ω)(a b:Value):∀(j:Nat)(u:Value),([a,b]:List Value)[j]?=O u->(V.alloc (Δ #[a,b] 9)).cell? ((⟨V.1.size,0,J⟩:Addr).add j)=O u:=by
 intro j u h
 match j,h with
 |0,h=>simp at h;subst h;unfold Addr.add;go_simp
 |1,h=>simp at h;subst h;unfold Addr.add;go_simp
theorem E5{w V:Ω}{r:aq}{g n c:Nat}{xs:List (List UInt8)}(h:kM w V r (M (O ⟨g,0,J⟩) n c) xs)(q:(Lib.join xs [32]).length<=60)(m:xs.length<=100):
  Φ prog 113 #[M (O ⟨g,0,J⟩) n c,Z ⟨#[32]⟩] V λe o=>e=N (Z (ae (Lib.join xs [32])))/\B V.1.size V o:=by
 have p:n=xs.length/\n<=c/\g<V.1.size:=by
  rcases h.c.2 with ⟨h1,_⟩|⟨g',cap,cur,h1,_,b,d,_⟩
  ·cases h1
  cases h1;exact⟨rfl,d,(bP.1 b).1⟩
 obtain⟨rfl,b,d⟩:=p
 have a:(xs.map ae).map (·.1.toList)=xs:=by
  rw[List.map_map]
  conv=>rhs;rw[<-List.map_id xs]
  exact tw (λx _=>bX x)
 have k:=strings_Join g 0 c (xs.map ae) ⟨#[32]⟩ V (by
  intro j x f;rw[eE]at f;obtain⟨y,i,rfl⟩:=Option.map_eq_some_iff.1 f;have l:=(gD.1 i).1;rw[dj,h.c.cellAt j om,eE,i];rfl) d (by rw[jp];omega) (by rw[jp];exact b) (by rw[a];show (Lib.join xs [32]).length<=_;omega)
 rw[a,jp]at k;exact k
theorem Q7{nm:ByteArray}{k f t:Nat}{i h:Int}{w w':Ω}(c:oy w (w'.alloc (Δ #[Z (nm++⟨#[58]⟩),Z (cR k),Z (ae (bF f)),Z ⟨#[116,104,101,110]⟩,Z (ae (bF t))] 9)) (aq.mk nm k f t i h)):
  kM w (w'.alloc (Δ #[Z (nm++⟨#[58]⟩),Z (cR k),Z (ae (bF f)),Z ⟨#[116,104,101,110]⟩,Z (ae (bF t))] 9)) (aq.mk nm k f t i h) (M (O ⟨w'.1.size,0,J⟩) 5 5) (ja nm k f t):=by
 have n:w.1.size<w'.1.size:=by
  have l:=c.a.o;have g:=c.a.j;by_cases e:w.1.size=w'.1.size
  ·rw[e]at g;rw[Sq]at g;cases g
  simp at l;omega
 refine⟨⟨rfl,ah ⟨w'.1.size,5,_,rfl,om,bn w' _,by show 5<=5;omega,dc,rfl,?_⟩⟩,c.b,c.d,c.a⟩;have m:nm++⟨#[58]⟩=ae (nm.1.toList++[58]):=by rw[<-pq,xE];rfl
 rw[m];rfl
theorem MX(nm:ByteArray)(k f t:Nat)(q p:Int)(w:Ω)(hT:aT w)(hok:(aq.mk nm k f t q p).h):
  Φ prog 93 #[aL (aq.mk nm k f t q p)] w λe w'=>e=N (Ψ #[Z (gV (aq.mk nm k f t q p)),.nilIface])/\B w.1.size w w':=by
 obtain⟨h1,⟨L,h3,h4,h5,h6⟩,h7⟩:=hok;simp only at L h3 h4 h5 h6;have hnl:nm.size<=12:=by have:=h1.2.1;simpa [aq.l] using this
 have hkN:k<4:=om;have HFL:H ((aq.mk nm k f t q p).i 0):=ah (ah (ah ⟨⟨h1,⟨L,h3,h4,h5,h6⟩,h7⟩,rfl⟩));have hkI:(k:Int)<4:=om;have hk0:(0:Int)<=(k:Int):=om;have HT:=hid hT;have T:=hid hT.b;have HL:=hid (KR ⟨h1,⟨L,h3,h4,h5,h6⟩,h7⟩);have mixed:prog.follows .mixedOrders=true:=kr;obtain⟨i9,U,hz9,W,X⟩:=eb Sr;unfold aL;simp only;go_enter func93,ntmps93;go_wp2_with fail;refine(wV (aq.mk nm k f t q p) _ (by show nm.size<=_;omega) HFL.o).m ?_;rintro e w1 ⟨rfl,hb1⟩;rw[show lc 0=.nilIface from rfl];have HH:=hid (MW (aq.mk nm k f t q p) HT.o hb1);go_upto_region 4 with fail
 have c0:=HH.o.a.m;have c1:=HH.o.a.j;have c2:=HH.o.a.k;have P:=HH.o.a.l;have kk:=HH.o.b.d k hkN;have hHo:=HH.o;have hWW:B w1.1.size w1 w1:=aj _ _;have hs1:¬9223372036854775807<nm.size+(⟨#[58]⟩:ByteArray).size:=by show ¬_<nm.size+1;omega
 have hs2:¬9223372036854775807<nm.size+1:=om;go_cut [5] from 11 to 24 (λv V=>kM w V (aq.mk nm k f t q p) v (ja nm k f t))
 case first=>
  go_region_held3 (λV=>V.cell? ⟨w.1.size,0,J⟩=O (Z nm)/\V.cell? ⟨w.1.size,1,J⟩=O (I Q k)/\V.cell? ⟨w.1.size,2,J⟩=O (I Q f)/\V.cell? ⟨w.1.size,3,J⟩=O (I Q t)/\V.cell? ⟨0,k,J⟩=O (Z (cR k))/\oy w V (aq.mk nm k f t q p)/\B w1.1.size w1 V)
   (first|exact⟨qi ‹_›,qi ‹_›,qi ‹_›,qi ‹_›,qi ‹_›,oy.f ‹_›,Below.drew ‹_›⟩|(go_split_ands;exact⟨pY _ ‹_›,pY _ ‹_›,pY _ ‹_›,pY _ ‹_›,pY _ ‹_›,oy.e _ ‹_›,JH _ ‹_›⟩)|(go_split_ands;exact⟨ua y ‹_›,ua y ‹_›,ua y ‹_›,ua y ‹_›,ua y ‹_›,oy.c ‹_› y,De ‹_› y⟩))
   (first|(go_at_call 48;go_split_ands;refine(Su _ _ (oy.b ‹_›) om).m ?_;rintro e w' ⟨rfl,y⟩))
  rename_i hH;go_wp2;go_meet;obtain⟨-,-,-,-,-,gH,gB⟩:=hH;exact Q7 gH
 have HW:H (kM w wc (aq.mk nm k f t q p) u5 (ja nm k f t)):=hcut;have d4:=hcut.a.g;have d5:=hcut.a.h;have d4:=HW.o.a.g;have d5:=HW.o.a.h;by_cases K:q=-1
 case pos=>
  have hwo':(q != -1)=false:=(by simpa using K);have HX:H (gV (aq.mk nm k f t q p)=ae (Lib.join (ja nm k f t++[mK,bF p.toNat]) [32])):=(by show gV (aq.mk nm k f t q p)=_;unfold gV qy oo ry qE;rw[ak K];rfl);have S:H ((Lib.join (ja nm k f t++[mK,bF p.toNat]) [32]).length<=60):=(by have h:=congrArg (λb:ByteArray=>b.1.toList) HX.o;simp only[tK,bX]at h;have L:=HL.o;rw[h]at L;exact L);go_wp2_with fail;refine(xl p _ HW.o.e om om).m ?_;rintro e z ⟨rfl,y⟩;have G:=hid (HW.o.d y);have A:(z.alloc (Δ #[Z ⟨#[119,105,116,104,105,110]⟩,Z (ae (bF (p).toNat))] 9)).ownsRow (w.1.size+1) 9 1 u5 5 (((ja nm k f t)).map wn):=G.o.c.alloc _;have s:H (kM w (z.alloc (Δ #[Z ⟨#[119,105,116,104,105,110]⟩,Z (ae (bF (p).toNat))] 9)) (aq.mk nm k f t q p) u5 (ja nm k f t)):=G.o.d ba;have C:=s.o.a.o;go_wp2_with (at_builtin;refine iB _ rfl _ _ 22 rfl (w.1.size+1) 9 i9 (Z ⟨#[]⟩) 1 16 underlying22 U hz9 W X rfl dc _ _ _ rfl A ⟨z.1.size,0,J⟩ 2 2 [Z ⟨#[119,105,116,104,105,110]⟩,Z (ae (bF (p).toNat))] rfl rfl ?q1 ?q2 om ?q3 ?q4 ?q5 (z.1.size+1) ?q6 ?_)
  case q1=>exact Bx z _ _
  case q2=>intro u R;simp at R;rcases R with rfl|rfl<;>rfl
  case q3=>unfold maxLen;omega
  case q4=>omega
  case q5=>exact C
  case q6=>simp
  intro g3 P V2 r n D E;have x:H (kM w V2 (aq.mk nm k f t q p) (M (O ⟨g3,0,J⟩) 7 P) ((ja nm k f t)++[mK,bF (p).toNat])):=s.o.f T.o r n;clear G s A C r n D E;have d4:=x.o.a.g;have d5:=x.o.a.h;go_wp2_with fail;refine(E5 x.o S.o (by simp[ja])).m ?_;rintro e V3 ⟨rfl,y⟩;have HB:=hid (x.o.b.t (y.m x.o.b.size));go_wp2;go_ret2;refine⟨?_,HB.o⟩;rw[HX.o];rfl
 have hwo':(q != -1)=true:=(by simpa using K);have HX:H (gV (aq.mk nm k f t q p)=ae (Lib.join ((ja nm k f t++[kj,bF q.toNat])++[mK,bF p.toNat]) [32])):=(by show gV (aq.mk nm k f t q p)=_;unfold gV qy oo ry qE;rw[ag K];rfl);have S:H ((Lib.join ((ja nm k f t++[kj,bF q.toNat])++[mK,bF p.toNat]) [32]).length<=60):=(by have h:=congrArg (λb:ByteArray=>b.1.toList) HX.o;simp only[tK,bX]at h;have L:=HL.o;rw[h]at L;exact L);go_wp2_with fail;refine(xl q _ HW.o.e om om).m ?_;rintro e z ⟨rfl,y⟩;have G:=hid (HW.o.d y);have A:(z.alloc (Δ #[Z ⟨#[119,105,116,104,111,117,116]⟩,Z (ae (bF (q).toNat))] 9)).ownsRow (w.1.size+1) 9 1 u5 5 (((ja nm k f t)).map wn):=G.o.c.alloc _;have s:H (kM w (z.alloc (Δ #[Z ⟨#[119,105,116,104,111,117,116]⟩,Z (ae (bF (q).toNat))] 9)) (aq.mk nm k f t q p) u5 (ja nm k f t)):=G.o.d ba;have C:=s.o.a.o;go_wp2_with (at_builtin;refine iB _ rfl _ _ 22 rfl (w.1.size+1) 9 i9 (Z ⟨#[]⟩) 1 16 underlying22 U hz9 W X rfl dc _ _ _ rfl A ⟨z.1.size,0,J⟩ 2 2 [Z ⟨#[119,105,116,104,111,117,116]⟩,Z (ae (bF (q).toNat))] rfl rfl ?q1 ?q2 om ?q3 ?q4 ?q5 (z.1.size+1) ?q6 ?_)
 case q1=>exact Bx z _ _
 case q2=>intro u R;simp at R;rcases R with rfl|rfl<;>rfl
 case q3=>unfold maxLen;omega
 case q4=>omega
 case q5=>exact C
 case q6=>simp
 intro g3 P V2 r n D E;have x:H (kM w V2 (aq.mk nm k f t q p) (M (O ⟨g3,0,J⟩) 7 P) ((ja nm k f t)++[kj,bF (q).toNat])):=s.o.f T.o r n;clear G s A C r n D E;have d4:=x.o.a.g;have d5:=x.o.a.h;go_wp2_with fail;refine(xl p _ x.o.e om om).m ?_;rintro e z ⟨rfl,y⟩;have G:=hid (x.o.d y);have A:(z.alloc (Δ #[Z ⟨#[119,105,116,104,105,110]⟩,Z (ae (bF (p).toNat))] 9)).ownsRow (w.1.size+1) 9 1 (M (O ⟨g3,0,J⟩) 7 P) 7 (((ja nm k f t++[kj,bF q.toNat])).map wn):=G.o.c.alloc _;have s:H (kM w (z.alloc (Δ #[Z ⟨#[119,105,116,104,105,110]⟩,Z (ae (bF (p).toNat))] 9)) (aq.mk nm k f t q p) (M (O ⟨g3,0,J⟩) 7 P) (ja nm k f t++[kj,bF q.toNat])):=G.o.d ba;have C:=s.o.a.o;go_wp2_with (at_builtin;refine iB _ rfl _ _ 22 rfl (w.1.size+1) 9 i9 (Z ⟨#[]⟩) 1 16 underlying22 U hz9 W X rfl dc _ _ _ rfl A ⟨z.1.size,0,J⟩ 2 2 [Z ⟨#[119,105,116,104,105,110]⟩,Z (ae (bF (p).toNat))] rfl rfl ?q1 ?q2 om ?q3 ?q4 ?q5 (z.1.size+1) ?q6 ?_)
 case q1=>exact Bx z _ _
 case q2=>intro u R;simp at R;rcases R with rfl|rfl<;>rfl
 case q3=>unfold maxLen;omega
 case q4=>omega
 case q5=>exact C
 case q6=>simp
 intro g3 P V2 r n D E;have F:H (kM w V2 (aq.mk nm k f t q p) (M (O ⟨g3,0,J⟩) 9 P) ((ja nm k f t++[kj,bF q.toNat])++[mK,bF (p).toNat])):=s.o.f T.o r n;have d4:=F.o.a.g;have d5:=F.o.a.h;go_wp2_with fail;refine(E5 F.o S.o (by simp[ja])).m ?_;rintro e V3 ⟨rfl,y⟩;have HB:=hid (F.o.b.t (y.m F.o.b.size));go_wp2;go_ret2;refine⟨?_,HB.o⟩;rw[HX.o];rfl
theorem PC(r:aq){n:Nat}(w:Ω)(j:r.a.size<=9223372036854775807)(h:r.i n)(f:n≠0):
  Φ prog 93 #[aL r] w λe b=>e=N (Ψ #[Z ⟨#[]⟩,lc n])/\B w.1.size w b:=by
 have d:H (∀V:Ω,Φ prog 130 #[aL r] V λe b=>e=N (lc n)/\B V.1.size V b):=λV=>wV r V j h;have g:lc n=.iface 57 (I Q (n:Int)):=ag f;rw[g]at d⊢;unfold aL at *;go_enter func93,ntmps93;go_wp2_with fail;refine(d.o _).m ?_;rintro e p ⟨rfl,c⟩;have k:=hid (((aj _ w).l nl _).t (c.m sm));go_wp2;go_ret2;exact⟨rfl,k.o⟩
theorem D4(r:aq)(w:Ω)(d:aT w)(c:r.h):
  Φ prog 93 #[aL r] w λe g=>e=N (Ψ #[Z (gV r),.nilIface])/\B w.1.size w g:=by
 have h:=c.2.1;obtain⟨l,K,F,T,a,b⟩:=r;obtain⟨⟨m,o⟩,⟨j,p⟩,⟨i,n⟩,_⟩:=h;simp only at m j i;obtain⟨k,rfl⟩:∃k:Nat,K=k:=⟨K.toNat,om⟩;obtain⟨f,rfl⟩:∃k:Nat,F=k:=⟨F.toNat,om⟩;obtain⟨t,rfl⟩:∃k:Nat,T=k:=⟨T.toNat,om⟩;exact MX l k f t a b w d c
end
section
open Go.RowKit
def cK(c:UInt8)(acc:List (List UInt8))(cur:List UInt8):List UInt8->List (List UInt8)
 |[]=>acc++[cur]
 |x::r=>if x=c then cK c (acc++[cur]) [] r else cK c acc (cur++[x]) r
def sL(l:List (List UInt8)):List Value:=l.map λx=>Z ⟨x.toArray⟩
structure qm (V:Ω) (base:Nat) (v:Value) (l:List (List UInt8)):Prop where
 a:V.ownsRow base 9 1 v l.length (sL l)
theorem qm.c(V:Ω)(a:Nat):qm V a (M J 0 0) []:=⟨fH _ _ _ _⟩
theorem Sv:(prog.info? 9).map (λi=>(i.zero,i.size,i.bytes))=O (O (Z ⟨#[]⟩),1,16):=kr
theorem qm.b{V:Ω}{a:Nat}{v:Value}{l:List (List UInt8)}{b:ByteArray}(h:V.ownsRow a 9 1 v (l.length+1) (sL l++[Z b])):qm V a v (l++[b.1.toList]):=by refine⟨?_⟩;rw[bU];unfold sL;rw[iY];exact h
theorem zT(s:ByteArray)(a b:Nat):(s.extract a b).1.toList=(s.1.toList.drop a).take (b-a):=by rw[ByteArray.data_extract,Array.toList_extract,List.extract_eq_take_drop]
theorem MY(s:ByteArray)(a k:Nat)(d:a<=k)(c:k<s.size):(s.extract a (k+1)).1.toList=(s.extract a k).1.toList++[s[k]]:=by
 have b:k<s.1.toList.length:=by simpa using c
 rw[zT,zT,show k+1-a=(k-a)+1 by omega,jL];congr 1;rw[pR,show a+(k-a)=k by omega,bc b];rfl
theorem E6(s:ByteArray)(k:Nat):(s.extract k k).1.toList=[]:=by rw[zT];simp
theorem AB(s:ByteArray)(k:Nat)(a:k<s.size):s.1.toList.drop k=s[k]::s.1.toList.drop (k+1):=List.drop_eq_getElem_cons (by simpa using a)
theorem D5(s:ByteArray):s.1.toList.drop s.size=[]:=by apply List.drop_eq_nil_of_le;show s.1.toList.length<=s.1.size;simp
theorem tL(s:ByteArray)(c:UInt8)(w:Ω)(hs:s.size<=300):
  Φ prog 14 #[Z s,I .u8 (c.toNat:Int)] w λe w'=>∃v,e=N v/\qm w' w.1.size v (cK c [] [] s.1.toList)/\B w.1.size w w':=by
 obtain⟨i0,hi,L,K,G⟩:=eb Sv;obtain⟨R,C⟩:∃R,R=cK c [] [] s.1.toList:=⟨_,rfl⟩;rw[<-C];have HR:=hid C;go_enter func14,ntmps14;go_wp2
 go_loopw [5,6,7] (λl f i V=>∃(k t:Nat) (p:List (List UInt8)),k<=s.size+1/\i=I Q k/\f=I Q t/\p.length<=k/\qm V w.1.size l p/\B w.1.size w V /\
   ((k<=s.size/\t<=k/\cK c p (s.extract t k).1.toList (s.1.toList.drop k)=R)\/(k=s.size+1/\p=R))) (λ_ _ i _=>s.size+1-(intOf i).toNat)
 case atStart=>exact⟨0,0,[],om,rfl,rfl,aa _,qm.c _ _,aj _ _,af ⟨aX _,aa _,by rw[E6,List.drop_zero];exact HR.o.symm⟩⟩
 obtain⟨k,t,p,S,rfl,rfl,hac,F,E,hrel⟩:=hrel;rcases hrel with ⟨hkn,hfk,hcut⟩|⟨rfl,rfl⟩
 case inr=>have a0:=hid F;have d:=hid E;go_wp2;go_ret;exact⟨_,rfl,a0.o,d.o⟩
 have q:=hid hcut;have d:=hid E;have g:=F.a;have hfI:(t:Int)<=k:=om;have hle:wr.1.size+1≥w.1.size:=(by have:=d.o.size;omega);by_cases A:k<s.size
 case neg=>
  obtain rfl:k=s.size:=om;go_wp2_with (at_builtin;refine pN _ rfl _ _ 22 rfl w.1.size 9 i0 (Z ⟨#[]⟩) 1 16 underlying22 hi L K G rfl dc _ _ _ rfl (g.alloc _) ⟨wr.1.size,0,J⟩ 1 1 [Z (s.extract t s.size)] rfl rfl ?q1 ?q2 ?q3 ?q4 ?q5 ?_)
  case q1=>
   intro j u r
   match j,r with
  |0,r=>simp at r;subst r;simp[Addr.add]
  case q2=>first|rfl|(intro u P;simp at P;subst P;rfl)
  case q3=>unfold maxLen;omega
  case q4=>omega
  case q5=>have:=d.o.size;simp;omega
  intro v' w3 m n _;have C:=qm.b m;have y:=(d.o.l d.o.size _).grown n (by have:=d.o.size;simp;omega) (λk S=>(g.lt k S).1);have x:=hid C;have z:=hid y;go_wp2;go_roundw
  case rel=>refine⟨s.size+1,s.size+1,_,aa _,by go_num,by go_num,by simp;omega,x.o,z.o,ah ⟨rfl,?_⟩⟩;have:=q.o;rw[D5]at this;exact this
  simp[intOf]
 have hkI:(k:Int)<s.size:=om;by_cases D:s[k]=c
 case pos=>
  have X:=hid D;have W:((s[k].toNat:Int) == (c.toNat:Int))=true:=(by rw[D];simp);have U:(s[k].toNat:Int)=(c.toNat:Int):=(by rw[D]);have T:s[k].toNat=c.toNat:=(by rw[D]);go_wp2_with (at_builtin;refine pN _ rfl _ _ 22 rfl w.1.size 9 i0 (Z ⟨#[]⟩) 1 16 underlying22 hi L K G rfl dc _ _ _ rfl (g.alloc _) ⟨wr.1.size,0,J⟩ 1 1 [Z (s.extract t k)] rfl rfl ?r1 ?r2 ?r3 ?r4 ?r5 ?_)
  case r1=>
   intro j u r
   match j,r with
  |0,r=>simp at r;subst r;simp[Addr.add]
  case r2=>first|rfl|(intro u P;simp at P;subst P;rfl)
  case r3=>unfold maxLen;omega
  case r4=>omega
  case r5=>have:=d.o.size;simp;omega
  intro v' w3 m n _;have C:=qm.b m;have y:=(d.o.l d.o.size _).grown n (by have:=d.o.size;simp;omega) (λk S=>(g.lt k S).1);have x:=hid C;have z:=hid y;go_wp2;go_roundw
  case rel=>refine⟨k+1,k+1,_,om,by go_num,by go_num,by simp;omega,x.o,z.o,af ⟨om,aa _,?_⟩⟩;have:=q.o;rw[AB s k A,cK,ak X.o]at this;rw[E6];exact this
  simp[intOf];omega
 have X:=hid D;have T:¬s[k].toNat=c.toNat:=λh=>D (UInt8.toNat_inj.1 h);have W:((s[k].toNat:Int) == (c.toNat:Int))=false:=(by simp;omega);have U:¬(s[k].toNat:Int)=(c.toNat:Int):=om;have HO:=hid g;go_wp2;go_roundw
 case rel=>refine⟨k+1,t,p,om,by go_num,rfl,om,⟨HO.o⟩,d.o,af ⟨om,om,?_⟩⟩;have:=q.o;rw[AB s k A,cK,ag X.o]at this;rw[MY s t k hfk A];exact this
 simp[intOf];omega
end
def pE(x:List UInt8):List (List UInt8)->List (List UInt8)
 |[]=>[x]
 |y::l=>(x++y)::l
def et(c:UInt8):List UInt8->List (List UInt8)
 |[]=>[[]]
 |x::r=>if x=c then []::et c r else pE [x] (et c r)
theorem pu(c:UInt8)(l:List UInt8):∃y t,et c l=y::t:=by
 cases l with
 |nil=>exact⟨_,_,rfl⟩
 |cons x r=>
  unfold et;split
  ·exact⟨_,_,rfl⟩
  cases et c r<;>exact⟨_,_,rfl⟩
theorem zU(c:UInt8):∀(l:List UInt8) (acc:List (List UInt8)) (cur:List UInt8),cK c acc cur l=acc++pE cur (et c l)
 |[],acc,cur=>by simp[cK,et,pE]
 |x::r,acc,cur=>by
  obtain⟨y,t,h⟩:=pu c r;unfold cK et;split
  ·rw[zU c r,h];simp[pE]
  rw[zU c r,h];simp[pE]
theorem PD(c:UInt8)(l:List UInt8):cK c [] [] l=et c l:=by obtain⟨y,t,h⟩:=pu c l;rw[zU,h];simp[pE]
theorem Dh(c:UInt8):∀s:List UInt8,Lib.splitK [c] 0 (Lib.count s [c]) s=et c s
 |[]=>by rw[Lib.count_one];rfl
 |x::r=>by
   have a:=Dh c r;unfold et;split
   ·rename_i h;subst h;rw[Lib.count_cons_eq,Nat.add_comm,Lib.splitK,ag (by simp[Lib.index])];simp[Lib.index,a]
   rename_i h;rw[Lib.count_cons_ne _ _ _ h];rw[<-a];have g:([c]:List UInt8).isPrefixOf (x::r)=false:=(by simp only[List.isPrefixOf,Bool.and_eq_false_iff,oV];exact af (λe=>h e.symm));cases hk:Lib.count r [c] with
  |zero=>rfl
  |succ k=>
    rw[Lib.splitK,Lib.splitK];have f:Lib.index (x::r) [c]=if Lib.index r [c] == -1 then -1 else Lib.index r [c]+1:=by rw[Lib.index,ag (by rw[g];simp)]
    rw[f];by_cases d:Lib.index r [c]=-1
    ·simp[d,pE]
    have j:=Lib.index_ge r [c];have b:¬(Lib.index r [c] == -1)=true:=(by simp[d]);have i:¬(Lib.index r [c]+1 == -1)=true:=(by simp;omega);rw[ag b,ag i,ag b,show (Lib.index r [c]+1).toNat=(Lib.index r [c]).toNat+1 by omega];simp[pE]
def eo(l:List UInt8):Option Int:=match Lib.atoiAll l with
 |.ok n=>if Lib.itoa n=l/\-1<=n/\n<=99999 then O n else J
 |_=>J
def fZ:List (List UInt8)->Option (List Int)
 |[]=>O []
 |x::l=>match eo x,fZ l with
  |some n,O t=>O (n::t)
  |_,_=>J
def kB:List UInt8:=[115,101,116]
def kG:List UInt8:=[97,116]
def ku:List UInt8:=[115,116,97,114,116]
def nC:List UInt8:=[102,101,101,100]
def mt:List UInt8:=[114,101,97,100]
def mP:List UInt8:=[116,105,99,107]
def ml:List UInt8:=[119,104,101,114,101]
def nL:List UInt8:=[105,110]
def ot:List UInt8:=[119,97,114,109]
def nB:List UInt8:=[97,108,101,114,116,115]
def mj:List UInt8:=[100,114,111,112,115]
def gW:List UInt8:=[114,117,108,101]
def eS(n:List UInt8):Option (Nat×Nat):=
 if n=kB then O (6,0) else if n=kG then O (3,0) else if n=ku then O (0,0) else if n=nC then O (1,1) else if n=mt then O (4,1) else if n=mP then O (1,0) else if n=ml then O (1,1) else if n=nL then O (1,1) else if n=ot then O (1,0) else if n=nB then O (0,0) else if n=mj then O (0,0) else J
theorem xO{n:List UInt8}{a b:Nat}(h:eS n=O (a,b)):a<=6/\b<=1:=by
 unfold eS at h
 repeat' split at h
 all_goals first|(simp at h;omega)|(simp at h)
theorem PE(x:List UInt8){l:List (List UInt8)}(h:l≠[]):(pE x l).length=l.length:=by
 cases l with
 |nil=>exact absurd rfl h
 |cons y t=>rfl
theorem xF(c:UInt8):∀l:List UInt8,(et c l).length<=l.length+1
 |[]=>aa _
 |x::r=>by
  have:=xF c r;unfold et;split
  ·simp;omega
  obtain⟨y,t,h⟩:=pu c r;rw[PE _ (by rw[h];simp)];simp;omega
structure cj where
 b:List UInt8
 c:List Int
 a:List UInt8
def cj.n(c:cj)(i:Nat):Int:=c.c.getD i 0
def jf(l:List UInt8):Option cj:=match et 32 l with
 |[]=>J
 |n::ws=>match eS n with
  |none=>J
  |some (a,b)=>if ws.length=a+b then (match fZ (ws.take a) with
   |some t=>O ⟨n,t,ws.getD a []⟩
   |none=>J) else J
def eO(l:List UInt8):Option cj:=
 if 300<l.length then J
 else if (gW++[32]).isPrefixOf l=true then O ⟨gW,[],l.drop 5⟩
 else jf l
section
open Go.RowKit Go.Maps
structure uR (V:Ω) (b n:Nat) (f:List UInt8->Option Value):Prop where
 c:∃D:DataW Value,V.ownsMap prog 9 cB b n D/\(∀k zd,D.atKey (.string k) zd=match f k with|some v=>.held v|none=>zd)/\∀k,Maps.has D (.string k)=(f k).isSome
def ev(a b:Int):Value:=.agg #[I Q a,I Q b]
theorem PF(w:Ω):(zeroValue 141).run prog w=.ok (ev 0 0) w:=kr
theorem uR.e(V:Ω):uR (V.alloc (.map #[] 0)) V.1.size 0 (λ_=>J):=⟨_,oU V prog 9 cB,λ_ _=>rfl,λ_=>rfl⟩
theorem uR.a{V:Ω}{b n:Nat}{f:List UInt8->Option Value}(h:uR V b n f)(s:n<100)(k:List UInt8)(t:k.length<=100)(v:Value):
  ∃i,(Instr.mapUpdate 166 (.map (O b)) (Z ⟨k.toArray⟩) v).run prog V=.ok () i/\uR i b (n+1) (λx=>if x=k then O v else f x)/\V.grownBy i (O b):=by
 obtain⟨D,j,m,l⟩:=h.c;obtain⟨i,o,p,q⟩:=j.update (val:=v) (d:=.held v) (ps:=[]) ju underlying166 (by unfold maxLen;omega) (lM (g:=⟨k.toArray⟩) (by show k.toArray.size<=_;unfold maxLen;simp;omega)) rfl;refine⟨i,o,⟨_,p,λx r=>?_,λx=>?_⟩,q⟩
 ·by_cases e:x=k
  ·rw[e,ak rfl,rL j.isMap (uw _)]
  rw[ag e,qV (λh=>e (by injection h)),m]
 by_cases e:x=k
 ·rw[e,ak rfl,Maps.has_put_same j.isMap (uw _)];rfl
 rw[ag e,Maps.has_put_other (λh=>e (by injection h)),l]
theorem uR.d{V:Ω}{b n:Nat}{f:List UInt8->Option Value}(h:uR V b n f)(s:List UInt8)(o:s.length<=1000):
  (Instr.lookup 166 (.map (O b)) (Z ⟨s.toArray⟩) true).run prog V=.ok (Ψ #[(f s).getD (ev 0 0),.bool (f s).isSome]) V:=by
 obtain⟨D,j,k,i⟩:=h.c;obtain⟨v,m,l,a⟩:=j.look_ok ju underlying166 (PF V) (zd:=.held (ev 0 0)) (zp:=[]) rfl (lM (g:=⟨s.toArray⟩) (by show s.toArray.size<=_;unfold maxLen;simp;omega));rw[l,i]
 have e:v=(f s).getD (ev 0 0):=by
  rw[k]at a;unfold cB at a;cases h:f s with
 |none=>rw[h]at a;simp at a;exact a.1
 |some u=>rw[h]at a;simp at a;exact a.1
 rw[e]
theorem Bm(l:List UInt8):(if l=mj then O (ev 0 0) else if l=nB then O (ev 0 0) else if l=ot then O (ev 1 0) else if l=nL then O (ev 1 1) else if l=ml then O (ev 1 1) else if l=mP then O (ev 1 0) else if l=mt then O (ev 4 1) else if l=nC then O (ev 1 1) else if l=ku then O (ev 0 0) else if l=kG then O (ev 3 0) else if l=kB then O (ev 6 0) else J)=(eS l).map (λp=>ev p.1 p.2):=by
 unfold eS;by_cases i:l=kB
 ·subst i;rfl
 by_cases j:l=kG
 ·subst j;rfl
 by_cases c:l=ku
 ·subst c;rfl
 by_cases h:l=nC
 ·subst h;rfl
 by_cases e:l=mt
 ·subst e;rfl
 by_cases d:l=mP
 ·subst d;rfl
 by_cases g:l=ml
 ·subst g;rfl
 by_cases f:l=nL
 ·subst f;rfl
 by_cases k:l=ot
 ·subst k;rfl
 by_cases a:l=nB
 ·subst a;rfl
 by_cases b:l=mj
 ·subst b;rfl
 simp only[ag i,ag j,ag c,ag h,ag e,ag d,ag g,ag f,ag k,ag a,ag b];rfl
theorem oG{a b c:Ω}{k:Nat}(h:B a.1.size a b)(d:b.grownBy c (O k))(e:a.1.size<=k):B a.1.size a c:=h.grown d h.size (λj f=>by cases f;exact e)
theorem BO(l:List UInt8)(w:Ω)(hl:l.length<=1000):
  Φ prog 65 #[Z ⟨l.toArray⟩] w λe w'=>e=N (Ψ #[((eS l).map (λp=>ev p.1 p.2)).getD (ev 0 0),.bool ((eS l).map (λp=>ev p.1 p.2)).isSome])/\B w.1.size w w':=by
 rw[<-Bm];have S:=uR.e (w.alloc (Δ #[I Q 0,I Q 0] 141));obtain⟨V1,r1,V,u⟩:=S.a om kB dc (ev 6 0);obtain⟨V2,r2,P,s⟩:=V.a om kG dc (ev 3 0);obtain⟨V3,r3,W,G⟩:=P.a om ku dc (ev 0 0);obtain⟨V4,r4,m4,t⟩:=W.a om nC dc (ev 1 1);obtain⟨V5,r5,R,z⟩:=m4.a om mt dc (ev 4 1);obtain⟨V6,r6,T,F⟩:=R.a om mP dc (ev 1 0);obtain⟨V7,r7,U,r⟩:=T.a om ml dc (ev 1 1);obtain⟨V8,r8,m8,A⟩:=U.a om nL dc (ev 1 1);obtain⟨V9,r9,m9,D⟩:=m8.a om ot dc (ev 1 0);obtain⟨V10,L,n,m⟩:=m9.a om nB dc (ev 0 0);obtain⟨g,C,q,k⟩:=n.a om mj dc (ev 0 0);have X:=q.d l om;have hmm:=@run_makeMap prog;obtain⟨a,b,K⟩:∃a b,(((eS l).map (λp=>ev p.1 p.2)).getD (ev 0 0))=ev a b:=by cases eS l<;>exact⟨_,_,rfl⟩
 rw[Bm,K]at X;rw[Bm,K];generalize ((eS l).map (λp=>ev p.1 p.2)).isSome=o at *
 have HB:H (B w.1.size w g):=by
  have f:w.1.size<=(w.alloc (Δ #[I Q 0,I Q 0] 141)).1.size:=by simp
  exact oG (oG (oG (oG (oG (oG (oG (oG (oG (oG (oG (ba.l f _) u f) s f) G f) t f) z f) F f) r f) A f) D f) m f) k f
 have j:g.1[w.1.size]?=O (Δ #[I Q 0,I Q 0] 141):=by have f:∀{x y:Ω},x.grownBy y (O (w.alloc (Δ #[I Q 0,I Q 0] 141)).1.size)->(w.1.size<x.1.size/\x.1[w.1.size]?=O (Δ #[I Q 0,I Q 0] 141))->(w.1.size<y.1.size/\y.1[w.1.size]?=O (Δ #[I Q 0,I Q 0] 141)):=λhg h=>⟨bg h.1 hg.size,(hg.block _ h.1 sm).trans h.2⟩;exact(f k (f m (f D (f A (f r (f F (f z (f t (f G (f s (f u ⟨by simp;omega,(ba.block _ sm).trans (bn w _)⟩))))))))))).2
 have c0:g.cell? ⟨w.1.size,0,J⟩=O (I Q 0):=by simp[World.cell?,j]
 have c1:g.cell? ⟨w.1.size,1,J⟩=O (I Q 0):=by simp[World.cell?,j]
 have f0:∀i,g.frozen? ⟨w.1.size,i,J⟩=false:=λi=>by simp[World.frozen?,j]
 have E:w.1.size<g.1.size:=(bP.1 j).1;clear j;simp only[ev,kB,kG,ku,nC,mt,mP,ml,nL,ot,nB,mj,fi]at r1 r2 r3 r4 r5 r6 r7 r8 r9 L C X;clear K hl V P W m4 R T U m8 m9 n q u s G t z F r A D m k S;go_enter func65,ntmps65;go_wp2;refine bK (v:=Ψ #[ev a b,.bool o]) (by simp[results,results65,ev,go_sem,c0,c1,E]) rfl ⟨rfl,?_⟩;exact((HB.o.c nl _).c nl _).l (by simpa [World.setCell] using HB.o.size) _
end
section
open Go.RowKit
theorem uE(n:Int)(w:Ω)(f:aT w)(b:-9223372036854775808<=n)(d:n<=9223372036854775807):
  Φ prog 48 #[I Q n] w λe a=>e=N (Z (ae (Lib.itoa n)))/\B w.1.size w a:=
 (strconv_Itoa n b d w f.h).m λe a ⟨c,k,g,h⟩=>⟨c,h ▸ Lib.below_grow _ _ nl _ _⟩
theorem uD{n a b:Int}{r:Bool}(h:(decide (a<=n)&&decide (n<=b))=r)(w:Ω):
  Φ prog 67 #[I Q n,I Q a,I Q b] w λe c=>e=N (.bool r)/\c=w:=by
 subst h;by_cases d:a<=n<;>by_cases f:n<=b<;>simp only[d,f,decide_true,decide_false,Bool.and_self,Bool.and_true,Bool.and_false]<;>(go_enter func67,ntmps67;go_wp2;go_ret;exact⟨rfl,rfl⟩)
structure Hk (l:List UInt8) (w:Ω) (e:Ending) (w':Ω):Prop where
 b:(∃n,Lib.atoiAll l=.ok n/\-9223372036854775808<=n/\n<=9223372036854775807/\e=N (Ψ #[I Q n,.nilIface]))\/((∀n,Lib.atoiAll l≠.ok n)/\∃n t p,e=N (Ψ #[I Q n,.iface t p]))
 a:B w.1.size w w'
theorem Q8(l:List UInt8)(w:Ω)(i:aT w)(r:l.length<=400): Φ prog 91 #[Z (ae l)] w λe b=>Hk l w e b:=by
 have s:=aV l;have c:=bX l;cases h:Lib.atoiAll l with
 |ok v=>
  obtain⟨k,o⟩:=Lib.atoiAll_bounds h;refine(strconv_Atoi_ok (ae l) om v (by rw[c];exact h) w).m ?_;rintro e b ⟨rfl,p⟩;refine⟨af ⟨v,h,k,o,rfl⟩,?_⟩;rcases p with rfl|⟨t,rfl⟩
  ·exact aj _ _
  exact yA _ _
 |range=>
  obtain⟨j,q,d⟩:=i.e;refine(strconv_Atoi_range (ae l) om (by rw[c];exact h) _ w d (ah ⟨_,_,rfl⟩)).m ?_;rintro e b ⟨a,rfl,_,_,g⟩;exact⟨ah ⟨λn=>by rw[h];simp,_,_,_,rfl⟩,g⟩
 |_=>
  obtain⟨j,q,d⟩:=i.f;refine(strconv_Atoi_syntax (ae l) om (by rw[c];exact h) _ w d (ah ⟨_,_,rfl⟩)).m ?_;rintro e b ⟨a,rfl,_,_,g⟩;exact⟨ah ⟨λn=>by rw[h];simp,_,_,_,rfl⟩,g⟩
theorem IA(l:List UInt8)(w:Ω)(x:aT w)(y:l.length<=400):
  Φ prog 66 #[Z (ae l)] w λe s=>e=N (Ψ #[I Q ((eo l).getD 0),.bool (eo l).isSome])/\B w.1.size w s:=by
 have C:=hid x;have z:=hid (Q8 l w x y);go_enter func66,ntmps66;go_wp2_with fail;refine z.o.m ?_;rintro e A ⟨D,q⟩;have c:=hid q;rcases D with ⟨n,h1,h2,h3,rfl⟩|⟨h1,n,t,p,rfl⟩
 ·have i:(ae (Lib.itoa n)).toList=Lib.itoa n:=by rw[cY,bX]
  have f:(ae l).toList=l:=by rw[cY,bX]
  have k:=hid (uE n A (C.o.a c.o) h2 h3);have g:H (eo l=if Lib.itoa n=l/\-1<=n/\n<=99999 then O n else J):=by show _=_;unfold eo;rw[h1]
  by_cases j:Lib.itoa n=l
  ·have E:((ae (Lib.itoa n)).toList == (ae l).toList)=true:=(by rw[i,f,j];simp);have d:=hid j;by_cases u:-1<=n/\n<=99999
   ·go_wp2_with (first|(go_at_call 48;refine k.o.m ?_;rintro e v ⟨rfl,b⟩)|(go_at_call 67;refine(uD (r:=true) (by simp[u]) _).m ?_;rintro e s ⟨rfl,rfl⟩));go_ret2;exact⟨by rw[g.o,ak ⟨d.o,u⟩];rfl,c.o.t (b.m c.o.size)⟩
   go_wp2_with (first|(go_at_call 48;refine k.o.m ?_;rintro e v ⟨rfl,b⟩)|(go_at_call 67;refine(uD (r:=false) (by simp;omega) _).m ?_;rintro e s ⟨rfl,rfl⟩));go_ret2;exact⟨by rw[g.o,ag (λh=>u h.2)];rfl,c.o.t (b.m c.o.size)⟩
  have E:((ae (Lib.itoa n)).toList == (ae l).toList)=false:=(by rw[i,f];simp[j]);have d:=hid j;go_wp2_with (go_at_call 48;refine k.o.m ?_;rintro e v ⟨rfl,b⟩);go_ret2;exact⟨by rw[g.o,ag (λh=>d.o h.1)];rfl,c.o.t (b.m c.o.size)⟩
 have g:H (eo l=J):=by show _=_;unfold eo;split;(rename_i n h;exact absurd h (h1 n));rfl
 go_wp2;go_ret2;exact⟨by rw[g.o];rfl,c.o⟩
end
section
open Go.RowKit Go.Maps
def aY(n:List UInt8)(t:List Int)(x:List UInt8):Array Value:=#[Z (ae n),I Q (t.getD 0 0),I Q (t.getD 1 0),I Q (t.getD 2 0),I Q (t.getD 3 0),I Q (t.getD 4 0),I Q (t.getD 5 0),Z (ae x)]
def jG:Option cj->Value
 |some c=>Ψ #[.agg (aY c.b c.c c.a),.bool true]
 |none=>Ψ #[.agg (aY [] [] []),.bool false]
theorem vM:ae []=⟨#[]⟩:=rfl
theorem IB(l:List UInt8)(w:Ω)(h:300<l.length)(b:l.length<=400):
  Φ prog 42 #[Z (ae l)] w λe a=>e=N (jG J)/\B w.1.size w a:=by
 have c:=aV l;go_enter func42,ntmps42;go_wp2;refine bK (v:=jG J) (by simp[results,results42,jG,aY,vM,go_sem]) rfl ⟨rfl,ba⟩
theorem IC(l:List UInt8)(w:Ω)(h:l.length<=300)(c:(gW++[32]).isPrefixOf l=true):
  Φ prog 42 #[Z (ae l)] w λe a=>e=N (jG (O ⟨gW,[],l.drop 5⟩))/\B w.1.size w a:=by
 have f:=aV l;have b:H (∀V,Φ prog 63 #[Z (ae l),Z ⟨#[114,117,108,101,32]⟩] V λe a=>e=N (Ψ #[Z (ae (l.drop 5)),.bool true])/\a=V):=λV=>by have:=strings_CutPrefix (ae l) ⟨#[114,117,108,101,32]⟩ V;rw[bX]at this;have e:Lib.hasPrefix l [114,117,108,101,32]=true:=c;unfold Lib.trimPrefix at this;rw[e,ak rfl]at this;exact this
 go_enter func42,ntmps42;go_wp2_with (go_at_call 63;refine(b.o _).m ?_;rintro e d ⟨rfl,rfl⟩);exact bK (v:=jG (O ⟨gW,[],l.drop 5⟩)) (by simp[results,results42,jG,aY,show ae gW=⟨#[114,117,108,101]⟩ from rfl,go_sem]) rfl ⟨rfl,ba⟩
structure oH (V:Ω) (b:Nat) (ws:List (List UInt8)):Prop where
 a:∀j x,ws[j]?=O x->V.cell? ⟨b,j,J⟩=O (Z (ae x))
 c:b<V.1.size
theorem oH.d{V V':Ω}{b:Nat}{ws:List (List UInt8)}(h:oH V b ws)(e:B V.1.size V V'):oH V' b ws:=⟨λj x f=>by rw[e.cell h.c];exact h.a j x f,bg h.c e.size⟩
theorem E7(l:List UInt8)(w:Ω)(k:aT w)(o:l.length<=400):
  Φ prog 64 #[Z (ae l),Z ⟨#[32]⟩] w λe b=>e=N (M (O ⟨w.1.size,0,J⟩) (et 32 l).length (et 32 l).length)/\oH b w.1.size (et 32 l)/\B w.1.size w b:=by
 obtain⟨m,n⟩:=k.g;have c:Lib.countB (ae l) ⟨#[32]⟩=Lib.count l [32]:=by unfold Lib.countB;rw[bX]
 have d:(Lib.splitB ⟨#[32]⟩ 0 (Lib.count l [32]) (ae l)).map (·.1.toList)=et 32 l:=by rw[Lib.splitB_data,bX];exact Dh 32 l
 have i:(et 32 l).length=Lib.count l [32]+1:=by rw[<-d,jp,<-c];exact Lib.splitB_all ⟨#[32]⟩ dc 0 _ _ rfl
 refine(strings_Split (ae l) ⟨#[32]⟩ m w (by rw[aV];omega) n dc).m ?_;rintro e b ⟨rfl,rfl⟩;rw[c,i];refine⟨rfl,⟨λj x a=>?_,by simp⟩,ba⟩
 have f:((Lib.splitB ⟨#[32]⟩ 0 (Lib.count l [32]) (ae l)).map Z)[j]?=O (Z (ae x)):=by
  rw[<-d,eE]at a;rw[eE];cases h:(Lib.splitB ⟨#[32]⟩ 0 (Lib.count l [32]) (ae l))[j]? with
 |none=>rw[h]at a;simp at a
 |some y=>rw[h]at a;simp at a;rw[<-a];simp[ae]
 simp only[World.cell?,bn];simpa using f
theorem CC(l:List UInt8)(n:List UInt8)(ws:List (List UInt8))(w:Ω)(hT:aT w)(h:l.length<=300)(hp:(gW++[32]).isPrefixOf l=false)(R:et 32 l=n::ws)(hn:n.length<=1000)
   (G:∀a b,eS n=O (a,b)->ws.length≠a+b):
   Φ prog 42 #[Z (ae l)] w λe g=>e=N (jG J)/\B w.1.size w g:=by
  have hz:=aV l;have HC:H (∀V,Φ prog 63 #[Z (ae l),Z ⟨#[114,117,108,101,32]⟩] V λe g=>e=N (Ψ #[Z (ae l),.bool false])/\g=V):=λV=>by have:=strings_CutPrefix (ae l) ⟨#[114,117,108,101,32]⟩ V;rw[bX]at this;have e:Lib.hasPrefix l [114,117,108,101,32]=false:=hp;unfold Lib.trimPrefix at this;rw[e]at this;exact this
  have T:H (∀V,aT V->Φ prog 64 #[Z (ae l),Z ⟨#[32]⟩] V λe g=>e=N (M (O ⟨V.1.size,0,J⟩) (ws.length+1) (ws.length+1))/\oH g V.1.size (n::ws)/\B V.1.size V g):=λV X=>by have:=E7 l V X om;rw[R]at this;exact this
  have HT:H (aT w):=hT
  obtain⟨a,b,L,W,U,ha0,ha6,hb0,d⟩:∃(a b:Int) (L:Bool),H (∀V,Φ prog 65 #[Z (ae n)] V λe g=>e=N (Ψ #[.agg #[I Q a,I Q b],.bool L])/\B V.1.size V g)/\(L=true->((ws.length:Int)+1 != 1+a+b)=true)/\0<=a/\a<=6/\0<=b/\b<=1:=by
   have K:=λV=>BO n V hn;cases F:eS n with
  |none=>rw[F]at K;exact⟨0,0,false,K,by simp,om,om,om,om⟩
  |some p=>
    obtain⟨x,y⟩:=p;rw[F]at K;have:=G x y F;have h2:=xO F;exact⟨x,y,true,K,λ_=>by simp;omega,om,om,om,om⟩
  have hlw:ws.length<=400:=by have:=xF 32 l;rw[R]at this;simp at this;omega
  have hlw':((ws.length+1:Nat):Int)=(ws.length:Int)+1:=om;clear hT R G hn;go_enter func42,ntmps42;go_wp2_with (first|(go_at_call 63;refine(HC.o _).m ?_;rintro e g ⟨rfl,rfl⟩)|(go_at_call 64;fail));refine(T.o _ (HT.o.a ba)).m ?_;rintro e P ⟨rfl,q,d⟩;have S:H (B w.1.size w P):=((aj w.1.size w).l nl _).t (d.m sm);have c0:=q.a 0 n rfl;simp only[fi]at c0;have A:=q.c;simp only[fi]at A;have E:P.1[w.1.size]?=O (Δ #[Z ⟨#[]⟩,I Q 0,I Q 0,I Q 0,I Q 0,I Q 0,I Q 0,Z ⟨#[]⟩] 112):=(d.block _ sm).trans (bn w _);have s:H (P.1[w.1.size]?=O (Δ #[Z ⟨#[]⟩,I Q 0,I Q 0,I Q 0,I Q 0,I Q 0,I Q 0,Z ⟨#[]⟩] 112)):=E;clear d q E;go_wp2_with (first|(go_at_call 65;fail));refine(W.o _).m ?_;rintro e u ⟨rfl,r⟩;have C:w.1.size<P.1.size:=Nat.lt_trans (Nat.lt_succ_self _) A;have k:u.1[w.1.size]?=O (Δ #[Z ⟨#[]⟩,I Q 0,I Q 0,I Q 0,I Q 0,I Q 0,I Q 0,Z ⟨#[]⟩] 112):=(r.block _ (by simp;omega)).trans ((ba.block _ C).trans s.o);have z:∀i v,#[Z ⟨#[]⟩,I Q 0,I Q 0,I Q 0,I Q 0,I Q 0,I Q 0,Z ⟨#[]⟩][i]?=O v->u.cell? ⟨w.1.size,i,J⟩=O v:=λi v hv=>by simp only[World.cell?,k];exact hv
  have z0:=z 0 _ rfl;have z1:=z 1 _ rfl;have z2:=z 2 _ rfl;have z3:=z 3 _ rfl;have z4:=z 4 _ rfl;have z5:=z 5 _ rfl;have z6:=z 6 _ rfl;have z7:=z 7 _ rfl;have zf:∀i,u.frozen? ⟨w.1.size,i,J⟩=false:=λi=>by simp[World.frozen?,k]
  have D:w.1.size<u.1.size:=(bP.1 k).1;have f:H (B w.1.size w u):=S.o.t ((ba.t (r.m sm)).m (gv C));clear k z r s c0;have j:H (∀V,B w.1.size w V->∀v0 v1 v2 v3 v4 v5 v6 v7,B w.1.size w ((((((((V.setCell ⟨w.1.size,0,J⟩ v0).setCell ⟨w.1.size,1,J⟩ v1).setCell ⟨w.1.size,2,J⟩ v2).setCell ⟨w.1.size,3,J⟩ v3).setCell ⟨w.1.size,4,J⟩ v4).setCell ⟨w.1.size,5,J⟩ v5).setCell ⟨w.1.size,6,J⟩ v6).setCell ⟨w.1.size,7,J⟩ v7)):=λV X v0 v1 v2 v3 v4 v5 v6 v7=>(((((((X.c nl _).c nl _).c nl _).c nl _).c nl _).c nl _).c nl _).c nl _;cases L with
 |false=>
   go_wp2;refine bK (v:=jG J) (by simp[results,results42,jG,aY,vM,go_sem,z0,z1,z2,z3,z4,z5,z6,z7,D]) rfl ⟨rfl,?_⟩;exact(j.o _ f.o _ _ _ _ _ _ _ _).l (j.o _ f.o _ _ _ _ _ _ _ _).size _
 |true=>
   have F:=U rfl;go_wp2;refine bK (v:=jG J) (by simp[results,results42,jG,aY,vM,go_sem,z0,z1,z2,z3,z4,z5,z6,z7,D]) rfl ⟨rfl,?_⟩;exact(j.o _ f.o _ _ _ _ _ _ _ _).l (j.o _ f.o _ _ _ _ _ _ _ _).size _
end
section
open Go.RowKit Go.Maps
theorem rY:∀{ws:List (List UInt8)} {k:Nat} {x:List UInt8},ws[k]?=O x->fZ (ws.take (k+1))=(match fZ (ws.take k),eo x with|some t,O n=>O (t++[n])|_,_=>J)
 |[],k,x,h=>by simp at h
 |y::ws,0,x,h=>by simp at h;subst h;simp[fZ];cases eo y<;>rfl
 |y::ws,k+1,x,h=>by have a:=rY (ws:=ws) (k:=k) (x:=x) (by simpa using h);simp only[List.take_succ_cons,fZ,a];cases eo y<;>cases fZ (ws.take k)<;>cases eo x<;>rfl
theorem Di{ws:List (List UInt8)}:∀{k a:Nat},k<=a->fZ (ws.take k)=J->fZ (ws.take a)=J:=by
  intro k a c h
  induction a with
 |zero=>rw[show k=0 by omega]at h;exact h
 |succ a b=>
   by_cases e:k=a+1
   ·rw[<-e];exact h
   have b:=b om;cases hx:ws[a]? with
  |none=>
    have:ws.take (a+1)=ws.take a:=(by have:=List.getElem?_eq_none_iff.1 hx;rw[ip om,ip this]);rw[this];exact b
  |some x=>rw[rY hx,b]
theorem xm:∀{ws:List (List UInt8)} {t:List Int},fZ ws=O t->t.length=ws.length
 |[],t,h=>by simp[fZ]at h;rw[h];rfl
 |y::ws,t,h=>by
   unfold fZ at h;cases h1:eo y with
  |none=>rw[h1]at h;simp at h
  |some n=>
    cases h2:fZ ws with
   |none=>rw[h1,h2]at h;simp at h
   |some u=>rw[h1,h2]at h;simp at h;rw[<-h];simp[xm h2]
theorem Q9(n:List UInt8)(t:List Int)(v:Int)(x:List UInt8)(h:t.length<6):(aY n t x).setIfInBounds (1+t.length) (I Q v)=aY n (t++[v]) x:=by
 match t,h with
 |[],_|[_],_|[_,_],_|[_,_,_],_|[_,_,_,_],_|[_,_,_,_,_],_=>rfl
def qT:Array Value:=#[Z ⟨#[]⟩,I Q 0,I Q 0,I Q 0,I Q 0,I Q 0,I Q 0,Z ⟨#[]⟩]
theorem D6{V:Ω}{b:Nat}(h:V.1[b]?=O (Δ qT 112)):V.cell? ⟨b,0,J⟩=O (Z ⟨#[]⟩)/\V.cell? ⟨b,1,J⟩=O (I Q 0)/\V.cell? ⟨b,2,J⟩=O (I Q 0)/\V.cell? ⟨b,3,J⟩=O (I Q 0)/\V.cell? ⟨b,4,J⟩=O (I Q 0)/\V.cell? ⟨b,5,J⟩=O (I Q 0)/\V.cell? ⟨b,6,J⟩=O (I Q 0)/\V.cell? ⟨b,7,J⟩=O (Z ⟨#[]⟩)/\(∀i,V.frozen? ⟨b,i,J⟩=false)/\b<V.1.size:=by
 refine⟨?_,?_,?_,?_,?_,?_,?_,?_,?_,(bP.1 h).1⟩
 all_goals first|(simp only[World.cell?,h];rfl)|(intro i;simp[World.frozen?,h])
theorem AY{w V:Ω}(j:B w.1.size w V)(i g e b d f h a:Value):B w.1.size w ((((((((V.setCell ⟨w.1.size,0,J⟩ i).setCell ⟨w.1.size,1,J⟩ g).setCell ⟨w.1.size,2,J⟩ e).setCell ⟨w.1.size,3,J⟩ b).setCell ⟨w.1.size,4,J⟩ d).setCell ⟨w.1.size,5,J⟩ f).setCell ⟨w.1.size,6,J⟩ h).setCell ⟨w.1.size,7,J⟩ a):=(((((((j.c nl _).c nl _).c nl _).c nl _).c nl _).c nl _).c nl _).c nl _
theorem zV{V:Ω}{b:Nat}{n x:List UInt8}{t:List Int}(h:V.1[b]?=O (Δ (aY n t x) 112)):V.cell? ⟨b,0,J⟩=O (Z (ae n))/\V.cell? ⟨b,1,J⟩=O (I Q (t.getD 0 0))/\V.cell? ⟨b,2,J⟩=O (I Q (t.getD 1 0))/\V.cell? ⟨b,3,J⟩=O (I Q (t.getD 2 0))/\V.cell? ⟨b,4,J⟩=O (I Q (t.getD 3 0))/\V.cell? ⟨b,5,J⟩=O (I Q (t.getD 4 0))/\V.cell? ⟨b,6,J⟩=O (I Q (t.getD 5 0))/\V.cell? ⟨b,7,J⟩=O (Z (ae x))/\(∀i,V.frozen? ⟨b,i,J⟩=false)/\b<V.1.size:=by
 refine⟨?_,?_,?_,?_,?_,?_,?_,?_,?_,(bP.1 h).1⟩
 all_goals first|(simp only[World.cell?,h];rfl)|(intro i;simp[World.frozen?,h])
theorem Ip(l:List UInt8)(n:List UInt8)(ws:List (List UInt8))(a b:Nat){o:Option cj}(w:Ω)(hT:aT w)(h:l.length<=300)(hp:(gW++[32]).isPrefixOf l=false)(hw:et 32 l=n::ws)(hn:n.length<=1000)(K:∀x,x∈ws->x.length<=400)
  (a4:eS n=O (a,b))(W:ws.length=a+b)(ho:o=match fZ (ws.take a) with|some t=>O ⟨n,t,ws.getD a []⟩|none=>J):
  Φ prog 42 #[Z (ae l)] w λe T=>e=N (jG o)/\B w.1.size w T:=by
 have hz:=aV l;have HC:H (∀V,Φ prog 63 #[Z (ae l),Z ⟨#[114,117,108,101,32]⟩] V λe T=>e=N (Ψ #[Z (ae l),.bool false])/\T=V):=λV=>by have:=strings_CutPrefix (ae l) ⟨#[114,117,108,101,32]⟩ V;rw[bX]at this;have e:Lib.hasPrefix l [114,117,108,101,32]=false:=hp;unfold Lib.trimPrefix at this;rw[e]at this;exact this
 have HSP:H (∀V,aT V->Φ prog 64 #[Z (ae l),Z ⟨#[32]⟩] V λe T=>e=N (M (O ⟨V.1.size,0,J⟩) (a+b+1) (a+b+1))/\oH T V.1.size (n::ws)/\B V.1.size V T):=λV hV=>by have:=E7 l V hV om;rw[hw,eF,W]at this;exact this
 have HWB:H (∀V,Φ prog 65 #[Z (ae n)] V λe T=>e=N (Ψ #[.agg #[I Q (a:Int),I Q (b:Int)],.bool true])/\B V.1.size V T):=λV=>by have:=BO n V hn;rw[a4]at this;exact this
 have HT:=hid hT;have h6:=xO a4;have ha6:=h6.1;have L:=h6.2;have HO:=hid ho;have HX:=hid K;have R:=hid W;have h300:¬(300:Int)<(l.length:Int):=om;clear hT hw hn a4 h6 ho K W h;go_enter func42,ntmps42;go_wp2_with (first|(go_at_call 63;refine(HC.o _).m ?_;rintro e T ⟨rfl,rfl⟩)|(go_at_call 64;fail));refine(HSP.o _ (HT.o.a ba)).m ?_;rintro e q ⟨rfl,D,L⟩;have ad:=hid (((aj w.1.size w).l nl _).t (L.m sm));simp only[fi]at D;have HW1:=hid D;have c0:=D.a 0 n rfl;have hlt:=D.c;have s:=hid ((L.block _ sm).trans (bn w _));clear L D;go_wp2_with (first|(go_at_call 65;fail));refine(HWB.o _).m ?_;rintro e w2 ⟨rfl,a1⟩;have r:=Nat.lt_trans (Nat.lt_succ_self _) hlt;have p:=ba.t (a1.m sm);have HR2:=hid ((p.block _ r).trans s.o);have a2:=hid ((a1.block _ sm).trans (bn q _));have ao:=hid (HW1.o.d p);have a6:=hid (ad.o.t (p.m (gv r)));have hs2:=(bP.1 a2.o).1;clear a1 s c0 ad HW1 p;have hne:((a:Int)+(b:Int)+1 != 1+(a:Int)+(b:Int))=false:=by simp;omega
 have hI1:(1:Int)+(a:Int)<=((a+b+1:Nat):Int):=om;have hI2:(1:Int)<=1+(a:Int):=om;have hI3:(0:Int)<=1+(a:Int):=om;have hI4:((1:Int)+(a:Int)).toNat=1+a:=om;go_wp2_with fail;go_quiet (fail);obtain⟨pn,A⟩:∃pn,pn=(if a=0/\b=0 then O (⟨w.1.size+1,0,J⟩:Addr) else O ⟨w.1.size+1,1,J⟩):=⟨_,rfl⟩;rw[<-A];have HPN:H (¬a=0->pn=O ⟨w.1.size+1,1,J⟩):=λh=>by rw[A,ag (λh'=>h h'.1)]
 clear A;obtain⟨pt,C⟩:∃pt,pt=(if a+b+1=1+a then O (⟨w.1.size+1,0,J⟩:Addr) else O ⟨w.1.size+1,1+a,J⟩):=⟨_,rfl⟩;rw[<-C];have HPT:H (b=1->pt=O ⟨w.1.size+1,1+a,J⟩):=λh=>by rw[C,ag om]
 have hb':a+b+1-(1+a)=b:=om;rw[hb'];clear C hb' hI1 hI2 hI3 hI4;obtain⟨W3,a3⟩:∃W3,W3=(w2.alloc (Δ #[I Q (a:Int),I Q (b:Int)] 141)).drewN nq:=⟨_,rfl⟩;rw[<-a3];have g:B w2.1.size w2 W3:=by rw[a3];exact ba.t ((gp _ _).m sm)
 have hs0:=Nat.lt_trans r hs2;have HR3:=hid ((g.block _ hs0).trans HR2.o);have HC3:=hid ((g.block _ hs2).trans a2.o);have HW3:=hid (ao.o.d g);have HB3:=hid (a6.o.t (g.m a6.o.size));clear a3 g HR2 a2 ao a6;go_wp2;go_loopw [3,9,12,13,64] (λr3 r9 _ _ i V=>∃(k:Nat) (t:List Int),k<=a/\i=I Q (k:Int)/\fZ (ws.take k)=O t/\r3=.bool false/\r9=.bool true/\V.1[q.1.size]?=O (Δ (aY n t []) 112)/\V.1[w.1.size]?=O (Δ qT 112)/\oH V (w.1.size+1) (n::ws)/\B w.1.size w V) (λ_ _ _ _ i _=>a-(intOf i).toNat)
 case atStart=>exact⟨0,[],aX _,rfl,rfl,rfl,rfl,HC3.o,HR3.o,HW3.o,HB3.o⟩
 obtain⟨k,t,hk,rfl,hnt,rfl,rfl,a5,hrb,G,hbl⟩:=hrel;have u:=hid a5;have s:=hid hrb;have HWL:=hid G;have E:=hid hbl;have P:=hid hnt;have ab:=(bP.1 a5).1;clear a5 hrb hbl hnt;by_cases hka:k<a
 ·have A:=HPN.o om;subst A;obtain⟨x,K⟩:∃x,ws[k]?=O x:=⟨_,bc (by have:=R.o;omega)⟩;have an:=hid K;have cx:=G.a (k+1) x (by simpa using K);have cx':wr.cell? ⟨w.1.size+1,1+k,J⟩=O (Z (ae x)):=(by rw[Nat.add_comm 1 k];exact cx);have hkI:(k:Int)<(a:Int):=om;have hxl:=HX.o x (iW K);clear K G cx;go_wp2_with (go_at_call 66;fail);refine(IA x wr (HT.o.a E.o) hxl).m ?_;rintro e w4 ⟨rfl,z⟩;have ht:t.length=k:=(by have:=xm P.o;rw[this,fj];have:=R.o;omega);have S:=(z.block _ ab).trans u.o;have hr4:=(z.block _ (Nat.lt_trans r ab)).trans s.o;obtain⟨ov,hov⟩:∃ov,(aY n t [])[1+k]?=O ov:=⟨_,oQ (by show 1+k<8;omega)⟩;have co:w4.cell? ⟨q.1.size,1+k,J⟩=O ov:=(by simp only[World.cell?,S];exact hov);have fo:w4.frozen? ⟨q.1.size,1+k,J⟩=false:=(by simp[World.frozen?,S]);obtain⟨v,hv⟩:∃v,v=(eo x).getD 0:=⟨_,rfl⟩;obtain⟨U,f⟩:∃U,U=w4.setCell ⟨q.1.size,1+k,J⟩ (I Q v):=⟨_,rfl⟩;have HC5:H (U.1[q.1.size]?=O (Δ (aY n (t++[v]) []) 112)):=(by show _=_;rw[f];simp only[World.setCell,dU,S,iP,kS,ie,iq,fL];rw[<-ht,Q9 _ _ _ _ om]);have HR5:H (U.1[w.1.size]?=O (Δ qT 112)):=(by show _=_;rw[f,bN _ _ _ _ (by show w.1.size≠q.1.size;omega)];exact hr4);have a8:H (B w.1.size w U):=(by show B _ _ _;rw[f];exact(E.o.t (z.m E.o.size)).c (gv r) _);have HW5':H (oH U (w.1.size+1) (n::ws)):=(by have:=HWL.o.d z;refine⟨λj x K=>?_,by rw[f];simpa [World.setCell] using this.c⟩;rw[f,dT _ _ _ _ (by show q.1.size≠w.1.size+1;omega)];exact this.a j x K);rw[<-hv];have HV:=hid hv;clear S hr4 hov z hv;cases hnx:eo x with
 |none=>
   have a7:H (fZ (ws.take a)=J):=Di (k:=k+1) om (by rw[rY an.o,P.o,hnx]);clear hnx;rw[show (J:Option Int).isSome=false from rfl];have F:H (w4.setCell ⟨q.1.size,1+k,J⟩ (I Q v)=U):=f.symm;clear f;go_upto_region 16 with fail
   rw[F.o];obtain⟨z0,z1,z2,z3,z4,z5,z6,z7,zf,zs⟩:=D6 HR5.o;clear F co fo;go_wp2;refine bK (v:=jG J) (by simp[results,results42,jG,aY,vM,go_sem,z0,z1,z2,z3,z4,z5,z6,z7,zs]) rfl ⟨by rw[HO.o,a7.o],AY a8.o _ _ _ _ _ _ _ _⟩
 |some y=>
   have a7:H (fZ (ws.take (k+1))=O (t++[v])):=(by show _=_;rw[rY an.o,P.o,hnx,HV.o,hnx];rfl);clear hnx;rw[show (O y).isSome=true from rfl];have F:H (w4.setCell ⟨q.1.size,1+k,J⟩ (I Q v)=U):=f.symm;clear f;go_upto_region 16 with fail
   rw[F.o];clear F co fo;go_wp2;go_roundw
   case rel=>exact⟨k+1,t++[v],om,by go_num,a7.o,rfl,rfl,HC5.o,HR5.o,HW5'.o,a8.o⟩
   simp[intOf];omega
 have hkI:¬(k:Int)<(a:Int):=om;have hke:k=a:=om;subst hke;have am:H (o=O ⟨n,t,ws.getD k []⟩):=by show _=_;rw[HO.o,P.o]
 obtain⟨X,y,a0,hC6,hR6,HB6,HY⟩:∃(X:Ω) (y:List UInt8),H ((b=0/\X=wr)\/(b=1/\wr.cell? ⟨w.1.size+1,1+k,J⟩=O (Z (ae y))/\wr.setCell ⟨q.1.size,7,J⟩ (Z (ae y))=X))/\X.1[q.1.size]?=O (Δ (aY n t y) 112)/\X.1[w.1.size]?=O (Δ qT 112)/\H (B w.1.size w X)/\H (o=O ⟨n,t,y⟩):=by
  rcases(show b=0\/b=1 by omega) with hb|hb
  ·have e:ws.getD k []=[]:=(by rw[en,iV (by have:=R.o;omega)];rfl);exact⟨wr,[],af ⟨hb,rfl⟩,u.o,s.o,E.o,by show _=_;rw[am.o,e]⟩
  obtain⟨y,hy⟩:∃y,ws[k]?=O y:=⟨_,bc (by have:=R.o;omega)⟩;have e:ws.getD k []=y:=(by rw[en,hy];rfl);refine⟨_,y,ah ⟨hb,by rw[Nat.add_comm 1 k];exact G.a (k+1) y (by simpa using hy),rfl⟩,?_,?_,E.o.c (gv r) _,by show _=_;rw[am.o,e]⟩
  ·simp only[World.setCell,dU,u.o,iP,kS,ie,iq,fL];rfl
  rw[bN _ _ _ _ (by show w.1.size≠q.1.size;omega)];exact s.o
 obtain⟨z0,z1,z2,z3,z4,z5,z6,z7,zf,zs⟩:=D6 hR6;obtain⟨l0,l1,l2,l3,l4,l5,l6,l7,lf,ls⟩:=zV hC6;have q7:=(zV u.o).2.2.2.2.2.2.2.1;have qf:=(zV u.o).2.2.2.2.2.2.2.2.1 7;rw[vM]at q7;rcases a0.o with ⟨hb,he⟩|⟨hb,cy,he⟩
 ·subst hb he;clear a0;go_wp2;exact bK (v:=jG (O ⟨n,t,y⟩)) (by simp[results,results42,jG,aY,go_sem,z0,z1,z2,z3,z4,z5,z6,z7,zs]) rfl ⟨by rw[HY.o],AY HB6.o _ _ _ _ _ _ _ _⟩
 subst hb;have C:=HPT.o rfl;subst C;have HE7:H (wr.setCell ⟨q.1.size,7,J⟩ (Z (ae y))=X):=he;clear a0 he;go_upto_region 21 with fail
 rw[HE7.o];clear HE7 q7 qf cy;go_wp2;exact bK (v:=jG (O ⟨n,t,y⟩)) (by simp[results,results42,jG,aY,go_sem,z0,z1,z2,z3,z4,z5,z6,z7,zs]) rfl ⟨by rw[HY.o],AY HB6.o _ _ _ _ _ _ _ _⟩
end
section
open Go.RowKit Go.Maps
theorem vN(c:UInt8):∀{l:List UInt8}{x:List UInt8},x∈et c l->x.length<=l.length
 |[],x,h=>by simp[et]at h;rw[h];exact aa _
 |y::r,x,h=>by
  unfold et at h;split at h
  ·rcases jN.1 h with rfl|h
   ·exact aX _
   have:=vN c h;simp;omega
  obtain⟨z,t,e⟩:=pu c r;rw[e]at h;rcases jN.1 (show x∈([y]++z)::t from h) with rfl|h
  ·have:=vN c (show z∈et c r by rw[e];simp);simp;omega
  have:=vN c (show x∈et c r by rw[e];simp[h]);simp;omega
theorem rT(l:List UInt8)(w:Ω)(j:aT w)(k:l.length<=400):
   Φ prog 42 #[Z (ae l)] w λe m=>e=N (jG (eO l))/\B w.1.size w m:=by
  unfold eO;by_cases h:300<l.length
  ·rw[ak h];exact IB l w h k
  rw[ag h];cases hp:(gW++[32]).isPrefixOf l with
 |true=>rw[ak rfl];exact IC l w om hp
 |false=>
   rw[ag sm];obtain⟨n,f,d⟩:=pu 32 l;have g:n.length<=1000:=(by have:=vN 32 (show n∈et 32 l by rw[d];simp);omega);have i:∀x,x∈f->x.length<=400:=λx i=>(by have:=vN 32 (show x∈et 32 l by rw[d];simp[i]);omega);unfold jf;rw[d];cases hb:eS n with
  |none=>simp only[hb];exact CC l n f w j om hp d g (λa b e=>by rw[hb]at e;cases e)
  |some p=>
    obtain⟨a,b⟩:=p;simp only[hb];by_cases c:f.length=a+b
    ·rw[ak c];exact Ip l n f a b w j om hp d g i hb c rfl
    rw[ag c];exact CC l n f w j om hp d g (λo q e=>by rw[hb]at e;cases e;exact c)
end
section
open Go.RowKit Go.Maps
def nJ:List UInt8:=[48,49,50,51,52,53,54,55,56,57,97,98,99,100,101,102]
def dg(c:UInt8):Int:=Lib.indexByte nJ c
theorem FR(c:UInt8):∀l:List UInt8,-1<=Lib.indexByte l c/\Lib.indexByte l c<l.length
 |[]=>by simp[Lib.indexByte]
 |b::l=>by
  have:=FR c l;unfold Lib.indexByte;split
  ·simp
  split
  ·simp;omega
  rename_i h;simp at h⊢;omega
theorem vV(c:UInt8): -1<=dg c/\dg c<=15:=by have:=FR c nJ;have e:nJ.length=16:=rfl;unfold dg;omega
def js(l:List UInt8):Prop:=l.length%2=0/\∀i,i<l.length->dg (l.getD i 0)≠-1
def mQ(l:List UInt8)(i:Nat):Int:=16*dg (l.getD (2*i) 0)+dg (l.getD (2*i+1) 0)
def fS(l:List UInt8):List UInt8:=(List.range (l.length/2)).map (λi=>UInt8.ofNat (mQ l i).toNat)
theorem IZ(l:List UInt8)(w:Ω)(b:l.length<=400)(h:¬l.length%2=0):
  Φ prog 102 #[Z (ae l)] w λe a=>e=N (Ψ #[Z ⟨#[]⟩,.bool false])/\B w.1.size w a:=by
 have d:=aV l;have c:((l.length:Int)%2 != 0)=true:=by simp;omega
 go_enter func102,ntmps102;go_wp2;go_ret2;exact⟨rfl,aj _ _⟩
theorem B6(l:List UInt8)(w:Ω)(hl:l.length<=400)(h:l.length%2=0):
  Φ prog 102 #[Z (ae l)] w λe g=>((js l/\e=N (Ψ #[Z (ae (fS l)),.bool true]))\/(¬js l/\e=N (Ψ #[Z ⟨#[]⟩,.bool false])))/\B w.1.size w g:=by
 have hz:=aV l;have h1:((l.length:Int)%2 != 0)=false:=by simp;omega
 obtain⟨m,hm⟩:∃m,l.length=2*m:=⟨l.length/2,om⟩;have hq':(l.length:Int)/2=(m:Int):=by rw[hm];omega
 have hmk:∀V:Ω,(Instr.makeSlice 117 (I Q (m:Int)) (I Q (m:Int))).run prog V=.ok (M (O ⟨V.1.size,0,J⟩) m m) (V.alloc (Δ (madeCells #[I .u8 0] m) 5)):=λV=>by obtain⟨i0,q,W,L,E⟩:=eb (show (prog.info? 5).map (λi=>(i.zero,i.size,i.bytes))=O (O (I .u8 0),1,1) by kernel_rfl);have:=run_make V 117 5 i0 (I .u8 0) underlying117 q W Q Q (m:Int) (m:Int) om om (by rw[E];omega) om;rw[L,show (I .u8 0).cells=#[I .u8 0] from rfl]at this;simpa using this
 have y:=hid hm;have a1:H ((w.alloc (Δ (madeCells #[I .u8 0] m) 5)).rowIs w.1.size 5 m (λ_=>I .u8 0)):=World.rowIs_made w _ m 5;have v:B w.1.size w (w.alloc (Δ (madeCells #[I .u8 0] m) 5)):=ba;have G:=hid v;go_enter func102,ntmps102;go_wp2;go_loopw [2,3,5,6,7,18] (λa b _ _ _ i V=>∃k:Nat,k<=m/\i=I Q (k:Int)/\a=Z ⟨#[]⟩/\b=.bool false/\(∀j,j<2*k->dg (l.getD j 0)≠-1)/\V.rowIs w.1.size 5 m (λi=>if i<k then I .u8 (mQ l i) else I .u8 0)/\B w.1.size w V) (λ_ _ _ _ _ i _=>m-(intOf i).toNat)
 case atStart=>exact⟨0,aX _,rfl,rfl,rfl,λj h=>by omega,a1.o,G.o⟩
 case round=>
  obtain⟨k,hk,rfl,rfl,rfl,X,x,C⟩:=hrel;have t:=hid X;have n:=hid x;have p:=hid C;by_cases S:k<m
  ·have D:(k:Int)<(m:Int):=om;have HI:H (∀(V:Ω)(c:UInt8),Φ prog 138 #[Z ⟨#[48,49,50,51,52,53,54,55,56,57,97,98,99,100,101,102]⟩,I .u8 (c.toNat:Int)] V λe g=>e=N (I Q (dg c))/\g=V):=λV c=>(by have:=strings_IndexByte ⟨#[48,49,50,51,52,53,54,55,56,57,97,98,99,100,101,102]⟩ (c.toNat:Int) V;rw[ir,show c.toNat.toUInt8=c from UInt8.ofNat_toNat]at this;exact this);have hi1:2*k<(ae l).size:=om;have hi2:2*k+1<(ae l).size:=om;obtain⟨A,F⟩:∃A,dg (ae l)[2*k]=A:=⟨_,rfl⟩;obtain⟨d,K⟩:∃d,dg (ae l)[2*k+1]=d:=⟨_,rfl⟩;have eA:dg (l.getD (2*k) 0)=A:=(by rw[<-F,en,bc om];rfl);have eB:dg (l.getD (2*k+1) 0)=d:=(by rw[<-K,en,bc om];rfl);have r:=hid eA;have s:=hid eB;have lA:-1<=A/\A<=15:=(by rw[<-F];exact vV _);have lB:-1<=d/\d<=15:=(by rw[<-K];exact vV _);have a0:H (∀V:Ω,Φ prog 138 #[Z ⟨#[48,49,50,51,52,53,54,55,56,57,97,98,99,100,101,102]⟩,I .u8 ((ae l)[2*k].toNat:Int)] V λe g=>e=N (I Q A)/\g=V):=λV=>(by rw[<-F];exact HI.o V _);have T:H (∀V:Ω,Φ prog 138 #[Z ⟨#[48,49,50,51,52,53,54,55,56,57,97,98,99,100,101,102]⟩,I .u8 ((ae l)[2*k+1].toNat:Int)] V λe g=>e=N (I Q d)/\g=V):=λV=>(by rw[<-K];exact HI.o V _);go_wp2_with fail;refine(a0.o _).m ?_;rintro e g ⟨rfl,rfl⟩;go_wp2_with fail;refine(T.o _).m ?_;rintro e g ⟨rfl,rfl⟩;by_cases f:A<0\/d<0
   ·have u:H (¬js l):=λh=>by
     rcases f with hb|hb
     ·exact h.2 (2*k) (by have:=y.o;omega) (by rw[r.o];omega)
     exact h.2 (2*k+1) (by have:=y.o;omega) (by rw[s.o];omega)
    rcases(show A<0\/(¬A<0/\d<0) by omega) with hb|⟨hb,hb'⟩
    ·go_wp2;go_ret2;exact⟨ah ⟨u.o,rfl⟩,p.o⟩
    go_wp2;go_ret2;exact⟨ah ⟨u.o,rfl⟩,p.o⟩
   have hA0:¬A<0:=λh=>f (af h);have v:¬d<0:=λh=>f (ah h);obtain⟨ov,cov,fov⟩:∃ov,g.cell? ⟨w.1.size,k,J⟩=O ov/\g.frozen? ⟨w.1.size,k,J⟩=false:=⟨_,n.o.cell S,n.o.frozen k⟩;have R:H (bits BinOp.or IntKind.i64 (A*16) d%256=16*A+d):=(by have a2:∀a:Fin 16,∀b:Fin 16,bits BinOp.or IntKind.i64 (((a.val:Nat):Int)*16) ((b.val:Nat):Int)%256=16*((a.val:Nat):Int)+((b.val:Nat):Int):=(by decide +kernel);have:=a2 ⟨A.toNat,om⟩ ⟨d.toNat,om⟩;simp only at this;rw[Int.toNat_of_nonneg om,Int.toNat_of_nonneg om]at this;exact this);go_wp2;go_roundw
   case rel=>
    rw[R.o];refine⟨k+1,om,by go_num,rfl,rfl,λj hj=>?_,?_,p.o.c nl _⟩
    ·rcases(show j<2*k\/j=2*k\/j=2*k+1 by omega) with h|rfl|rfl
     ·exact t.o j h
     ·rw[r.o];omega
     rw[s.o];omega
    refine(n.o.set k (I .u8 (16*A+d))).congr λi q=>?_;by_cases e:i=k
    ·subst e;rw[ak rfl,ak om];unfold mQ;rw[r.o,s.o]
    rw[ag e];by_cases e2:i<k
    ·rw[ak e2,ak om]
    rw[ag e2,ag om]
   simp[intOf];omega
  ·have D:¬(k:Int)<(m:Int):=om;have z:k=m:=om;subst z;have HY:H (js l):=⟨h,λi q=>t.o i (by have:=y.o;omega)⟩
   have U:=run_convert_bytes_arg (P:=prog) wr 117 5 underlying117 underlying5 w.1.size 0 k k ((List.range k).map (mQ l)) sm (λi q=>by
    have:=n.o.cell q;rw[ak q]at this;rw[dj,en,eE,rR q];exact this) 9 underlying9
   have HS:H (strOfNums ((List.range k).map (mQ l))=ae (fS l)):=(by show _=_;unfold strOfNums fS ae;rw[y.o,show 2*k/2=k by omega];simp);rw[HS.o]at U;go_wp2;go_ret2;exact⟨af ⟨HY.o,rfl⟩,p.o⟩
end
section
open Go.RowKit
def kC(k n:Nat):List UInt8->Option Nat
 |[]=>O n
 |c::r=>if 48<=c.toNat/\c.toNat<=57/\k<=8 then kC (k+1) (10*n+(c.toNat-48)) r else J
theorem Dj:∀(l:List UInt8)(k n:Nat),uI l->k+l.length<=9->kC k n l=O (nH n l)
 |[],_,_,_,_=>rfl
 |c::r,k,n,hd,hl=>by have a:=hd c sm;simp only[eF]at hl;rw[kC,ak ⟨a.1,a.2,om⟩,Dj r (k+1) _ (λx b=>hd x (by simp[b])) om];unfold nH;rw[ka,Nat.mul_comm 10 n]
theorem E8:∀(l:List UInt8)(k n m:Nat),k<=9->n<10^k->kC k n l=O m->m<1000000000
 |[],k,n,m,hk,hn,h=>by simp[kC]at h;subst h;exact bg hn (jI (n:=10) om hk)
 |c::r,k,n,m,hk,hn,h=>by
  rw[kC]at h;split at h
  case isTrue hc=>exact E8 r (k+1) _ m om (by rw[Nat.pow_succ];omega) h
  cases h
def jw(s:ByteArray):Value:=match kC 0 0 s.1.toList with
 |some n=>Ψ #[I Q n,.bool (!s.toList.isEmpty)]
 |none=>Ψ #[I Q 0,.bool false]
theorem pS(s:ByteArray)(w:Ω)(A:s.size<=300):
  Φ prog 24 #[Z s] w λe y=>e=N (jw s)/\y=w:=by
 obtain⟨R,u⟩:∃R,R=kC 0 0 s.1.toList:=⟨_,rfl⟩;have h:H (R=kC 0 0 s.1.toList):=u;clear u;go_enter func24,ntmps24;go_wp2;go_loop [4,5] (λa i=>∃(k n:Nat),k<=s.size/\k<=9/\n<10^k/\i=I Q k/\a=I Q n/\kC k n (s.1.toList.drop k)=R) (λ_ i=>s.size-(intOf i).toNat)
 case atStart=>exact⟨0,0,om,om,dc,rfl,rfl,by rw[List.drop_zero];exact h.o.symm⟩
 obtain⟨k,n,G,j,q,rfl,rfl,d⟩:=hrel;have t:H (kC k n (s.1.toList.drop k)=R):=d;have z:H (n<10^k):=q;have v:n<1000000000:=bg q (jI (n:=10) om j);clear d q;by_cases m:k<s.size
 case neg=>obtain rfl:k=s.size:=om;go_wp2;go_ret2;have b:=t.o;rw[D5,kC,h.o]at b;refine⟨?_,rfl⟩;unfold jw;rw[<-b];rfl
 have x:(k:Int)<s.size:=om;have C:=s[k].toNat_lt;have b:=t.o;rw[AB s k m,kC]at b;have c:H ((if 48<=s[k].toNat/\s[k].toNat<=57/\k<=8 then kC (k+1) (10*n+(s[k].toNat-48)) (s.1.toList.drop (k+1)) else J)=R):=b;clear b;by_cases F:s[k].toNat<48
 ·have f:(s[k].toNat:Int)<48:=om;have r:decide ((s[k].toNat:Int)<48)=true:=(by simpa using f);go_wp2;go_ret2;have b:=c.o;rw[ag om,h.o]at b;refine⟨?_,rfl⟩;unfold jw;rw[<-b];rfl
 have f:¬(s[k].toNat:Int)<48:=om;have r:decide ((s[k].toNat:Int)<48)=false:=(by simpa using f);by_cases D:57<s[k].toNat
 ·have g:57<(s[k].toNat:Int):=om;have l:decide (57<(s[k].toNat:Int))=true:=(by simpa using g);go_wp2;go_ret2;have b:=c.o;rw[ag om,h.o]at b;refine⟨?_,rfl⟩;unfold jw;rw[<-b];rfl
 have g:¬57<(s[k].toNat:Int):=om;have l:decide (57<(s[k].toNat:Int))=false:=(by simpa using g);by_cases E:8<k
 ·go_wp2;go_ret2;have b:=c.o;rw[ag om,h.o]at b;refine⟨?_,rfl⟩;unfold jw;rw[<-b];rfl
 have p:H (10*n+(s[k].toNat-48)<10^(k+1)):=(by show 10*n+(s[k].toNat-48)<10^(k+1);have:=z.o;rw[Nat.pow_succ];omega);go_wp2;go_round
 case rel=>refine⟨k+1,10*n+(s[k].toNat-48),om,om,p.o,by go_num,by go_num,?_⟩;have b:=c.o;rw[ak om]at b;exact b
 simp[intOf];omega
theorem Ra{l:List UInt8}(h:l≠[]):(⟨l.toArray⟩:ByteArray).toList.isEmpty=false:=by
 have e:(⟨l.toArray⟩:ByteArray).toList=l:=by simp[cY]
 rw[e];cases l with
 |nil=>exact absurd rfl h
 |cons=>rfl
theorem tQ{l:List UInt8}{n:Nat}(b:uI l)(a:l≠[])(c:nH 0 l=n)(d:l.length<=9):jw ⟨l.toArray⟩=Ψ #[I Q n,.bool true]:=by
 have e:kC 0 0 (⟨l.toArray⟩:ByteArray).1.toList=O n:=by show kC 0 0 l.toArray.toList=_;rw[List.toList_toArray,Dj l 0 0 b om,c]
 unfold jw;rw[e];show Ψ #[I Q n,.bool (!(⟨l.toArray⟩:ByteArray).toList.isEmpty)]=_;rw[Ra a];rfl
theorem zW(s:ByteArray):∃(n:Nat) (b:Bool),n<1000000000/\jw s=Ψ #[I Q n,.bool b]:=by
 unfold jw;cases h:kC 0 0 s.1.toList with
 |none=>exact⟨0,false,dc,rfl⟩
 |some n=>exact⟨n,_,E8 _ 0 0 n om dc h,rfl⟩
end
end Go.Proofs.YtlaodjjfmhipnaaGreatDoor
