/-
  Part of it.
-/
import Derived.Test.YtlaodjjfmhipnaaGreatDoorSaa
import Derived.Test.YtlaodjjfmhipnaaGreatDoorSai
import Derived.Test.YtlaodjjfmhipnaaGreatDoorSah
set_option maxRecDepth 100000
set_option maxHeartbeats 8000000
set_option linter.all false
namespace Go.Proofs.YtlaodjjfmhipnaaGreatDoor
open Go.Proofs.Tryz
open Value renaming int→I,string→Z,pointer→Y,slice→M,tuple→Ψ
open Ending renaming returned→N
open Obj renaming cells→Δ
open Go renaming World→Ω,Calls→Φ
open IntKind renaming i64→Q
open Option renaming some→O,none→J
open RowKit renaming Below→B,Hid→H
section
open Go.RowKit
theorem yF(w:Ω): Φ prog 23 #[] w λe a=>e=N (.agg #[Z ⟨#[97,110,121]⟩,Z ⟨#[105,116,101,109]⟩,Z ⟨#[99,97,115,101]⟩,Z ⟨#[112,97,108,108,101,116]⟩])/\B w.1.size w a:=by go_enter func23,ntmps23;go_wp2;refine bK (v:=.agg #[Z ⟨#[97,110,121]⟩,Z ⟨#[105,116,101,109]⟩,Z ⟨#[99,97,115,101]⟩,Z ⟨#[112,97,108,108,101,116]⟩]) (by simp[results,results23,go_sem]) rfl ⟨rfl,?_⟩;exact ba
theorem ES{a b:ByteArray}:a=b↔a.1.toList=b.1.toList:=⟨λh=>by rw[h],λh=>ke (nU.1 h)⟩
theorem BA(k:Nat)(a:k<4)(w:Ω):(Instr.index 81 (.agg #[Z ⟨#[97,110,121]⟩,Z ⟨#[105,116,101,109]⟩,Z ⟨#[99,97,115,101]⟩,Z ⟨#[112,97,108,108,101,116]⟩]) (I Q (k:Int))).run prog w=.ok (Z (cR k)) w:=by
 match k,a with
 |0,_=>exact Hb _ _ _ _ w
 |1,_=>exact Hc _ _ _ _ w
 |2,_=>exact Hd _ _ _ _ w
 |3,_=>exact He _ _ _ _ w
theorem Bz(n:Int)(w:Ω)(b:0<=n)(c:n<1000):
  Φ prog 22 #[I Q n] w λe a=>e=N (Z (ae (bF n.toNat)))/\B w.1.size w a:=by
 obtain⟨k,rfl⟩:∃k:Nat,n=k:=⟨n.toNat,om⟩;exact jM k w om
theorem Hh(n:Nat)(w:Ω)(b:n<1000):
  Φ prog 22 #[I Q (n:Int)] w λe a=>e=N (Z (ae (bF n)))/\B w.1.size w a:=jM n w om
section
variable (w:Ω)
theorem MI(nm:ByteArray)(k f t:Nat)(b a:Int)(L:(aq.mk nm k f t b a).h):
  Φ prog 26 #[aL (aq.mk nm k f t b a)] w λe w'=>e=N (Z (gV (aq.mk nm k f t b a)))/\B w.1.size w w':=by
 obtain⟨h1,⟨h2,T,h4,h5,h6⟩,h7⟩:=L;simp only at h2 T h4 h5 h6;have hnl:nm.size<=12:=by have:=h1.2.1;simpa [aq.l] using this
 have D:k<4:=om;have U:(k:Int)<4:=om;have hk0:(0:Int)<=(k:Int):=om;have ik:=BA k D;have lf:(ae (bF f)).size<=2:=by rw[aV];exact pj om
 have lt:(ae (bF t)).size<=2:=by rw[aV];exact pj om
 have lw:(ae (bF b.toNat)).size<=2:=by rw[aV];exact pj om
 have li:(ae (bF a.toNat)).size<=2:=by rw[aV];exact pj om
 have lk:(cR k).size<=6:=by unfold cR;have:=FQ k;show (iw k).toArray.size<=6;simpa using this
 unfold aL;simp only;go_enter func26,ntmps26;go_upto_region 1 with fail
 have A:B w.1.size w (w.alloc (Δ #[Z nm,I Q k,I Q f,I Q t,I Q b,I Q a] 65)):=ba
 have C:ed (w.alloc (Δ #[Z nm,I Q k,I Q f,I Q t,I Q b,I Q a] 65)) w.1.size (Z nm) (I Q k) (I Q f) (I Q t) (I Q b) (I Q a):=by
  refine⟨?_,?_,?_,?_,?_,?_,?_,?_⟩
  all_goals first|go_simp|(intro i;go_simp)
 generalize w.alloc (Δ #[Z nm,I Q k,I Q f,I Q t,I Q b,I Q a] 65)=W at *;have z:=hid A;have S:=hid C;have k0:=cell_regrown C.m;have k1:=cell_regrown C.j;have k2:=cell_regrown C.k;have k3:=cell_regrown C.l;have n1:¬9223372036854775807<nm.size+2:=om;have n2:¬9223372036854775807<nm.size+2+(cR k).size:=om;have n3:¬9223372036854775807<nm.size+2+(cR k).size+1:=om;have n4:¬9223372036854775807<nm.size+2+(cR k).size+1+(ae (bF f)).size:=om;have n5:¬9223372036854775807<nm.size+2+(cR k).size+1+(ae (bF f)).size+6:=om;have n6:¬9223372036854775807<nm.size+2+(cR k).size+1+(ae (bF f)).size+6+(ae (bF t)).size:=om;refine wp_region_quiet_below kr kr ?_
 repeat (go_big_quiet_step (first|with_reducible exact Calls.regrown_of (yF _)|with_reducible exact Calls.regrown_of (Hh f _ om)|with_reducible exact Calls.regrown_of (Hh t _ om)))
 refine gq ?_;intro _ G;obtain⟨⟨R,x⟩,s⟩:=G;subst s;have r:=hid (below_regrown W R x);have n:=hid (S.o.p (r.o.block _ S.o.o) r.o.size);have c:=hid (z.o.t (r.o.m z.o.size));have a0:(nm++⟨#[58,32]⟩++cR k++⟨#[32]⟩++ae (bF f)++⟨#[32,116,104,101,110,32]⟩++ae (bF t):ByteArray).size<=31:=by simp only[qW];show nm.size+2+(cR k).size+1+(ae (bF f)).size+6+(ae (bF t)).size<=31;omega
 have y:H ((nm++⟨#[58,32]⟩++cR k++⟨#[32]⟩++ae (bF f)++⟨#[32,116,104,101,110,32]⟩++ae (bF t):ByteArray).1.toList=nm.1.toList++([58,32]++(iw k++([32]++(bF f++([32,116,104,101,110,32]++bF t)))))):=by show (nm++⟨#[58,32]⟩++cR k++⟨#[32]⟩++ae (bF f)++⟨#[32,116,104,101,110,32]⟩++ae (bF t):ByteArray).1.toList=_;simp[ByteArray.data_append,cR,ae]
 generalize nm++⟨#[58,32]⟩++cR k++⟨#[32]⟩++ae (bF f)++⟨#[32,116,104,101,110,32]⟩++ae (bF t)=X at *;generalize Sort.grow (redrawn W R) x=V at *;have c4:=n.o.g;have c5:=n.o.h;by_cases v:b=-1
 case pos=>
  subst v;have K:H (gV (aq.mk nm k f t (-1) a)=X++⟨#[32,119,105,116,104,105,110,32]⟩++ae (bF a.toNat)):=by show gV (aq.mk nm k f t (-1) a)=_;rw[ES,tK,vo];simp only[ByteArray.data_append,Array.toList_append,y.o,sK,rA,iP,mK,rz,ae];simp
  have m1:¬9223372036854775807<X.size+8:=om;have m2:¬9223372036854775807<X.size+8+(ae (bF a.toNat)).size:=om;go_wp2_with fail;refine(Bz a _ om om).m ?_;rintro e V2 ⟨rfl,q⟩;have d:=hid (c.o.t (q.m c.o.size));go_wp2;go_ret;refine⟨?_,d.o⟩;rw[K.o];rfl
 have u:(0:Int)<=b:=om;have P:decide ((0:Int)<=b)=true:=by simpa using u
 have K:H (gV (aq.mk nm k f t b a)=X++⟨#[32,119,105,116,104,111,117,116,32]⟩++ae (bF b.toNat)++⟨#[32,119,105,116,104,105,110,32]⟩++ae (bF a.toNat)):=by show gV (aq.mk nm k f t b a)=_;rw[ES,tK,vo];simp only[ByteArray.data_append,Array.toList_append,y.o,sK,rA,ag v,mK,kj,rz,ae];simp
 have m1:¬9223372036854775807<X.size+9:=om;have m2:¬9223372036854775807<X.size+9+(ae (bF b.toNat)).size:=om;have m3:¬9223372036854775807<X.size+9+(ae (bF b.toNat)).size+8:=om;have m4:¬9223372036854775807<X.size+9+(ae (bF b.toNat)).size+8+(ae (bF a.toNat)).size:=om;go_wp2_with fail;refine(Bz b _ om om).m ?_;rintro e V2 ⟨rfl,q⟩;have d:=hid (c.o.t (q.m c.o.size));have F:=hid (n.o.p (q.block _ n.o.o) q.size);have d5:=F.o.h;go_wp2_with fail;refine(Bz a _ om om).m ?_;rintro e V3 ⟨rfl,q⟩;have E:=hid (d.o.t (q.m d.o.size));go_wp2;go_ret;refine⟨?_,E.o⟩;rw[K.o];rfl
theorem DU(r:aq)(c:r.h):
  Φ prog 26 #[aL r] w λe d=>e=N (Z (gV r))/\B w.1.size w d:=by
 have h:=c.2.1;obtain⟨j,K,F,T,a,b⟩:=r;obtain⟨⟨l,n⟩,⟨i,o⟩,⟨g,m⟩,_⟩:=h;simp only at l i g;obtain⟨k,rfl⟩:∃k:Nat,K=k:=⟨K.toNat,om⟩;obtain⟨f,rfl⟩:∃k:Nat,F=k:=⟨F.toNat,om⟩;obtain⟨t,rfl⟩:∃k:Nat,T=k:=⟨T.toNat,om⟩;exact MI w j k f t a b c
end
end
section
open Go.RowKit
theorem zO:∀(p:List UInt8) (c:UInt8) (acc:List (List UInt8)) (cur r:List UInt8),c∉p->cK c acc cur (p++r)=cK c acc (cur++p) r
 |[],c,acc,cur,r,_=>by rw[j9,List.append_nil]
 |a::p,c,acc,cur,r,h=>by rw[jN,not_or]at h;rw[ni,cK,ag (λe=>h.1 e.symm),zO p c acc _ r h.2,lY,List.singleton_append]
theorem EU(p:List UInt8)(c:UInt8)(a:List (List UInt8))(h:c∉p):cK c a [] p=a++[p]:=by have:=zO p c a [] [] h;rw[List.append_nil,j9]at this;rw[this];rfl
theorem ql(p r:List UInt8)(c:UInt8)(a:List (List UInt8))(h:c∉p):cK c a [] (p++c::r)=cK c (a++[p]) [] r:=by rw[zO p c a [] _ h,cK,ak rfl,j9]
theorem Aw:∀(l:List UInt8) (c:UInt8) (acc:List (List UInt8)) (cur x:List UInt8),x∈cK c acc cur l->x∈acc\/x.length<=cur.length+l.length
 |[],c,acc,cur,x,h=>by
  rw[cK,dP,pP]at h;rcases h with h|rfl
  ·exact af h
  exact ah sm
 |a::r,c,acc,cur,x,h=>by
  rw[cK]at h;split at h
  ·rcases Aw r c _ _ x h with h|h
   ·rw[dP,pP]at h;rcases h with h|rfl
    ·exact af h
    exact ah om
   exact ah (by simp only[mH,eF]at *;omega)
  rcases Aw r c _ _ x h with h|h
  ·exact af h
  exact ah (by simp only[bU,mH,eF]at *;omega)
theorem AR:∀(l:List UInt8) (c:UInt8) (acc:List (List UInt8)) (cur:List UInt8),1<=(cK c acc cur l).length/\(cK c acc cur l).length<=acc.length+l.length+1
 |[],c,acc,cur=>by rw[cK];simp
 |a::r,c,acc,cur=>by
  rw[cK];split
  ·have:=AR r c (acc++[cur]) [];simp only[bU,eF,mH]at *;omega
  have:=AR r c acc (cur++[a]);simp only[eF]at *;omega
def mY(s:ByteArray):List (List UInt8):=cK 32 [] [] s.1.toList
theorem EV{s:ByteArray}{x:List UInt8}(h:x∈mY s):x.length<=s.size:=by
 rcases Aw _ _ _ _ _ h with h|h
 ·cases h
 simpa using h
theorem Ax{s:ByteArray}{r:aq}(h:bT s r):mY s=oo r:=by
 obtain⟨⟨p,⟨A,v,z,x,w⟩,y⟩,rfl⟩:=h;have q:=Cz (l:=r.a.1.toList) p;have o:=DY r.e.toNat;have k:=qZ (og r.c.toNat);have t:(32:UInt8)∉rz:=by decide
 have u:=qZ (og r.g.toNat);have j:(32:UInt8)∉mK:=by decide
 have n:(32:UInt8)∉kj:=by decide
 have m:=qZ (og r.b.toNat);have i:=qZ (og r.d.toNat);unfold mY;rw[tK,vo,ql _ _ _ _ q,ql _ _ _ _ o,ql _ _ _ _ k,ql _ _ _ _ t,ql _ _ _ _ u];unfold sK rA oo ry qE;by_cases f:r.b=-1
 ·rw[ak f,ak f,ql _ _ _ _ j,EU _ _ _ i];rfl
 rw[ag f,ag f,ql _ _ _ _ n,ql _ _ _ _ m,ql _ _ _ _ j,EU _ _ _ i];rfl
def ia(x:List UInt8):Nat->Int
 |0=>-1
 |k+1=>if iw k=x then (k:Int) else ia x k
theorem Gq{k:Int}(a:0<=k)(h:k<=3):ia (iw k.toNat) 4=k:=by have:k=0\/k=1\/k=2\/k=3:=om;rcases this with rfl|rfl|rfl|rfl<;>decide
theorem QQ{n:Int}(b:0<=n)(h:n<1000):jw (ae (bF n.toNat))=Ψ #[I Q n,.bool true]:=by
 have a:(bF n.toNat).length<=9:=by
  by_cases c:n<100
  ·have:=pj (n:=n.toNat) om;omega
  unfold bF;rw[Lib.decDigits,dif_neg om];have:=pj (n:=n.toNat/10) om;unfold bF at this;simp only[bU,eF,mH];omega
 have:=tQ (og n.toNat) (FO n.toNat) (xD n.toNat) a;rw[show ((n.toNat:Nat):Int)=n by omega]at this;exact this
structure lv (x:List UInt8) (a:Int) (b:Bool):Prop where
 c:jw (ae x)=Ψ #[I Q a,.bool b]
theorem sI(x:List UInt8):∃a b,lv x a b:=by obtain⟨n,b,_,h⟩:=zW (ae x);exact⟨_,_,⟨h⟩⟩
theorem sF{n:Int}{a:Int}{b:Bool}(h:lv (bF n.toNat) a b)(e:0<=n)(f:n<1000):a=n/\b=true:=by have d:=h.c;rw[QQ e f]at d;simp at d;exact⟨d.1.symm,d.2⟩
def yl(x0 x1:List UInt8)(a b c:Int):aq:=⟨ae (x0.take (x0.length-1)),ia x1 4,a,b,-1,c⟩
def ym(x0 x1:List UInt8)(a b c d:Int):aq:=⟨ae (x0.take (x0.length-1)),ia x1 4,a,b,d,c⟩
theorem TY{r:aq}:(oo r).length=7\/(oo r).length=9:=by
 unfold oo ry qE;split
 ·exact af rfl
 exact ah rfl
theorem DV(nm:ByteArray):ae ((nm.1.toList++[58]).take ((nm.1.toList++[58]).length-1))=nm:=by rw[bU,List.length_singleton,Nat.add_sub_cancel,List.take_left,xE]
theorem Tf{s:ByteArray}{r:aq}(h:bT s r){j x1 x2 x3 l q m:List UInt8}(p:mY s=[j,x1,x2,x3,l,q,m]):
  r.b=-1/\j≠[]/\(∀a o,lv x2 a o->a=r.c/\o=true)/\(∀a o,lv l a o->a=r.g/\o=true)/\(∀a o,lv m a o->a=r.d/\o=true)/\yl j x1 r.c r.g r.d=r:=by
 have f:=Ax h;rw[p]at f;obtain⟨x,⟨k,n,t,v,u⟩,w⟩:=h.1;unfold oo ry qE at f;by_cases e:r.b=-1
 ·rw[ak e]at f;simp only[List.cons.injEq,and_true]at f;obtain⟨rfl,rfl,rfl,rfl,rfl,rfl,rfl⟩:=f;refine⟨e,by simp,λa o i=>sF i n.1 om,λa o i=>sF i t.1 om,λa o i=>sF i om om,?_⟩;unfold yl;rw[DV,Gq k.1 k.2,<-e]
 rw[ag e]at f;simp at f
theorem TZ{s:ByteArray}{r:aq}(h:bT s r){j x1 x2 x3 n q l u k:List UInt8}(v:mY s=[j,x1,x2,x3,n,q,l,u,k]):
  j≠[]/\(∀a o,lv x2 a o->a=r.c/\o=true)/\(∀a o,lv n a o->a=r.g/\o=true)/\(∀a o,lv k a o->a=r.d/\o=true)/\(∀a o,lv l a o->a=r.b/\o=true)/\ym j x1 r.c r.g r.d r.b=r:=by
 have e:=Ax h;rw[v]at e;obtain⟨z,⟨m,p,t,x,w⟩,y⟩:=h.1;unfold oo ry qE at e;by_cases i:r.b=-1
 ·rw[ak i]at e;simp at e
 rw[ag i]at e;simp only[List.cons.injEq,and_true]at e;obtain⟨rfl,rfl,rfl,rfl,rfl,rfl,rfl,rfl,rfl⟩:=e;refine⟨by simp,λa o f=>sF f p.1 om,λa o f=>sF f t.1 om,λa o f=>sF f om om,λa o f=>sF f om om,?_⟩;unfold ym;rw[DV,Gq m.1 m.2]
end
section
open Go.RowKit
structure yi (s:ByteArray) (w:Ω) (e:Ending) (w':Ω):Prop where
 b:(∃r,bT s r/\e=N (Ψ #[aL r,.bool true]))\/((¬∃r,bT s r)/\e=N (Ψ #[aL eK,.bool false]))
 a:B w.1.size w w'
structure yn (V:Ω) (B g:Nat) (L:List (List UInt8)):Prop where
 a:∀i x,L[i]?=O x->V.cell? ⟨g,i,J⟩=O (Z (ae x))
 c:B<=g
 b:g<V.1.size
theorem yn.d{V V':Ω}{e g:Nat}{L:List (List UInt8)}(h:yn V e g L)(k:V'.1[g]?=V.1[g]?)(f:V.1.size<=V'.1.size):yn V' e g L:=
 ⟨λi x j=>by rw[bW k];exact h.a i x j,h.c,bg h.b f⟩
theorem zP{V:Ω}{b:Nat}{v:Value}{L:List (List UInt8)}(h:qm V b v L)(e:1<=L.length):∃g c,v=M (O ⟨g,0,J⟩) L.length c/\yn V b g L/\L.length<=c:=by
 obtain⟨g,c,rfl,k,f⟩:=h.a.form e;refine⟨g,c,rfl,⟨λi x d=>?_,?_,?_⟩,?_⟩
 ·have j:i<L.length:=(gD.1 d).1;rw[h.a.cellAt i om];unfold sL;rw[eE,d];rfl
 ·exact(h.a.lt g rfl).1
 ·exact(h.a.lt g rfl).2
 rcases h.a.2 with ⟨h1,_⟩|⟨g',cap',cur,h1,_,_,h4,_⟩
 ·cases h1
 cases h1;exact h4
theorem Ay(w:Ω):ed (w.alloc (Δ #[Z ⟨#[]⟩,I Q 0,I Q 0,I Q 0,I Q 0,I Q 0] 65)) w.1.size (Z ⟨#[]⟩) (I Q 0) (I Q 0) (I Q 0) (I Q 0) (I Q 0):=by
 refine⟨?_,?_,?_,?_,?_,?_,?_,?_⟩
 all_goals first|go_simp|(intro i;go_simp)
section
variable (s:ByteArray)(w:Ω)
theorem QR(C:s.size<=300)(u:(mY s).length≠7)(i:(mY s).length≠9):
  Φ prog 13 #[Z s] w λe G=>yi s w e G:=by
 have y:H (¬∃r,bT s r):=λ⟨r,V⟩=>by
  rw[Ax V]at u i;rcases TY (r:=r) with h|h
  ·exact u h
  exact i h
 have d:=AR s.1.toList 32 [] [];go_enter func13,ntmps13;go_wp2_with fail;refine(tL s 32 _ C).m ?_;rintro e A ⟨v,rfl,z,q⟩;obtain⟨g,E,rfl,D,f⟩:=zP z d.1;have x:H (B w.1.size w A):=((aj _ w).l nl _).t (q.m sm);have b:H (ed A w.1.size (Z ⟨#[]⟩) (I Q 0) (I Q 0) (I Q 0) (I Q 0) (I Q 0)):=(Ay w).p (q.block _ sm) q.size;have T:(cK 32 [] [] s.1.toList).length≠7:=u;have R:(cK 32 [] [] s.1.toList).length≠9:=i;clear z q D u i d f;generalize (cK 32 [] [] s.1.toList).length=a at *;have X:((a:Int) != 7)=true:=by simp;omega
 have W:((a:Int) != 9)=true:=by simp;omega
 have S:=b.o.m;have U:=b.o.j;have P:=b.o.k;have K:=b.o.l;have L:=b.o.g;have F:=b.o.h;have pf:=b.o.n;go_wp2;refine bK (v:=Ψ #[aL eK,.bool false]) (by simp[results,results13,go_sem,aL,eK,S,U,P,K,L,F]) rfl ⟨ah ⟨y.o,rfl⟩,?_⟩;exact(((((x.o.c nl _).c nl _).c nl _).c nl _).c nl _).c nl _
end
end
section
open Go.RowKit
structure oO (w V:Ω) (g:Nat) (L:List (List UInt8)):Prop where
 b:B w.1.size w V
 c:yn V (w.1.size+1) g L
 a:ed V w.1.size (Z ⟨#[]⟩) (I Q 0) (I Q 0) (I Q 0) (I Q 0) (I Q 0)
theorem oO.f{w V V':Ω}{g:Nat}{L:List (List UInt8)}(h:oO w V g L)(e:B V.1.size V V'):oO w V' g L:=
 ⟨h.b.t (e.m h.b.size),h.c.d (e.block _ h.c.b) e.size,h.a.p (e.block _ h.a.o) e.size⟩
theorem oO.e{w V:Ω}{g:Nat}{L:List (List UInt8)}(h:oO w V g L):oO w V.drew g L:=h.f (aj V.1.size V).drew
theorem oO.d{w V:Ω}{g:Nat}{L:List (List UInt8)}(o:Obj)(h:oO w V g L):oO w (V.alloc o) g L:=h.f ((aj V.1.size V).l nl o)
structure ti (w V:Ω) (g rb:Nat) (L:List (List UInt8)) (a b c d e f:Value):Prop where
 h:oO w V g L
 i:ed V rb a b c d e f
 k:rb≠g
 m:w.1.size+1<=rb
theorem ti.l{w V V':Ω}{g rb:Nat}{L:List (List UInt8)}{a b c d e f:Value}(h:ti w V g rb L a b c d e f)(j:B V.1.size V V'):ti w V' g rb L a b c d e f:=
 ⟨h.h.f j,h.i.p (j.block _ h.i.o) j.size,h.k,h.m⟩
theorem ti.j{w V:Ω}{g rb:Nat}{L:List (List UInt8)}{a b c d e f l p n o r f':Value}(h:ti w V g rb L a b c d e f){i:Nat}{x:Value}
  (s:ed (V.setCell ⟨rb,i,J⟩ x) rb l p n o r f'):ti w (V.setCell ⟨rb,i,J⟩ x) g rb L l p n o r f':=by
 have u:=h.m;have t:V.1.size<=(V.setCell ⟨rb,i,J⟩ x).1.size:=by simp[World.setCell]
 exact⟨⟨h.h.b.c (by show w.1.size<=rb;omega) _,h.h.c.d (bN V _ _ _ (λe=>h.k e.symm)) t,h.h.a.q _ _ (by show w.1.size≠rb;omega)⟩,s,h.k,h.m⟩
structure Hm (w V:Ω) (v:Value) (g:Nat) (L:List (List UInt8)) (nm:ByteArray):Prop where
 a:∃rb,v=Y (O ⟨rb,0,J⟩)/\ti w V g rb L (Z nm) (I Q (-1)) (I Q 0) (I Q 0) (I Q (-1)) (I Q 0)
theorem FH(V:Ω)(r:aq):ed (V.alloc (Δ #[Z r.a,I Q r.e,I Q r.c,I Q r.g,I Q r.b,I Q r.d] 65)) V.1.size (Z r.a) (I Q r.e) (I Q r.c) (I Q r.g) (I Q r.b) (I Q r.d):=by
 refine⟨?_,?_,?_,?_,?_,?_,?_,?_⟩
 all_goals first|go_simp|(intro i;go_simp)
section
variable (s:ByteArray)(w:Ω)
theorem MJ(hs:s.size<=300)(q x1 x2 x3 G x5 F:List UInt8)(hc:mY s=[q,x1,x2,x3,G,x5,F]):
   Φ prog 13 #[Z s] w λe w'=>yi s w e w':=by
  have hcl:∀x,x∈mY s->x.length<=300:=λx hx=>aP (EV hx) hs;have l0:q.length<=300:=hcl _ (by rw[hc];simp);have HS:H (∀r,bT s r->r.b=-1/\q≠[]/\(∀a o,lv x2 a o->a=r.c/\o=true)/\(∀a o,lv G a o->a=r.g/\o=true)/\(∀a o,lv F a o->a=r.d/\o=true)/\yl q x1 r.c r.g r.d=r):=λr C=>Tf C hc;have HCL:H (∀x,x∈[q,x1,x2,x3,G,x5,F]->(ae x).size<=300):=by show ∀x,x∈[q,x1,x2,x3,G,x5,F]->(ae x).size<=300;intro x hx;rw[aV];rw[<-hc]at hx;exact hcl x hx
  have HC:H (cK 32 [] [] s.1.toList=[q,x1,x2,x3,G,x5,F]):=hc;clear hcl hc;go_enter func13,ntmps13;go_wp2_with fail;refine(tL s 32 _ hs).m ?_;rw[HC.o];rintro e w1 ⟨v,rfl,ht,hb⟩;obtain⟨g,cap,rfl,hw,hcap⟩:=zP ht sm;have HO:H (oO w w1 g [q,x1,x2,x3,G,x5,F]):=⟨((aj _ w).l nl _).t (hb.m sm),⟨hw.a,by have h:=hw.c;simp at h;omega,hw.b⟩,(Ay w).p (hb.block _ sm) hb.size⟩;clear ht hb hw;rw[show ([q,x1,x2,x3,G,x5,F]:List (List UInt8)).length=7 from rfl]at hcap⊢;obtain⟨S,hy0⟩:∃y,y=ae q:=⟨_,rfl⟩;have hy0s:S.size=q.length:=by rw[hy0];exact aV q
  have g0:=HO.o.c.a 0 q rfl;rw[<-hy0]at g0;have HY0:H (S=ae q):=hy0;clear hy0;by_cases he:q.length=0
  case pos=>
   have e0:((S.size:Int) == 0)=true:=by rw[beq_iff_eq];omega
   have z:H (¬∃r,bT s r):=λ⟨r,C⟩=>(HS.o r C).2.1 (iG.1 he);have p0:=HO.o.a.m;have p1:=HO.o.a.j;have U:=HO.o.a.k;have T:=HO.o.a.l;have p4:=HO.o.a.g;have p5:=HO.o.a.h;have pf:=HO.o.a.n;go_wp2;refine bK (v:=Ψ #[aL eK,.bool false]) (by simp[results,results13,go_sem,aL,eK,p0,p1,U,T,p4,p5]) rfl ⟨ah ⟨z.o,rfl⟩,?_⟩;exact(((((HO.o.b.c nl _).c nl _).c nl _).c nl _).c nl _).c nl _
  have e0:((S.size:Int) == 0)=false:=by rw[oV];omega
  have hwr:IntKind.i64.wrap ((S.size:Int)-1)=(S.size:Int)-1:=by simp[IntKind.wrap,IntKind.bits,IntKind.signed];omega
  have e3:(1:Int)<=(S.size:Int):=om;have e2:(S.size:Int)-1<=(S.size:Int):=om;have HYS:H (S.size=q.length):=hy0s;have hyl:S.size<=300:=om;clear hy0s he;go_upto_region 4 with fail
  have hO:=HO.o;go_cut [5] from 33 to 42 (λv V=>Hm w V v g [q,x1,x2,x3,G,x5,F] (ae (q.take (q.length-1))))
  case first=>
   go_region_held3 (λV=>V.cell? ⟨g,0,J⟩=O (Z S)/\oO w V g [q,x1,x2,x3,G,x5,F])
    (first|exact⟨qi ‹_›,oO.e ‹_›⟩|(go_split_ands;exact⟨pY _ ‹_›,oO.d _ ‹_›⟩)|exact⟨qi (pY _ g0),oO.e (oO.d _ hO)⟩|exact⟨allocCell _ g0,OP.alloc _ hO⟩)
    (fail)
   rename_i hH;go_wp2;go_meet;have h1:=hO.c.c;have h2:=hO.c.b;have h3:=hO.a.o;refine⟨w1.1.size,rfl,hH.2,?_,om,om⟩;have hn:S.extract 0 (S.size-1)=ae (q.take (q.length-1)):=(by rw[HYS.o,HY0.o];apply ke;simp[ae,ByteArray.data_extract];exact List.dropLast_eq_take);rw[hn];have h4:ed (w1.alloc (Δ #[Z (ae (q.take (q.length-1))),I Q (-1),I Q 0,I Q 0,I Q (-1),I Q 0] 65)) w1.1.size (Z (ae (q.take (q.length-1)))) (I Q (-1)) (I Q 0) (I Q 0) (I Q (-1)) (I Q 0):=FH w1 ⟨ae (q.take (q.length-1)),-1,0,0,-1,0⟩;exact h4.p rfl nl
  obtain⟨rb,rfl,hos⟩:=hcut.a;have HOS:H _:=hos;have hnl:(ae (q.take (q.length-1))).size<=300:=(by rw[aV,fj];omega);clear hcut hos hO g0 e0 hwr e3 e2 hyl HY0 HYS;obtain⟨D,hnm⟩:∃D,D=ae (q.take (q.length-1)):=⟨_,rfl⟩;have HNM:H (D=ae (q.take (q.length-1))):=hnm;rw[<-hnm]at HOS hnl;clear hnm;obtain⟨y1,hy1⟩:∃y,y=ae x1:=⟨_,rfl⟩;have HY1:H (y1=ae x1):=hy1;clear hy1;go_wp2;go_loopw [6] (λi V=>∃k:Nat,k<=4/\i=I Q k/\ti w V g rb [q,x1,x2,x3,G,x5,F] (Z D) (I Q (ia x1 k)) (I Q 0) (I Q 0) (I Q (-1)) (I Q 0)) (λi _=>4-(intOf i).toNat)
  case atStart=>exact⟨0,aX _,rfl,HOS.o⟩
  obtain⟨k,hk,rfl,hos⟩:=hrel;have f:H _:=hos;clear hos HOS;by_cases hk4:k<4
  case pos=>
   have hkI:(k:Int)<4:=om;have hkN:(0:Int)<=(k:Int):=om;have ik:=BA k hk4;have g1:=f.o.h.c.a 1 x1 rfl;rw[<-HY1.o]at g1;go_upto_region 8 with fail
   have kg1:=cell_regrown g1;refine wp_region_quiet_below kr kr ?_
   repeat (go_big_quiet_step (first|with_reducible exact Calls.regrown_of (yF _)))
   refine gq ?_;intro _ hw';obtain⟨⟨dq,osq⟩,hw''⟩:=hw';subst hw'';have W:H _:=f.o.l (below_regrown wr dq osq);clear kg1 g1 ik f;generalize Sort.grow (redrawn wr dq) osq=V3 at *;have HEQ:H (cR k=y1↔iw k=x1):=⟨λh=>by rw[HY1.o]at h;have h2:=congrArg (λb:ByteArray=>b.1.toList) h;simpa [cR,ae] using h2,λh=>by rw[HY1.o,<-h];rfl⟩;have f1:=W.o.i.n 1;have c1:=W.o.i.j;by_cases hb:cR k=y1
   case pos=>
    have hb':((cR k).toList == y1.toList)=true:=pX hb;have HU:H (ia x1 (k+1)=(k:Int)):=(by show ia x1 (k+1)=(k:Int);rw[ia,ak (HEQ.o.1 hb)]);have HO4:H _:=W.o.j (W.o.i.t (I Q (k:Int)));clear hb HEQ W;rw[hb'];go_wp2;go_roundw
    case rel=>exact⟨k+1,om,by go_num,by rw[HU.o];exact HO4.o⟩
    simp[intOf];omega
   have hb':((cR k).toList == y1.toList)=false:=pU hb;have HU:H (ia x1 (k+1)=ia x1 k):=(by show ia x1 (k+1)=ia x1 k;rw[ia,ag (λh=>hb (HEQ.o.2 h))]);clear hb HEQ f1 c1;rw[hb'];go_wp2;go_roundw
   case rel=>exact⟨k+1,om,by go_num,by rw[HU.o];exact W.o⟩
   simp[intOf];omega
  obtain rfl:k=4:=om;clear hk hk4;generalize hK:ia x1 4=K at *;have HK:H (ia x1 4=K):=hK;clear hK;obtain⟨R,o2,hf2⟩:=sI x2;obtain⟨P,o4,hf4⟩:=sI G;obtain⟨L,o6,hf6⟩:=sI F;have HF2:H (∀V:Ω,Φ prog 24 #[Z (ae x2)] V λe w'=>e=N (Ψ #[I Q R,.bool o2])/\w'=V):=λV=>(by have h:=pS (ae x2) V (HCL.o x2 sm);rw[hf2.c]at h;exact h);have HF4:H (∀V:Ω,Φ prog 24 #[Z (ae G)] V λe w'=>e=N (Ψ #[I Q P,.bool o4])/\w'=V):=λV=>(by have h:=pS (ae G) V (HCL.o G sm);rw[hf4.c]at h;exact h);have HF6:H (∀V:Ω,Φ prog 24 #[Z (ae F)] V λe w'=>e=N (Ψ #[I Q L,.bool o6])/\w'=V):=λV=>(by have h:=pS (ae F) V (HCL.o F sm);rw[hf6.c]at h;exact h);have HR:H (∀r,bT s r->o2=true/\o4=true/\o6=true/\r=⟨D,K,R,P,-1,L⟩):=λr C=>(by obtain⟨h1,h2,h3,h4,h5,h6⟩:=HS.o r C;obtain⟨rfl,b2⟩:=h3 _ _ hf2;obtain⟨rfl,b4⟩:=h4 _ _ hf4;obtain⟨rfl,b6⟩:=h5 _ _ hf6;refine⟨b2,b4,b6,?_⟩;rw[<-h6];unfold yl;rw[<-HNM.o,HK.o]);clear hf2 hf4 hf6 HS;have g2:=f.o.h.c.a 2 x2 rfl;generalize ae x2=y2 at *;have g4:=f.o.h.c.a 4 G rfl;generalize ae G=y4 at *;have g6:=f.o.h.c.a 6 F rfl;generalize ae F=y6 at *;go_wp2_with fail;refine(HF2.o _).m ?_;rintro e V ⟨rfl,hV⟩;subst hV;go_wp2_with fail;refine(HF4.o _).m ?_;rintro e V ⟨rfl,hV⟩;subst hV;go_wp2_with fail;refine(HF6.o _).m ?_;rintro e V ⟨rfl,hV⟩;subst hV;cases o2 with
 |false=>
   have z:H (¬∃r,bT s r):=λ⟨r,C⟩=>Bool.noConfusion (HR.o r C).1;have p0:=f.o.h.a.m;have p1:=f.o.h.a.j;have U:=f.o.h.a.k;have T:=f.o.h.a.l;have p4:=f.o.h.a.g;have p5:=f.o.h.a.h;have pf:=f.o.h.a.n;go_wp2;refine bK (v:=Ψ #[aL eK,.bool false]) (by simp[results,results13,go_sem,aL,eK,p0,p1,U,T,p4,p5]) rfl ⟨ah ⟨z.o,rfl⟩,?_⟩;exact(((((f.o.h.b.c nl _).c nl _).c nl _).c nl _).c nl _).c nl _
 |true=>
   cases o4 with
  |false=>
    have z:H (¬∃r,bT s r):=λ⟨r,C⟩=>Bool.noConfusion (HR.o r C).2.1;have p0:=f.o.h.a.m;have p1:=f.o.h.a.j;have U:=f.o.h.a.k;have T:=f.o.h.a.l;have p4:=f.o.h.a.g;have p5:=f.o.h.a.h;have pf:=f.o.h.a.n;go_wp2;refine bK (v:=Ψ #[aL eK,.bool false]) (by simp[results,results13,go_sem,aL,eK,p0,p1,U,T,p4,p5]) rfl ⟨ah ⟨z.o,rfl⟩,?_⟩;exact(((((f.o.h.b.c nl _).c nl _).c nl _).c nl _).c nl _).c nl _
  |true=>
    cases o6 with
   |false=>
     have z:H (¬∃r,bT s r):=λ⟨r,C⟩=>Bool.noConfusion (HR.o r C).2.2.1;have p0:=f.o.h.a.m;have p1:=f.o.h.a.j;have U:=f.o.h.a.k;have T:=f.o.h.a.l;have p4:=f.o.h.a.g;have p5:=f.o.h.a.h;have pf:=f.o.h.a.n;go_wp2;refine bK (v:=Ψ #[aL eK,.bool false]) (by simp[results,results13,go_sem,aL,eK,p0,p1,U,T,p4,p5]) rfl ⟨ah ⟨z.o,rfl⟩,?_⟩;exact(((((f.o.h.b.c nl _).c nl _).c nl _).c nl _).c nl _).c nl _
   |true=>
     have c0:=f.o.i.m;have c1:=f.o.i.j;have c4:=f.o.i.g;have c2:=f.o.i.k;have c3:=f.o.i.l;have c5:=f.o.i.h;have rf:=f.o.i.n;have HA:H _:=f.o.j (f.o.i.u (I Q R));have HB:H _:=HA.o.j (HA.o.i.v (I Q P));have HD:H _:=HB.o.j (HB.o.i.s (I Q L));clear HA HB;have hne:=f.o.k;have hne2:g≠rb:=λe=>f.o.k e.symm;obtain⟨n,hn⟩:=vL ⟨D,K,R,P,-1,L⟩;have HFN:H (∀V:Ω,Φ prog 25 #[aL ⟨D,K,R,P,-1,L⟩] V λe w'=>e=N (I Q (n:Int))/\B V.1.size V w'):=λV=>wS ⟨D,K,R,P,-1,L⟩ V (by show D.size<=_;omega) hn;have HN:H _:=hn;unfold aL at HFN;simp only at HFN;clear hn HF2 HF4 HF6 g2 g4 g6;go_wp2_with fail;refine(HFN.o _).m ?_;rintro e V5 ⟨rfl,hb5⟩;have E:H _:=HD.o.l hb5;clear hb5 HD c0 c1 c2 c3 c4 c5 rf HFN;by_cases h0:n=0
     case neg=>have i0:decide ((0:Int)<(n:Int))=true:=(by simp;omega);have i1:(0:Int)<(n:Int):=om;have i2:0<n:=om;have z:H (¬∃r,bT s r):=λ⟨r,C⟩=>(by have h:=(HR.o r C).2.2.2;have h2:=C.1;rw[h]at h2;exact h0 ((mO HN.o).2 h2));clear h0;have p0:=E.o.h.a.m;have p1:=E.o.h.a.j;have U:=E.o.h.a.k;have T:=E.o.h.a.l;have p4:=E.o.h.a.g;have p5:=E.o.h.a.h;have pf:=E.o.h.a.n;go_wp2;refine bK (v:=Ψ #[aL eK,.bool false]) (by simp[results,results13,go_sem,aL,eK,p0,p1,U,T,p4,p5]) rfl ⟨ah ⟨z.o,rfl⟩,?_⟩;exact(((((E.o.h.b.c nl _).c nl _).c nl _).c nl _).c nl _).c nl _
     have hok:=(mO HN.o).1 h0;subst h0;have HTX:H (∀V:Ω,Φ prog 26 #[aL ⟨D,K,R,P,-1,L⟩] V λe w'=>e=N (Z (gV ⟨D,K,R,P,-1,L⟩))/\B V.1.size V w'):=λV=>DU V ⟨D,K,R,P,-1,L⟩ hok;have HT2:H (∀r,bT s r->gV ⟨D,K,R,P,-1,L⟩=s):=λr C=>(by have h:=(HR.o r C).2.2.2;have h2:=C.2;rw[h]at h2;exact h2);have HT3:H (gV ⟨D,K,R,P,-1,L⟩=s->bT s ⟨D,K,R,P,-1,L⟩):=λh=>⟨hok,h⟩;generalize gV ⟨D,K,R,P,-1,L⟩=X at *;unfold aL at HTX;simp only at HTX;have c0:=E.o.i.m;have c1:=E.o.i.j;have c2:=E.o.i.k;have c3:=E.o.i.l;have c4:=E.o.i.g;have c5:=E.o.i.h;clear hok HN HR;go_wp2_with fail;refine(HTX.o _).m ?_;rintro e V6 ⟨rfl,hb6⟩;have A:H _:=E.o.l hb6;clear hb6 E c0 c1 c2 c3 c4 c5 HTX;by_cases hx:X=s
     case neg=>have hb1:(X.toList == s.toList)=false:=pU hx;have hb2:(X.toList != s.toList)=true:=(by rw[bne,hb1];rfl);have z:H (¬∃r,bT s r):=λ⟨r,C⟩=>hx (HT2.o r C);clear hx;have p0:=A.o.h.a.m;have p1:=A.o.h.a.j;have U:=A.o.h.a.k;have T:=A.o.h.a.l;have p4:=A.o.h.a.g;have p5:=A.o.h.a.h;have pf:=A.o.h.a.n;go_wp2;refine bK (v:=Ψ #[aL eK,.bool false]) (by simp[results,results13,go_sem,aL,eK,p0,p1,U,T,p4,p5]) rfl ⟨ah ⟨z.o,rfl⟩,?_⟩;exact(((((A.o.h.b.c nl _).c nl _).c nl _).c nl _).c nl _).c nl _
     have HRD:H (bT s ⟨D,K,R,P,-1,L⟩):=HT3.o hx;subst hx;have hb1:(X.toList == X.toList)=true:=pX rfl;have hb2:(X.toList != X.toList)=false:=(by rw[bne,hb1];rfl);have c0:=A.o.i.m;have c1:=A.o.i.j;have c2:=A.o.i.k;have c3:=A.o.i.l;have c4:=A.o.i.g;have c5:=A.o.i.h;have p0:=A.o.h.a.m;have p1:=A.o.h.a.j;have U:=A.o.h.a.k;have T:=A.o.h.a.l;have p4:=A.o.h.a.g;have p5:=A.o.h.a.h;have pf:=A.o.h.a.n;go_wp2;clear c0 c1 c2 c3 c4 c5;refine bK (v:=Ψ #[aL ⟨D,K,R,P,-1,L⟩,.bool true]) (by simp[results,results13,go_sem,aL,p0,p1,U,T,p4,p5]) rfl ⟨af ⟨_,HRD.o,rfl⟩,?_⟩;exact(((((A.o.h.b.c nl _).c nl _).c nl _).c nl _).c nl _).c nl _
end
end
end Go.Proofs.YtlaodjjfmhipnaaGreatDoor
