/-
  Part of it.
-/
import Derived.Test.YtlaodjjfmhipnaaGreatDoorSac
set_option maxRecDepth 100000
set_option maxHeartbeats 8000000
set_option linter.all false
namespace Go.Proofs.YtlaodjjfmhipnaaGreatDoor
open Go.Proofs.Tryz
open Value renaming int→I,string→Z,pointer→Y,slice→M,tuple→Ψ
open Ending renaming returned→N
open Obj renaming cells→Δ
open Go renaming World→Ω,Calls→Φ
open IntKind renaming i64→Q
open Option renaming some→O,none→J
open RowKit renaming Below→B,Hid→H
def dX(u v:Nat->Int)(L:Nat):Nat->Nat
 |0=>0
 |k+1=>dX u v L k+(if 0<=u (L+k)/\u (L+k)=v (L+k) then 1 else 0)
theorem vW(u v:Nat->Int)(L:Nat):∀k,dX u v L k<=k
 |0=>aa _
 |k+1=>by have:=vW u v L k;unfold dX;split<;>omega
theorem FW{u v:Nat->Int}{L k:Nat}(h:0<=u (L+k)/\u (L+k)=v (L+k)):dX u v L (k+1)=dX u v L k+1:=by show _+_=_;rw[ak h]
theorem Bq{u v:Nat->Int}{L k:Nat}(h:¬(0<=u (L+k)/\u (L+k)=v (L+k))):dX u v L (k+1)=dX u v L k:=by show _+_=_;rw[ag h,Nat.add_zero]
theorem Em{u v a v':Nat->Int}{L:Nat}:∀{k},(∀j,j<k->u (L+j)=a (L+j)/\v (L+j)=v' (L+j))->dX u v L k=dX a v' L k
 |0,_=>rfl
 |k+1,h=>by unfold dX;rw[(h k om).1,(h k om).2,Em (λj b=>h j om)]
theorem AF{u v:Nat->Int}{L:Nat}:∀{k},(∀j,j<k->u (L+j)<0\/v (L+j)<0)->dX u v L k=0
 |0,_=>rfl
 |k+1,h=>by rw[Bq,AF (λj a=>h j om)];have:=h k om;omega
def il(ep:Nat->List ai)(W need span e:Nat)(g h:ByteArray):Nat:=dX (aI g ep W need) (aI h ep W need) (cu span e) (e+1-cu span e)
theorem Rm(ep:Nat->List ai)(W b a e:Nat)(g h:ByteArray)(d:1<=a)(c:a<=8):il ep W b a e g h<=8:=by refine aP (vW _ _ _ _) ?_;unfold cu;omega
theorem LA{ep c:Nat->List ai}{W b a e:Nat}{g h:ByteArray}(d:∀k,k<=e->ep k=c k):il ep W b a e g h=il c W b a e g h:=by refine Em (λj i=>⟨zl ?_ ?_,zl ?_ ?_⟩)<;>(intro p k f;rw[d k om])
theorem C0{g:ByteArray}{p:Int}{ep:Nat->List ai}{L:Nat}:∀{k},(∀j,bz g (ep j)=false)->gy g p ep L k=0
 |0,_=>rfl
 |k+1,h=>by
  unfold gy
  have:dl g p (ep (L+k))=false:=by
   cases h1:dl g p (ep (L+k)) with
  |false=>rfl
  |true=>have:=yJ h1;rw[h]at this;cases this
  rw[this,C0 h];rfl
theorem zc{g:ByteArray}{ep:Nat->List ai}{W a e:Nat}(b:1<=a)(h:∀j,bz g (ep j)=false):aI g ep W a e=-1:=by
 rcases uv a (kL g ep W e) (lx g ep W e) 8 with ⟨hb,_⟩|⟨q,hb,hq,hq2,_⟩
 ·exact hb
 exfalso;have:kL g ep W e q=0:=C0 h;omega
theorem Jl{ep:Nat->List ai}{W a b e:Nat}{g h:ByteArray}(c:1<=a)(d:∀j,bz g (ep j)=false):il ep W a b e g h=0:=
 AF (λj _=>af (by rw[zc c d];decide))
theorem Cv{ep:Nat->List ai}{W a b e:Nat}{g h:ByteArray}(c:1<=a)(d:∀j,bz h (ep j)=false):il ep W a b e g h=0:=
 AF (λj _=>ah (by rw[zc c d];decide))
theorem zH{g:ByteArray}{ep:Nat->List ai}(h:¬∃e,bz g (ep e)=true):∀j,bz g (ep j)=false:=λj=>by
 cases h1:bz g (ep j) with
 |false=>rfl
 |true=>exact absurd ⟨j,h1⟩ h
def rG(t:ByteArray->Nat)(was h p:ByteArray):Prop:=t h<t p\/(t h=t p/\(h=p\/p=was\/(h≠was/\p.toList<h.toList)))
def ix(kd:ByteArray->Nat)(t:ByteArray->Nat)(score:Nat)(g was p:ByteArray):Prop:=
 (p=⟨#[]⟩/\∀h,0<kd g->kd g<kd h->t h<score)\/((0<kd g/\kd g<kd p)/\score<=t p/\∀h,kd g<kd h->score<=t h->rG t was h p)
theorem ix.a{f t:ByteArray->Nat}{c:Nat}{g d p p':ByteArray}(h:ix f t c g d p)(e:ix f t c g d p'):p=p':=by
 rcases h with ⟨rfl,h⟩|⟨h1,h2,h3⟩<;>rcases e with ⟨rfl,e⟩|⟨h1',h2',h3'⟩
 ·rfl
 ·have:=h p' h1'.1 h1'.2;omega
 ·have:=e p h1.1 h1.2;omega
 have a:=h3 p' h1'.2 h2';have b:=h3' p h1.2 h2;rcases a with a|⟨_,a⟩<;>rcases b with b|⟨_,b⟩
 ·omega
 ·omega
 ·omega
 rcases a with a|a|⟨a,a'⟩
 ·exact a.symm
 ·rcases b with b|b|⟨b,b'⟩
  ·exact b
  ·rw[a,b]
  exact absurd a b
 rcases b with b|b|⟨b,b'⟩
 ·exact b
 ·exact absurd b a
 exact absurd (List.lt_trans a' b') (List.lt_irrefl _)
theorem ix.b{e t d:ByteArray->Nat}{a:Nat}{g c p:ByteArray}(h:ix e t a g c p)(f:∀x,t x=d x):ix e d a g c p:=by have:t=d:=funext f;rw[<-this];exact h
def lU(c1:Nat)(w1:Bool)(x1:ByteArray)(c2:Nat)(w2:Bool)(x2:ByteArray):Bool:=if c1=c2 then (if w1=w2 then Op.bytesLess x1.toList x2.toList else w1) else decide (c2<c1)
theorem J9{a b:ByteArray}(h:Op.bytesLess a.toList b.toList=true):a.toList<b.toList:=by rw[bytesLess_eq]at h;simpa using h
theorem AG{a b:ByteArray}(h:a.toList=b.toList):a=b:=by rw[cY,cY]at h;cases a;cases b;simp at h;rw[h]
theorem A4{a b:List UInt8}(h:¬a<b)(d:a≠b):b<a:=by
 have c:b<=a:=h;rcases List.le_iff_lt_or_eq.1 c with h2|h2
 ·exact h2
 exact absurd h2.symm d
theorem Jk{a b:ByteArray}(h:Op.bytesLess a.toList b.toList=false)(d:¬a=b):b.toList<a.toList:=by
 refine A4 (λc=>?_) (λe=>d (AG e));have:Op.bytesLess a.toList b.toList=true:=by rw[bytesLess_eq];simpa using c
 rw[this]at h;cases h
def jH(kd t:ByteArray->Nat)(score:Nat)(g was:ByteArray)(L:List ByteArray)(p:ByteArray)(c:Nat)(wb:Bool):Prop:=
 (p=⟨#[]⟩/\c=0/\wb=false/\∀h,h∈L->kd g<kd h->t h<score)\/(p∈L/\kd g<kd p/\c=t p/\wb=decide (p=was)/\score<=t p/\∀h,h∈L->kd g<kd h->score<=t h->rG t was h p)
section
variable {kd t:ByteArray->Nat}{score:Nat}{g was:ByteArray}{L:List ByteArray}{p x:ByteArray}{c:Nat}{wb:Bool}
theorem jH.h:jH kd t score g was [] ⟨#[]⟩ 0 false:=af ⟨rfl,rfl,rfl,λ_ a=>absurd a nj⟩
theorem jH.b(b:jH kd t score g was L p c wb)(h:¬kd g<kd x\/t x<score):jH kd t score g was (L++[x]) p c wb:=by
 rcases b with ⟨h1,h2,h3,h4⟩|⟨h1,h2,h3,h4,h5,h6⟩
 ·refine af ⟨h1,h2,h3,λy a d=>?_⟩;rcases dP.1 a with a|a
  ·exact h4 y a d
  have:y=x:=(by simpa using a);subst this;rcases h with h|h
  ·exact absurd d h
  exact h
 refine ah ⟨rQ _ h1,h2,h3,h4,h5,λy a d e=>?_⟩;rcases dP.1 a with a|a
 ·exact h6 y a d e
 have:y=x:=(by simpa using a);subst this;rcases h with h|h
 ·exact absurd d h
 omega
theorem PU(h:lU (t x) (decide (x=was)) x (t p) (decide (p=was)) p=false):rG t was x p:=by
 unfold lU at h;by_cases b:t x=t p
 ·rw[ak b]at h;refine ah ⟨b,?_⟩;by_cases a:(decide (x=was))=(decide (p=was))
  ·rw[ak a]at h;by_cases e:x=p
   ·exact af e
   by_cases c:p=was
   ·exact ah (af c)
   refine ah (ah ⟨λf=>?_,Jk h e⟩);rw[decide_eq_true f,decide_eq_false c]at a;cases a
  rw[ag a]at h;have g:¬x=was:=by simpa using h
  have d:p=was:=by
   cases h3:decide (p=was) with
  |true=>simpa using h3
  |false=>rw[h,h3]at a;exact absurd rfl a
  exact ah (af d)
 rw[ag b]at h;have:¬t p<t x:=by simpa using h
 exact af om
theorem PW(h:lU (t x) (decide (x=was)) x (t p) (decide (p=was)) p=true):rG t was p x:=by
 unfold lU at h;by_cases b:t x=t p
 ·rw[ak b]at h;refine ah ⟨b.symm,?_⟩;by_cases a:(decide (x=was))=(decide (p=was))
  ·rw[ak a]at h;by_cases c:x=was
   ·exact ah (af c)
   refine ah (ah ⟨λd=>?_,J9 h⟩);rw[decide_eq_true d,decide_eq_false c]at a;cases a
  rw[ag a]at h;exact ah (af (by simpa using h))
 rw[ag b]at h;have:t p<t x:=by simpa using h
 exact af this
theorem Nw{h:ByteArray}(a:rG t was h p)(b:rG t was p x):rG t was h x:=by
 rcases a with a|⟨a,a'⟩<;>rcases b with b|⟨b,b'⟩
 ·exact af om
 ·exact af om
 ·exact af om
 refine ah ⟨om,?_⟩;rcases a' with e|e|⟨e,e'⟩
 ·rw[e];exact b'
 ·rcases b' with f|f|⟨f,f'⟩
  ·rw[<-f];exact ah (af e)
  ·exact ah (af f)
  exact absurd e f
 rcases b' with f|f|⟨f,f'⟩
 ·rw[<-f];exact ah (ah ⟨e,e'⟩)
 ·exact ah (af f)
 exact ah (ah ⟨e,List.lt_trans f' e'⟩)
theorem PV:rG t was x x:=ah ⟨rfl,af rfl⟩
theorem jH.f(b:jH kd t score g was L p c wb)(i:kd g<kd x)(j:score<=t x)(h:lU (t x) (decide (x=was)) x c wb p=true):jH kd t score g was (L++[x]) x (t x) (decide (x=was)):=by
 refine ah ⟨by simp,i,rfl,rfl,j,λy a d e=>?_⟩;rcases dP.1 a with a|a
 ·rcases b with ⟨h1,h2,h3,h4⟩|⟨h1,h2,h3,h4,h5,h6⟩
  ·have:=h4 y a d;omega
  rw[h3,h4]at h;exact Nw (h6 y a d e) (PW h)
 have:y=x:=by simpa using a
 rw[this];exact PV
theorem jH.d(b:jH kd t score g was L p c wb)(j:1<=score)(i:score<=t x)(h:lU (t x) (decide (x=was)) x c wb p=false):jH kd t score g was (L++[x]) p c wb:=by
 rcases b with ⟨e1,h2,h3,h4⟩|⟨e1,h2,h3,h4,h5,h6⟩
 ·exfalso;rw[h2]at h;unfold lU at h;rw[ag om]at h;have:¬0<t x:=by simpa using h
  omega
 refine ah ⟨rQ _ e1,h2,h3,h4,h5,λy a e f=>?_⟩;rcases dP.1 a with a|a
 ·exact h6 y a e f
 have:y=x:=(by simpa using a);subst this;rw[h3,h4]at h;exact PU h
theorem jH.e(b:jH kd t score g was L p c wb)(i:0<kd g)(f:∀h,kd g<kd h->score<=t h->h∈L):ix kd t score g was p:=by
 rcases b with ⟨h1,h2,h3,h4⟩|⟨h1,h2,h3,h4,h5,h6⟩
 ·refine af ⟨h1,λh _ a=>?_⟩;rcases gQ (t h) score with h5|h5
  ·exact h5
  exact h4 h (f h a h5) a
 exact ah ⟨⟨i,h2⟩,h5,λh a d=>h6 h (f h a d) a d⟩
theorem jH.a(b:jH kd t score g was L p c wb)(e:1<=score)(d:kd ⟨#[]⟩=0):(c=0↔p=⟨#[]⟩):=by
 rcases b with ⟨e1,h2,h3,h4⟩|⟨e1,h2,h3,h4,h5,h6⟩
 ·exact⟨λ_=>e1,λ_=>h2⟩
 constructor
 ·intro h;omega
 intro h;rw[h,d]at h2;omega
end
theorem Nx{c t:ByteArray->Nat}{a:Nat}{g b:ByteArray}(h:c g=0\/∀x,t x<a):ix c t a g b ⟨#[]⟩:=by
 refine af ⟨rfl,λx d _=>?_⟩;rcases h with h|h
 ·omega
 exact h x
def dM(f:Nat->ByteArray->ByteArray)(e:Nat)(g:ByteArray):ByteArray:=if e=0 then ⟨#[]⟩ else f (e-1) g
def jj(kd:ByteArray->Nat)(ep:Nat->List ai)(W need span score:Nat)(f:Nat->ByteArray->ByteArray)(k:Nat):Prop:=
 ∀e g,e<k->ix kd (il ep W need span e g) score g (dM f e g) (f e g)
theorem jj.b{l:ByteArray->Nat}{ep i:Nat->List ai}{W d c a k:Nat}{f:Nat->ByteArray->ByteArray}(h:jj l ep W d c a f k)(n:∀e,e<k->ep e=i e):jj l i W d c a f k:=
 λe g m=>(h e g m).b (λx=>LA (λj o=>n j om))
def mU(f:Nat->ByteArray->ByteArray)(k:Nat)(pf:ByteArray->ByteArray)(e:Nat)(g:ByteArray):ByteArray:=if e=k then pf g else f e g
theorem jj.d{j:ByteArray->Nat}{ep:Nat->List ai}{W c b a k:Nat}{f:Nat->ByteArray->ByteArray}{pf:ByteArray->ByteArray}(h:jj j ep W c b a f k)(m:∀g,ix j (il ep W c b k g) a g (dM f k g) (pf g)):jj j ep W c b a (mU f k pf) (k+1):=λe g o=>by
 have n:dM (mU f k pf) e g=dM f e g:=by
  unfold dM;by_cases i:e=0
  ·rw[ak i,ak i]
  rw[ag i,ag i];unfold mU;rw[ag om]
 rw[n];by_cases l:e=k
 ·subst l;have:mU f e pf e g=pf g:=by unfold mU;rw[ak rfl]
  rw[this];exact m g
 have:mU f k pf e g=f e g:=by unfold mU;rw[ag l]
 rw[this];exact h e g om
theorem jj.e{d:ByteArray->Nat}{ep:Nat->List ai}{W c b a:Nat}{f:Nat->ByteArray->ByteArray}:jj d ep W c b a f 0:=λe g h=>by omega
theorem jj.a{m:ByteArray->Nat}{ep:Nat->List ai}{W d c b k:Nat}{f f':Nat->ByteArray->ByteArray}(h:jj m ep W d c b f k)(g:ByteArray)(j:∀e,e<k->ix m (il ep W d c e g) b g (dM f' e g) (f' e g)):∀e,e<k->f e g=f' e g
 |0,he=>by have i:=h 0 g he;have l:=j 0 he;exact i.a l
 |e+1,he=>by
  have n:=jj.a h g j e om;have i:=h (e+1) g he;have l:=j (e+1) he;have o:dM f (e+1) g=dM f' (e+1) g:=by unfold dM;rw[ag om,ag om];exact n
  rw[o]at i;exact i.a l
end Go.Proofs.YtlaodjjfmhipnaaGreatDoor
