/-
  Part of it.
-/
import Derived.Test.YtlaodjjfmhipnaaGreatDoorAa
import Derived.Test.YtlaodjjfmhipnaaGreatDoorShelfK
set_option maxRecDepth 100000
set_option maxHeartbeats 8000000
set_option linter.all false
namespace Go.Proofs.YtlaodjjfmhipnaaGreatDoor
open Go.Proofs.Tryz
open Value renaming int→I,string→Z,pointer→Y,slice→M,tuple→Ψ
open Ending renaming returned→N
open Obj renaming cells→Δ
open Go renaming World→Ω,Calls→Φ
open IntKind renaming i64→Q
open Option renaming some→O,none→J
open RowKit renaming Below→B,Hid→H
structure dr where
 b:Int
 d:Int
 e:Int
 c:ByteArray
structure bf where
 b:Int
 a:List dr
 c:Int
def dL(n lo hi:Int):Bool:=decide (lo<=n)&&decide (n<=hi)
theorem p9{n b a:Int}:dL n b a=true↔b<=n/\n<=a:=by simp[dL]
def fy(r:dr):Bool:=dL r.b 0 3&&dL r.d 0 255&&dL r.e 0 255&&decide (r.c.size=8)
def ch(f:bf):Nat:=
 if dL f.b 1 3=false then 1
 else if (f.b≠1/\0<f.a.length)\/(f.b≠3/\f.c≠0) then 3
 else if dL f.c 0 255=false then 1
 else if 4<f.a.length then 2
 else if f.a.all fy=true then 0 else 1
structure eC (f:bf):Prop where
 h:1<=f.b/\f.b<=3
 b:f.b≠1->f.a=[]
 g:f.b≠3->f.c=0
 e:0<=f.c/\f.c<=255
 c:f.a.length<=4
 a:∀r∈f.a,(0<=r.b/\r.b<=3)/\(0<=r.d/\r.d<=255)/\(0<=r.e/\r.e<=255)/\r.c.size=8
theorem za{r:dr}:fy r=true↔(0<=r.b/\r.b<=3)/\(0<=r.d/\r.d<=255)/\(0<=r.e/\r.e<=255)/\r.c.size=8:=by simp[fy,p9,and_assoc]
theorem nu{f:bf}:ch f=0↔eC f:=by
 unfold ch;constructor
 ·intro h;split at h
  ·omega
  rename_i h1;split at h
  ·omega
  rename_i h2;split at h
  ·omega
  rename_i h3;split at h
  ·omega
  rename_i h4;split at h
  ·rename_i h5;refine⟨p9.1 (by simpa using h1),λe=>?_,λe=>?_,p9.1 (by simpa using h3),om,λr i=>za.1 (kQ.1 h5 r i)⟩
   ·apply lX;intro d;exact h2 (af ⟨e,jl.2 d⟩)
   apply lX;intro d;exact h2 (ah ⟨e,d⟩)
  omega
 intro h;rw[ag (by rw[p9.2 h.h];simp),ag,ag (by rw[p9.2 h.e];simp),ag (by have:=h.c;omega),ak (kQ.2 λr i=>za.2 (h.a r i))];rintro(⟨a,b⟩|⟨a,b⟩)
 ·rw[h.b a]at b;simp at b
 exact b (h.g a)
def bp(n:Int):UInt8:=UInt8.ofNat (n%256).toNat
theorem n9(n:Int):((bp n).toNat:Int)=n%256:=by unfold bp;rw[UInt8.toNat_ofNat'];omega
theorem pa{n:Int}(a:0<=n)(b:n<=255):((bp n).toNat:Int)=n:=by rw[n9];omega
def nE(r:dr):List UInt8:=bp r.b::bp r.d::bp r.e::r.c.1.toList
def dh(rs:List dr):List UInt8:=rs.flatMap nE
def cr(f:bf):List UInt8:=dh f.a++(if f.b=3 then [bp f.c] else [])
def dt(f:bf):List UInt8:=165::bp (cr f).length::bp f.b::cr f
def gI(l:List UInt8):Nat:=(l.map UInt8.toNat).sum
def ii(l:List UInt8):UInt8:=UInt8.ofNat (255-gI l%256)
def aJ(f:bf):List UInt8:=dt f++[ii (dt f)]
theorem DA{r:dr}(h:r.c.size=8):(nE r).length=11:=by
 have:r.c.1.toList.length=8:=by simpa using h
 simp[nE,this]
theorem tN{rs:List dr}(h:∀r∈rs,r.c.size=8):(dh rs).length=11*rs.length:=by
 induction rs with
 |nil=>rfl
 |cons r rs ih=>
  have e:dh (r::rs)=nE r++dh rs:=rfl;rw[e,bU,DA (h r sm),ih (λr a=>h r (by simp[a])),eF];omega
theorem I9{rs:List dr}(h:∀r∈rs,r.c.size=8)(k:Nat):(dh rs).drop (11*k)=dh (rs.drop k):=by
  induction k generalizing rs with
 |zero=>rfl
 |succ k ih=>
   cases rs with
  |nil=>simp[dh]
  |cons r rs=>
    have e:dh (r::rs)=nE r++dh rs:=rfl;rw[e,show 11*(k+1)=(nE r).length+11*k by rw[DA (h r sm)];omega,List.drop_append,List.drop_eq_nil_of_le om];simp only[j9,List.drop_succ_cons];rw[show (nE r).length+11*k-(nE r).length=11*k by omega];exact ih (λr a=>h r (by simp[a]))
theorem eC.d{f:bf}(h:eC f):∀r∈f.a,r.c.size=8:=λr b=>(h.a r b).2.2.2
theorem Dz{f:bf}(h:eC f):(cr f).length=11*f.a.length+(if f.b=3 then 1 else 0):=by unfold cr;rw[bU,tN h.d];split<;>rfl
theorem xr{f:bf}(h:eC f):(cr f).length<=44:=by
 rw[Dz h];have:=h.c;split
 ·rename_i e;have:f.a=[]:=h.b om;simp[this]
 omega
theorem jc(f:bf):(aJ f).length=4+(cr f).length:=by simp[aJ,dt];omega
def uF(l:List UInt8):dr:=⟨(l.getD 0 0).toNat,(l.getD 1 0).toNat,(l.getD 2 0).toNat,⟨((l.drop 3).take 8).toArray⟩⟩
def fK(l:List UInt8)(k:Nat):dr:=uF (l.drop (11*k))
def jd(l:List UInt8):List dr:=(List.range (l.length/11)).map (fK l)
theorem Ln{r:dr}(h:(0<=r.b/\r.b<=3)/\(0<=r.d/\r.d<=255)/\(0<=r.e/\r.e<=255)/\r.c.size=8)(l:List UInt8):uF (nE r++l)=r:=by
 obtain⟨k,f,i,j⟩:=h;have m:r.c.1.toList.length=8:=by simpa using j
 unfold uF nE;obtain⟨a,s,g,⟨⟨t⟩⟩⟩:=r;simp only[ni,List.getD_cons_zero,List.getD_cons_succ,List.drop_succ_cons,List.drop_zero]at *;rw[pa k.1 om,pa f.1 f.2,pa i.1 i.2,List.take_append_of_le_length om,ip om]
theorem Jc{rs:List dr}(h:∀r∈rs,(0<=r.b/\r.b<=3)/\(0<=r.d/\r.d<=255)/\(0<=r.e/\r.e<=255)/\r.c.size=8):jd (dh rs)=rs:=by
 have a:∀r∈rs,r.c.size=8:=λr g=>(h r g).2.2.2;unfold jd;rw[tN a,Nat.mul_div_cancel_left _ om];apply List.ext_getElem
 ·simp
 intro k i f;simp only[List.getElem_map,List.getElem_range];unfold fK;rw[I9 a,List.drop_eq_getElem_cons f];exact Ln (h _ (eG f)) _
def kz(b:List UInt8):bf:=
 ⟨(b.getD 2 0).toNat,if (b.getD 2 0).toNat=1 then jd ((b.drop 3).take (b.length-4)) else [],
  if (b.getD 2 0).toNat=3/\(b.drop 3).take (b.length-4)≠[] then (b.getD 3 0).toNat else 0⟩
def mM(b:List UInt8):bf:=
 ⟨(b.getD 2 0).toNat,if (b.getD 2 0).toNat=1 then jd ((b.drop 3).take (b.length-4)) else [],
  if (b.getD 2 0).toNat=3/\b.length=5 then (b.getD 3 0).toNat else 0⟩
theorem DB(f:bf):((aJ f).drop 3).take ((aJ f).length-4)=cr f:=by rw[jc,show 4+(cr f).length-4=(cr f).length by omega];have e:(aJ f).drop 3=cr f++[ii (dt f)]:=rfl;rw[e,List.take_append_of_le_length nl,ip nl]
theorem AE{f:bf}(h:eC f):(((aJ f).getD 2 0).toNat:Int)=f.b:=by have e:(aJ f).getD 2 0=bp f.b:=rfl;have:=h.h;rw[e,pa om om]
theorem xH{f:bf}(h:eC f)(i:f.b=3):(((aJ f).getD 3 0).toNat:Int)=f.c/\(cr f).length=1:=by
 have d:f.a=[]:=h.b om;have g:cr f=[bp f.c]:=by simp[cr,dh,d,i]
 have e:(aJ f).getD 3 0=bp f.c:=by show ((cr f++[ii (dt f)]).getD 0 0)=_;rw[g];rfl
 rw[e,pa h.e.1 h.e.2,g];exact⟨rfl,rfl⟩
theorem CV{f:bf}(h:eC f):(if ((aJ f).getD 2 0).toNat=1 then jd (cr f) else [])=f.a:=by
 have e:=AE h;split
 ·have c:f.b=1:=om;have d:cr f=dh f.a:=by simp[cr,c]
  rw[d,Jc h.a]
 exact(h.b om).symm
theorem JZ{f:bf}(h:eC f):kz (aJ f)=f:=by
 have a:=AE h;have b:=CV h;unfold kz;rw[DB,b,a]
 have d:(if ((aJ f).getD 2 0).toNat=3/\cr f≠[] then (((aJ f).getD 3 0).toNat:Int) else 0)=f.c:=by
  split
  ·rename_i h3;exact(xH h om).1
  rename_i h3;symm;apply h.g;intro i;refine h3 ⟨om,λe=>?_⟩;have:=(xH h i).2;rw[e]at this;simp at this
 rw[d]
theorem Jd{f:bf}(h:eC f):mM (aJ f)=f:=by
 have b:=AE h;have a:=CV h;unfold mM;rw[DB,a,b]
 have d:(if ((aJ f).getD 2 0).toNat=3/\(aJ f).length=5 then (((aJ f).getD 3 0).toNat:Int) else 0)=f.c:=by
  split
  ·rename_i h3;exact(xH h om).1
  rename_i h3;symm;apply h.g;intro e;refine h3 ⟨om,?_⟩;have:=(xH h e).2;rw[jc];omega
 rw[d]
def da(s:List UInt8):Nat:=if s.length<2\/s.getD 0 0≠165\/44<(s.getD 1 0).toNat then 0 else 4+(s.getD 1 0).toNat
theorem zE{f:bf}(h:eC f)(t:List UInt8):da (aJ f++t)=(aJ f).length:=by
 have d:=xr h;have b:(aJ f++t).getD 1 0=bp (cr f).length:=rfl;have a:(aJ f++t).getD 0 0=165:=rfl;have c:=pa (n:=((cr f).length:Int)) om om;unfold da;rw[a,b,ag]
 ·rw[jc];omega
 rintro(h|h|h)
 ·simp[jc]at h;omega
 ·exact h rfl
 omega
def cO(s:List UInt8):Option bf:=
 if da s=0\/s.length<da s then J
 else if ch (kz (s.take (da s)))=0/\aJ (kz (s.take (da s)))=s.take (da s) then O (kz (s.take (da s))) else J
def sx(s:List UInt8):Option bf:=
 if da s=0\/s.length<da s then J
 else if ch (mM (s.take (da s)))=0/\aJ (mM (s.take (da s)))=s.take (da s) then O (mM (s.take (da s))) else J
theorem wO{f:bf}(h:eC f)(t:List UInt8):cO (aJ f++t)=O f:=by
 unfold cO;rw[zE h,List.take_left',JZ h,ag,ak ⟨nu.2 h,rfl⟩]
 ·rw[jc,bU,jc];omega
 rfl
theorem Jb{f:bf}(h:eC f)(t:List UInt8):sx (aJ f++t)=O f:=by
 unfold sx;rw[zE h,List.take_left',Jd h,ag,ak ⟨nu.2 h,rfl⟩]
 ·rw[jc,bU,jc];omega
 rfl
theorem rU{s:List UInt8}{f:bf}(h:cO s=O f):eC f/\∃t,s=aJ f++t:=by
 unfold cO at h;split at h
 ·cases h
 split at h
 ·rename_i h2;cases h;refine⟨nu.1 h2.1,s.drop (da s),?_⟩;rw[h2.2,rN]
 cases h
theorem II{s:List UInt8}{f:bf}(h:sx s=O f):eC f/\∃t,s=aJ f++t:=by
 unfold sx at h;split at h
 ·cases h
 split at h
 ·rename_i h2;cases h;refine⟨nu.1 h2.1,s.drop (da s),?_⟩;rw[h2.2,rN]
 cases h
theorem JY(s:List UInt8):sx s=cO s:=by
  cases h:cO s with
 |some f=>
   obtain⟨a,t,rfl⟩:=rU h;exact Jb a t
 |none=>
   cases h2:sx s with
  |none=>rfl
  |some f=>
    obtain⟨a,t,rfl⟩:=II h2;rw[wO a t]at h;cases h
def gU(s:List UInt8):Bool:=(decide (s.length=1)&&s.getD 0 0 == 165)||decide (s.length<da s)
def iD:Nat->List UInt8->List bf×Nat×List UInt8
 |0,_=>([],0,[])
 |n+1,s=>
  if s=[] then ([],0,[])
  else match cO s with
  |some f=>(f::(iD n (s.drop (aJ f).length)).1,(iD n (s.drop (aJ f).length)).2.1,(iD n (s.drop (aJ f).length)).2.2)
  |none=>if gU s=true then ([],0,s) else ((iD n (s.drop 1)).1,(iD n (s.drop 1)).2.1+1,(iD n (s.drop 1)).2.2)
def aW(s:List UInt8):List bf×Nat×List UInt8:=iD s.length s
theorem Cs(n:Nat):∀(m:Nat)(s:List UInt8),s.length<=n->s.length<=m->iD n s=iD m s:=by
  induction n with
 |zero=>
   intro m s b c;obtain rfl:s=[]:=iG.1 om;cases m with
  |zero=>rfl
  |succ m=>simp[iD]
 |succ n ih=>
   intro m s b c;by_cases a:s=[]
   ·subst a;cases m<;>simp[iD]
   have g:=jl.2 a;cases m with
  |zero=>omega
  |succ m=>
    have d:∀f:bf,iD n (s.drop (aJ f).length)=iD m (s.drop (aJ f).length):=λf=>ih m _ (by rw[jm,jc];omega) (by rw[jm,jc];omega);have e:iD n (s.drop 1)=iD m (s.drop 1):=ih m _ (by rw[jm];omega) (by rw[jm];omega);simp only[iD,d,e]
theorem sd:aW []=([],0,[]):=rfl
theorem y9{s:List UInt8}(a:s≠[]):∃n,aW s=iD (n+1) s/\(∀f:bf,iD n (s.drop (aJ f).length)=aW (s.drop (aJ f).length))/\iD n (s.drop 1)=aW (s.drop 1):=by
 have b:=jl.2 a;refine⟨s.length-1,?_,λf=>?_,?_⟩
 ·show iD s.length s=_;rw[show s.length-1+1=s.length by omega]
 ·exact Cs _ _ _ (by rw[jm,jc];omega) nl
 exact Cs _ _ _ (by rw[jm];omega) nl
theorem tD{s:List UInt8}{f:bf}(h:cO s=O f):aW s=(f::(aW (s.drop (aJ f).length)).1,(aW (s.drop (aJ f).length)).2.1,(aW (s.drop (aJ f).length)).2.2):=by
 have a:s≠[]:=by rintro rfl;obtain⟨_,t,e⟩:=rU h;have:=congrArg List.length e;rw[bU,jc]at this;simp at this;omega
 obtain⟨n,b,c,_⟩:=y9 a;rw[b,iD,ag a];simp only[h,c]
theorem wN{s:List UInt8}(a:s≠[])(h:cO s=J)(c:gU s=true):aW s=([],0,s):=by obtain⟨n,b,_,_⟩:=y9 a;rw[b,iD,ag a];simp only[h,c,iP]
theorem ve{s:List UInt8}(a:s≠[])(h:cO s=J)(c:gU s=false):aW s=((aW (s.drop 1)).1,(aW (s.drop 1)).2.1+1,(aW (s.drop 1)).2.2):=by obtain⟨n,b,_,d⟩:=y9 a;rw[b,iD,ag a];simp only[h,c,iq,fL,d]
theorem Ih{s t:List UInt8}(f:s≠[])(j:gU s=false):gU (s++t)=false:=by
  cases hx:gU (s++t) with
 |false=>rfl
 |true=>
   rw[<-j];symm
   match s,f with
  |[x],_=>
    unfold gU at hx⊢;cases t with
   |nil=>simpa using hx
   |cons y t=>
     simp only[ni,j9,eF,List.getD_cons_zero,Bool.or_eq_true,jo,kO]at hx;rcases hx with hx|hx
     ·omega
     have a:x=165:=by
      unfold da at hx;split at hx
      ·omega
      rename_i h;simp only[List.getD_cons_zero]at h;apply lX;intro c;exact h (ah (af c))
     simp[a]
  |x::y::s,_=>
    have e:da (x::y::s++t)=da (x::y::s):=(by have g:(x::y::s++t).getD 0 0=x:=rfl;have i:(x::y::s++t).getD 1 0=y:=rfl;have l:(x::y::s).getD 0 0=x:=rfl;have k:(x::y::s).getD 1 0=y:=rfl;have b:¬(x::y::s++t).length<2:=(by simp);have d:¬(x::y::s).length<2:=(by simp);unfold da;rw[g,i,l,k];simp only[b,d]);unfold gU at hx⊢;rw[e]at hx;simp only[ni,eF,bU,List.getD_cons_zero,Bool.or_eq_true,jo,kO]at hx⊢;rcases hx with hx|hx
    ·omega
    right;omega
theorem Iu{s t:List UInt8}(m:s≠[])(h:cO s=J)(i:gU s=false):cO (s++t)=J:=by
 cases g:cO (s++t) with
 |none=>rfl
 |some f=>
  exfalso;obtain⟨d,u,e⟩:=rU g;rcases gQ s.length (aJ f).length with hl|hl
  ·have j:=zE d [];rw[List.append_nil]at j;have a:s=(aJ f).take s.length:=by have:=congrArg (List.take s.length) e;rw[List.take_left,List.take_append_of_le_length om]at this;exact this
   have:gU s=true:=by
    unfold gU
    match s,m with
   |[x],_=>
     have c:x=165:=(by have:[x]=[165]:=a;simpa using this);simp[c]
   |x::y::s,_=>
     have g:x=165/\y=bp (cr f).length:=by
      have l:x::y::s=(165::bp (cr f).length::(bp f.b::cr f++[ii (dt f)])).take (s.length+1+1):=a;rw[List.take_succ_cons,List.take_succ_cons]at l;injection l with e4 e5
      injection e5 with e5 e6
      exact⟨e4,e5⟩
     obtain⟨rfl,rfl⟩:=g;have i:=xr d;have p:=pa (n:=((cr f).length:Int)) om om
     have o:da (165::bp (cr f).length::s)=4+(cr f).length:=by
      unfold da;rw[ag]
      ·simp only[List.getD_cons_zero,List.getD_cons_succ];omega
      simp only[List.getD_cons_zero,List.getD_cons_succ,eF];rintro(h|h|h)
      ·omega
      ·exact h rfl
      omega
     rw[o];rw[jc]at hl;simp only[Bool.or_eq_true,kO];right;exact hl
   rw[this]at i;cases i
  have a:s=aJ f++s.drop (aJ f).length:=(by have:=congrArg (List.take (aJ f).length) e;rw[List.take_left,List.take_append_of_le_length hl]at this;have k:s.take (aJ f).length++s.drop (aJ f).length=s:=rN _ _;rw[this]at k;exact k.symm);rw[a,wO d]at h;cases h
theorem Ll(n:Nat):∀(s t:List UInt8),s.length<=n->aW (s++t)=((aW s).1++(aW ((aW s).2.2++t)).1,(aW s).2.1+(aW ((aW s).2.2++t)).2.1,(aW ((aW s).2.2++t)).2.2):=by
  induction n with
 |zero=>
   intro s t h;obtain rfl:s=[]:=iG.1 om;rw[sd];simp
 |succ n ih=>
   intro s t d;by_cases a:s=[]
   ·subst a;rw[sd];simp
   have j:=jl.2 a;cases hf:cO s with
  |some f=>
    obtain⟨i,u,rfl⟩:=rU hf;have c:cO (aJ f++u++t)=O f:=(by rw[lY];exact wO i _);have b:u.length<=n:=(by rw[bU,jc]at d;omega);rw[tD c,tD hf];simp only[lY,List.drop_left];rw[ih u t b];simp
  |none=>
    cases hb:gU s with
   |true=>
     rw[wN a hf hb];simp
   |false=>
     have g:=Iu (t:=t) a hf hb;have c:=Ih (t:=t) a hb;have b:(s.drop 1).length<=n:=(by rw[jm];omega);rw[ve (by simp[a]) g c,ve a hf hb];simp only;have e:(s++t).drop 1=s.drop 1++t:=(by rw[List.drop_append_of_le_length om]);rw[e,ih _ t b];simp;omega
def oX(fs:List bf):Nat:=(fs.map λf=>(aJ f).length).sum
theorem yN(n:Nat):∀s:List UInt8,s.length<=n->oX (aW s).1+(aW s).2.1+(aW s).2.2.length=s.length/\(∀f∈(aW s).1,eC f)/\(aW s).1.length<=s.length:=by
  induction n with
 |zero=>
   intro s h;obtain rfl:s=[]:=iG.1 om;rw[sd];simp[oX]
 |succ n ih=>
   intro s j;by_cases a:s=[]
   ·subst a;rw[sd];simp[oX]
   have l:=jl.2 a;cases hf:cO s with
  |some f=>
    obtain⟨k,u,rfl⟩:=rU hf;have b:u.length<=n:=(by rw[bU,jc]at j;omega);rw[tD hf];simp only[List.drop_left];obtain⟨c,d,i⟩:=ih u b;refine⟨?_,?_,?_⟩
    ·simp only[oX,List.map_cons,List.sum_cons,bU]at c⊢;omega
    ·intro g e;rcases jN.1 e with rfl|e
     ·exact k
     exact d g e
    rw[bU,jc,eF];omega
  |none=>
    cases hb:gU s with
   |true=>rw[wN a hf hb];simp[oX]
   |false=>
     have b:(s.drop 1).length<=n:=(by rw[jm];omega);obtain⟨c,d,i⟩:=ih _ b;rw[jm]at c i;rw[ve a hf hb];exact⟨by simp only;omega,d,by simp only;omega⟩
theorem Lm(s:List UInt8):oX (aW s).1+(aW s).2.1+(aW s).2.2.length=s.length:=(yN s.length s nl).1
theorem xu(s:List UInt8):∀f∈(aW s).1,eC f:=(yN s.length s nl).2.1
theorem zD(s:List UInt8):(aW s).1.length<=s.length:=(yN s.length s nl).2.2
theorem Ja(a:List bf)(h:∀f∈a,eC f):aW (a.flatMap aJ)=(a,0,[]):=by
 induction a with
 |nil=>exact sd
 |cons f a ih=>
  have e:(f::a).flatMap aJ=aJ f++a.flatMap aJ:=rfl;rw[e,tD (wO (h f sm) _),List.drop_left,ih (λg b=>h g (by simp[b]))]
section
open Go.RowKit
theorem dC{b:Nat}{w w':Ω}{a:Addr}{v:Value}(d:B b w w')(c:a.block<b)(h:w.cell? a=O v):w'.cell? a=O v:=by rw[d.cell c];exact h
structure xY (w:Ω) (b o:Nat) (r:dr):Prop where
 c:w.cell? ⟨b,o,J⟩=O (I Q r.b)
 d:w.cell? ⟨b,o+1,J⟩=O (I Q r.d)
 e:w.cell? ⟨b,o+1+1,J⟩=O (I Q r.e)
 f:w.cell? ⟨b,o+1+1+1,J⟩=O (Z r.c)
theorem xY.a{w w':Ω}{b o:Nat}{r:dr}(h:xY w b o r)(e:w'.1[b]?=w.1[b]?):xY w' b o r where
 c:=by rw[bW (w:=w) e];exact h.c
 d:=by rw[bW (w:=w) e];exact h.d
 e:=by rw[bW (w:=w) e];exact h.e
 f:=by rw[bW (w:=w) e];exact h.f
structure de (w:Ω) (p:Option Addr) (rs:List dr):Prop where
 d:∀r∈rs,r.c.size<=maxLen
 c:rs≠[]->∃b o,p=O ⟨b,o,J⟩/\b<w.1.size/\∀k r,rs[k]?=O r->xY w b (o+k*4) r
theorem de.a{e:Nat}{w w':Ω}{p:Option Addr}{rs:List dr}(h:de w p rs)(i:B e w w')(m:w.1.size<=e):de w' p rs where
 d:=h.d
 c:=λf=>by obtain⟨b,o,rfl,g,j⟩:=h.c f;exact⟨b,o,rfl,bg g i.size,λk r l=>(j k r l).a (i.block b om)⟩
theorem mG(n a b:Int)(w:Ω):
  Φ prog 186 #[I Q n,I Q a,I Q b] w λe f=>e=N (.bool (dL n a b))/\f=w:=by
 by_cases d:a<=n
 ·by_cases g:n<=b
  ·have c:dL n a b=true:=(by simp[dL,d,g]);rw[c];go_enter func186,ntmps186;go_wp2;go_ret;exact⟨rfl,rfl⟩
  have c:dL n a b=false:=(by simp[dL];omega);rw[c];go_enter func186,ntmps186;go_wp2;go_ret;exact⟨by simp,rfl⟩
 have c:dL n a b=false:=by simp[dL];omega
 rw[c];have h:decide (a<=n)=false:=by simpa using d
 go_enter func186,ntmps186;go_wp2;go_ret;exact⟨rfl,rfl⟩
theorem Je(r:dr)(w:Ω)(j:r.c.size<=maxLen):
  Φ prog 187 #[.agg #[I Q r.b,I Q r.d,I Q r.e,Z r.c]] w λe f=>e=N (.bool (fy r))/\B w.1.size w f:=by
 obtain⟨R,i⟩:∃R,R=fy r:=⟨_,rfl⟩;have h:=hid i;rw[<-i];obtain⟨a,s,g,t⟩:=r;have k:=j;cases h1:dL a 0 3
 case false=>go_enter func187,ntmps187;go_wp2_with (go_at_call 186;refine(mG _ _ _ _).m ?_;rintro e f ⟨rfl,rfl⟩);go_ret;exact⟨by rw[h.o];simp[fy,h1],ba⟩
 cases h2:dL s 0 255
 case false=>go_enter func187,ntmps187;go_wp2_with (go_at_call 186;refine(mG _ _ _ _).m ?_;rintro e f ⟨rfl,rfl⟩);go_ret;exact⟨by rw[h.o];simp[fy,h2],ba⟩
 cases h3:dL g 0 255
 case false=>go_enter func187,ntmps187;go_wp2_with (go_at_call 186;refine(mG _ _ _ _).m ?_;rintro e f ⟨rfl,rfl⟩);go_ret;exact⟨by rw[h.o];simp[fy,h3],ba⟩
 go_enter func187,ntmps187;go_wp2_with (go_at_call 186;refine(mG _ _ _ _).m ?_;rintro e f ⟨rfl,rfl⟩);go_ret;refine⟨?_,ba⟩;rw[h.o];simp[fy,h1,h2,h3];rw[jq];simp;omega
end
section
open Go.RowKit
def k9(n:Nat):Value:=if n=0 then .nilIface else .iface 57 (I Q n)
theorem Lo(T W:Int)(rs:List dr)(p:Option Addr)(cap:Nat)(w:Ω)(h:dL T 1 3=false):
  Φ prog 143 #[.agg #[I Q T,M p rs.length cap,I Q W]] w λe a=>e=N (.iface 57 (I Q 1))/\B w.1.size w a:=by
 go_enter func143,ntmps143;go_wp2_with (go_at_call 186;refine(mG _ _ _ _).m ?_;rintro e a ⟨rfl,rfl⟩);go_ret;exact⟨rfl,ba⟩
theorem Iv(W:Int)(n:Nat)(p:Option Addr)(cap:Nat)(w:Ω)(h:W≠0):
  Φ prog 143 #[.agg #[I Q 1,M p n cap,I Q W]] w λe a=>e=N (.iface 57 (I Q 3))/\B w.1.size w a:=by
 have b:dL 1 1 3=true:=rfl;have c:(W == 0)=false:=by simpa using h
 go_enter func143,ntmps143;go_wp2_with (go_at_call 186;refine(mG _ _ _ _).m ?_;rintro e a ⟨rfl,rfl⟩);go_ret;exact⟨rfl,ba⟩
theorem Iw(W:Int)(p:Option Addr)(cap:Nat)(w:Ω)(h:W≠0):
  Φ prog 143 #[.agg #[I Q 2,M p 0 cap,I Q W]] w λe a=>e=N (.iface 57 (I Q 3))/\B w.1.size w a:=by
 have b:dL 2 1 3=true:=rfl;have c:(W == 0)=false:=by simpa using h
 go_enter func143,ntmps143;go_wp2_with (go_at_call 186;refine(mG _ _ _ _).m ?_;rintro e a ⟨rfl,rfl⟩);go_ret;exact⟨rfl,ba⟩
theorem BV(T W:Int)(n:Nat)(p:Option Addr)(cap:Nat)(w:Ω)(h:T=2\/T=3)(b:0<n):
  Φ prog 143 #[.agg #[I Q T,M p n cap,I Q W]] w λe a=>e=N (.iface 57 (I Q 3))/\B w.1.size w a:=by
 have d:dL T 1 3=true:=by rcases h with rfl|rfl<;>rfl
 have c:(T == 1)=false:=by rcases h with rfl|rfl<;>rfl
 clear h;go_enter func143,ntmps143;go_wp2_with (go_at_call 186;refine(mG _ _ _ _).m ?_;rintro e a ⟨rfl,rfl⟩);go_ret;exact⟨rfl,ba⟩
theorem Jg(W:Int)(p:Option Addr)(cap:Nat)(w:Ω)(h:dL W 0 255=false):
  Φ prog 143 #[.agg #[I Q 3,M p 0 cap,I Q W]] w λe a=>e=N (.iface 57 (I Q 1))/\B w.1.size w a:=by
 have b:dL 3 1 3=true:=rfl;go_enter func143,ntmps143;go_wp2_with (go_at_call 186;refine(mG _ _ _ _).m ?_;rintro e a ⟨rfl,rfl⟩);go_ret;exact⟨rfl,ba⟩
theorem Jf(n:Nat)(p:Option Addr)(cap:Nat)(w:Ω)(h:4<n):
  Φ prog 143 #[.agg #[I Q 1,M p n cap,I Q 0]] w λe a=>e=N (.iface 57 (I Q 2))/\B w.1.size w a:=by
 have d:dL 1 1 3=true:=rfl;have c:dL 0 0 255=true:=rfl;have b:(4:Int)<n:=om;go_enter func143,ntmps143;go_wp2_with (go_at_call 186;refine(mG _ _ _ _).m ?_;rintro e a ⟨rfl,rfl⟩);go_ret;exact⟨rfl,ba⟩
theorem Ct(T W:Int)(p:Option Addr)(cap:Nat)(w:Ω)(h:T=2/\W=0\/T=3/\dL W 0 255=true):
  Φ prog 143 #[.agg #[I Q T,M p 0 cap,I Q W]] w λe a=>e=N .nilIface/\B w.1.size w a:=by
 have d:dL T 1 3=true:=by rcases h with ⟨rfl,_⟩|⟨rfl,_⟩<;>rfl
 have c:(T == 1)=false:=by rcases h with ⟨rfl,_⟩|⟨rfl,_⟩<;>rfl
 have b:dL W 0 255=true:=by rcases h with ⟨_,rfl⟩|⟨_,h⟩;rfl;exact h
 rcases h with ⟨rfl,rfl⟩|⟨rfl,h⟩
 ·go_enter func143,ntmps143;go_wp2_with (go_at_call 186;refine(mG _ _ _ _).m ?_;rintro e a ⟨rfl,rfl⟩);go_loopw [4,43] (λ_ i V=>i=I Q 0/\V=w.alloc (Δ #[I Q 2,M p 0 cap,I Q 0] 105)) (λ_ _ _=>0)
  case atStart=>exact⟨rfl,rfl⟩
  obtain⟨rfl,rfl⟩:=hrel;go_wp2;go_ret;exact⟨rfl,ba⟩
 go_enter func143,ntmps143;go_wp2_with (go_at_call 186;refine(mG _ _ _ _).m ?_;rintro e a ⟨rfl,rfl⟩);go_loopw [4,43] (λ_ i V=>i=I Q 0/\V=w.alloc (Δ #[I Q 3,M p 0 cap,I Q W] 105)) (λ_ _ _=>0)
 case atStart=>exact⟨rfl,rfl⟩
 obtain⟨rfl,rfl⟩:=hrel;go_wp2;go_ret;exact⟨rfl,ba⟩
theorem IJ(rs:List dr)(p:Option Addr)(cap:Nat)(w:Ω)(h:rs.length<=4)(P:de w p rs):
  Φ prog 143 #[.agg #[I Q 1,M p rs.length cap,I Q 0]] w λe F=>e=N (k9 (if rs.all fy=true then 0 else 1))/\B w.1.size w F:=by
 have E:H (de w p rs):=P;clear P;obtain⟨R,C⟩:∃R,R=k9 (if rs.all fy=true then 0 else 1):=⟨_,rfl⟩;have s:H (R=k9 (if rs.all fy=true then 0 else 1)):=C;rw[<-C];clear C;have b1:dL 1 1 3=true:=rfl;have b2:dL 0 0 255=true:=rfl;obtain⟨n,y⟩:∃n,n=rs.length:=⟨_,rfl⟩;rw[<-y]at h⊢;have K:H (n=rs.length):=y;have hI:¬(4:Int)<n:=om;clear y;go_enter func143,ntmps143;go_wp2_with (go_at_call 186;refine(mG _ _ _ _).m ?_;rintro e F ⟨rfl,rfl⟩);go_loopw [4,43] (λ_ i V=>∃k:Nat,k<=n/\i=I Q k/\B (w.1.size+1) (w.alloc (Δ #[I Q 1,M p n cap,I Q 0] 105)) V/\(rs.take k).all fy=true) (λ_ i _=>n-(intOf i).toNat)
 case atStart=>exact⟨0,aX _,rfl,aj _ _,rfl⟩
 obtain⟨k,hk,rfl,f,g⟩:=hrel;by_cases v:k<n
 ·have S:(k:Int)<n:=om;have j:k<rs.length:=(by rw[<-K.o];exact v);obtain⟨b,o,rfl,D,L⟩:=E.o.c (by intro e;rw[e]at j;simp at j);have u:=(L k _ (bc j)).a ((f.block b om).trans (cX w _ b D));have G:=E.o.d _ (eG j);obtain⟨W,X,T,U⟩:=u;have HT:H (rs[k].c.size<=maxLen):=G;have A:H (B w.1.size w wr):=((aj _ w).l nl _).t (f.m om);have z:H (B (w.1.size+1) (w.alloc (Δ #[I Q 1,M (O ⟨b,o,J⟩) n cap,I Q 0] 105)) wr):=f;have hsz:w.1.size+1<=wr.1.size:=(by have:=f.size;simpa using this);have x:H ((rs.take k).all fy=true):=g;have HK:H (rs.take (k+1)=rs.take k++[rs[k]]):=iA j;have HD:H (rs.all fy=true->fy rs[k]=true):=λh=>kQ.1 h _ (eG j);clear f L G g D;go_wp2_with fail;refine(Je _ _ HT.o).m ?_;rintro e w1 ⟨rfl,q⟩;have r:H (B (wr.alloc (Δ #[I Q rs[k].b,I Q rs[k].d,I Q rs[k].e,Z rs[k].c] 102)).1.size (wr.alloc (Δ #[I Q rs[k].b,I Q rs[k].d,I Q rs[k].e,Z rs[k].c] 102)) w1):=q;clear q W X T U;cases hok:fy rs[k]
  ·go_wp2;go_ret;refine⟨?_,?_⟩
   ·rw[s.o,ag (λh=>by have:=HD.o h;rw[hok]at this;cases this)];rfl
   exact(A.o.l om _).t (r.o.m (by simp;omega))
  go_wp2;go_roundw
  case rel=>refine⟨k+1,om,by go_num,(z.o.l om _).t (r.o.m (by simp;omega)),?_⟩;rw[HK.o,List.all_append,x.o];simp[hok]
  simp[intOf];omega
 obtain rfl:k=n:=om;have x:H ((rs.take k).all fy=true):=g;have A:H (B w.1.size w wr):=((aj _ w).l nl _).t (f.m om);clear f g;go_wp2;go_ret;refine⟨?_,A.o⟩;have:=x.o;rw[K.o,eL]at this;rw[s.o,ak this];rfl
theorem xc{n:Nat}(h:n≠0):k9 n=.iface 57 (I Q n):=by unfold k9;rw[ag h]
theorem CW(f:bf)(p:Option Addr)(cap:Nat)(w:Ω)(j:de w p f.a):
   Φ prog 143 #[.agg #[I Q f.b,M p f.a.length cap,I Q f.c]] w λe k=>e=N (k9 (ch f))/\B w.1.size w k:=by
  obtain⟨T,d,W⟩:=f;simp only at j⊢;unfold ch;simp only;cases h1:dL T 1 3 with
 |false=>
   rw[ak rfl];exact Lo T W d p cap w h1
 |true=>
   rw[ag sm];have l:=p9.1 h1;rcases(show T=1\/T=2\/T=3 by omega) with rfl|rfl|rfl
   ·by_cases g:W=0
    ·subst g;rw[ag sm,ag dc];by_cases i:4<d.length
     ·rw[ak i];exact Jf d.length p cap w i
     rw[ag i];exact IJ d p cap w om j
    rw[ak (ah ⟨dc,g⟩)];exact Iv W d.length p cap w g
   ·by_cases h:0<d.length
    ·rw[ak (af ⟨dc,h⟩)];exact BV 2 W d.length p cap w (af rfl) h
    obtain rfl:d=[]:=iG.1 om;by_cases g:W=0
    ·subst g;rw[ag sm,ag dc,ag sm,ak List.all_nil];exact Ct 2 0 p cap w (af ⟨rfl,rfl⟩)
    rw[ak (ah ⟨dc,g⟩)];exact Iw W p cap w g
   by_cases h:0<d.length
   ·rw[ak (af ⟨dc,h⟩)];exact BV 3 W d.length p cap w (ah rfl) h
   obtain rfl:d=[]:=iG.1 om;rw[ag sm];cases g:dL W 0 255 with
  |false=>
    rw[ak rfl];exact Jg W p cap w g
  |true=>
    rw[ag sm,ag sm,ak List.all_nil];exact Ct 3 W p cap w (ah ⟨rfl,g⟩)
end
section
open Go.RowKit
def fu(l:List UInt8):List Value:=l.map λx=>I .u8 (x.toNat:Int)
theorem wE(l:List UInt8):(fu l).length=l.length:=by simp[fu]
theorem Ii(l m:List UInt8):fu (l++m)=fu l++fu m:=by simp[fu]
structure iZ (V:Ω) (base:Nat) (v:Value) (l:List UInt8):Prop where
 a:V.ownsRow base 5 1 v l.length (fu l)
theorem iZ.e(V:Ω)(a:Nat):iZ V a (M J 0 0) []:=⟨fH _ _ _ _⟩
theorem sh(g j:Nat):(⟨g,0,J⟩:Addr).add j=⟨g,j,J⟩:=by unfold Addr.add;split<;>simp_all
theorem iZ.c{V:Ω}{b:Nat}{v:Value}{l:List UInt8}(h:iZ V b v l)(e:l≠[]):∃g d,v=M (O ⟨g,0,J⟩) l.length d/\b<=g/\g<V.1.size/\∀j x,l[j]?=O x->V.cell? ⟨g,j,J⟩=O (I .u8 (x.toNat:Int)):=by
 obtain⟨g,d,rfl,f,i⟩:=h.a.form (jl.2 e);refine⟨g,d,rfl,f,i,λj x k=>?_⟩;have:=h.a.cells (g:=g) rfl j (I .u8 (x.toNat:Int)) (by unfold fu;rw[eE,k];rfl)
 rwa [sh]at this
theorem tE{e:TypeId}{z:Value}{a b:Nat}(h:(prog.info? e).map (λi=>(i.zero,i.size,i.bytes))=O (O z,a,b)):∃i,prog.info? e=O i/\i.zero=O z/\i.size=a/\i.bytes=b:=by
 cases hi:prog.info? e with
 |none=>rw[hi]at h;cases h
 |some i=>
  rw[hi]at h;simp at h;exact⟨i,rfl,h.1,h.2.1,h.2.2⟩
theorem FT:(prog.info? 5).map (λi=>(i.zero,i.size,i.bytes))=O (O (I .u8 0),1,1):=kr
theorem wP(l:List UInt8)(x:UInt8):gI (l++[x])=gI l+x.toNat:=by simp[gI]
theorem Cb(l:List UInt8)(g cap:Nat)(w:Ω)(q:l.length<=100)(h:∀j x,l[j]?=O x->w.cell? ⟨g,j,J⟩=O (I .u8 (x.toNat:Int))):
  Φ prog 145 #[M (O ⟨g,0,J⟩) l.length cap] w λe r=>e=N (I .u8 ((ii l).toNat:Int))/\r=w:=by
 obtain⟨R,c⟩:∃R:Int,R=((ii l).toNat:Int):=⟨_,rfl⟩;rw[<-c];have p:=hid c;have v:=hid h;clear c h;obtain⟨n,d⟩:∃n,n=l.length:=⟨_,rfl⟩;rw[<-d]at q⊢;have f:=hid d;go_enter func145,ntmps145;go_wp2;go_loopw [3,4,7] (λs _ i V=>∃k:Nat,k<=n/\i=I Q k/\s=I .u8 ((gI (l.take k)%256:Nat):Int)/\V=w) (λ_ _ i _=>n-(intOf i).toNat)
 case atStart=>exact⟨0,aX _,rfl,rfl,rfl⟩
 obtain⟨k,z,rfl,rfl,rfl⟩:=hrel;by_cases b:k<n
 ·have m:(k:Int)<n:=om;have a:k<l.length:=(by rw[<-f.o];exact b);have y:=v.o k _ (bc a);have t:H (gI (l.take (k+1))=gI (l.take k)+l[k].toNat):=(by show _=_;rw[iA a,wP]);generalize gI (l.take k)=S at *;generalize l[k].toNat=x at *;go_wp2;go_roundw
  case rel=>refine⟨k+1,om,by go_num,?_,aN⟩;rw[t.o];congr 1;omega
  simp[intOf];omega
 obtain rfl:k=n:=om;have u:H (l.take k=l):=(by show _=_;rw[f.o,eL]);go_wp2;go_ret;refine⟨?_,rfl⟩;rw[p.o,u.o];show Ending.returned (I .u8 (255-(gI l:Int)%256))=_;have:((ii l).toNat:Int)=255-(gI l:Int)%256:=(by unfold ii;rw[UInt8.toNat_ofNat'];omega);rw[this]
theorem iZ.b{V:Ω}{a n m:Nat}{v:Value}{l:List UInt8}{c:List Value}{r:List UInt8}(h:V.ownsRow a 5 1 v n (fu l++c))(d:n=l.length+m)(e:m=r.length)(hy:c=fu r):iZ V a v (l++r):=by subst d e hy;exact⟨by rw[bU,Ii];exact h⟩
theorem iZ.d{V:Ω}{c b:Nat}{v:Value}{l:List UInt8}(h:iZ V c v l)(i:b<=c):iZ V b v l:=
 ⟨h.a.1,h.a.2.elim af (λ⟨g,f,e,j,k,r⟩=>ah ⟨g,f,e,j,aP i k,r⟩)⟩
theorem Jh(f:bf)(p:Option Addr)(cap:Nat)(w:Ω)(hr:de w p f.a)(hok:eC f):
  Φ prog 144 #[.agg #[I Q f.b,M p f.a.length cap,I Q f.c]] w λe w'=>∃v,e=N v/\iZ w' w.1.size v (cr f)/\(cr f=[]->v=M J 0 0)/\B w.1.size w w':=by
 obtain⟨q,hB⟩:∃q,q=cr f:=⟨_,rfl⟩;rw[<-hB];have HB:=hid hB;have HR:=hid hr;have HO:=hid hok;obtain⟨T,x,W⟩:=f;simp only at HR⊢;obtain⟨n,hn⟩:∃n,n=x.length:=⟨_,rfl⟩;have h4:n<=4:=by rw[hn];exact HO.o.c
 rw[<-hn];have HN:=hid hn;clear hn;obtain⟨i0,hi,hz0,a1,X⟩:=tE FT;go_enter func144,ntmps144;go_wp2;go_loopw [3,5,9] (λu _ i V=>∃k:Nat,k<=n/\i=I Q k/\iZ V (w.1.size+1) u (dh (x.take k))/\(k=0->u=M J 0 0)/\B (w.1.size+1) (w.alloc (Δ #[I Q T,M p n cap,I Q W] 105)) V) (λ_ _ i _=>n-(intOf i).toNat)
 case atStart=>exact⟨0,aX _,rfl,iZ.e _ _,λ_=>rfl,aj _ _⟩
 obtain⟨k,hk,rfl,K,S,A⟩:=hrel;by_cases hlt:k<n
 ·have hkI:(k:Int)<n:=om;have E:k<x.length:=(by rw[<-HN.o];exact hlt);obtain⟨b,o,rfl,hb,hc⟩:=HR.o.c (by intro e;rw[e]at E;simp at E);have hrd:=(hc k _ (bc E)).a ((A.block b om).trans (cX w _ b hb));have hrk:=HO.o.a _ (eG E);have HE:H (dh (x.take (k+1))=dh (x.take k)++[bp x[k].b,bp x[k].d,bp x[k].e]++x[k].c.1.toList):=(by show _=_;unfold dh;rw[iA E,List.flatMap_append];simp[nE]);have HL:H ((dh (x.take k)).length=11*k):=(by show _=_;rw[tN (λr hr=>HO.o.d r (List.mem_of_mem_take hr)),fj,Nat.min_eq_left (gv E)]);have HU:H (((bp x[k].b).toNat:Int)=x[k].b%256/\((bp x[k].d).toNat:Int)=x[k].d%256/\((bp x[k].e).toNat:Int)=x[k].e%256):=⟨n9 _,n9 _,n9 _⟩;obtain⟨c0,c1,c2,c3⟩:=hrd;have HBL:=hid A;have hsz:w.1.size+1<=wr.1.size:=(by have:=A.size;simpa using this);have z:=K.a;have h8:=hid hrk.2.2.2;generalize x[k]=r at *;obtain⟨a,s,g,t⟩:=r;simp only at *;clear K S hc A hrk hb;have hl0:(dh (x.take k)).length<=44:=(by rw[HL.o];omega);go_wp2_with (at_builtin;refine pN _ rfl _ _ 117 rfl (w.1.size+1) 5 i0 (I .u8 0) 1 1 underlying117 hi hz0 a1 X rfl dc _ _ _ rfl ((z.alloc _).alloc _) ⟨wr.1.size+1,0,J⟩ 3 3 [I .u8 (a%256),I .u8 (s%256),I .u8 (g%256)] rfl rfl ?q1 ?q2 ?q3 ?q4 ?q5 ?_)
  case q1=>
   intro j u D
   match j,D with
  |0,D=>simp at D;subst D;simp[Addr.add]
  |1,D=>simp at D;subst D;simp[Addr.add]
  |2,D=>simp at D;subst D;simp[Addr.add]
  case q2=>intro u hu;simp at hu;rcases hu with rfl|rfl|rfl<;>rfl
  case q3=>unfold maxLen;omega
  case q4=>omega
  case q5=>simp;omega
  intro v1 w1 C y _;have G:iZ w1 (w.1.size+1) v1 (dh (x.take k)++[bp a,bp s,bp g]):=iZ.b (m:=3) C rfl rfl (by simp[fu,HU.o.1,HU.o.2.1,HU.o.2.2]);have P:=((HBL.o.l om _).l (by simp;omega) _).grown y (by simp;omega) (λk hk=>(z.lt k hk).1);have cT:w1.cell? ⟨wr.1.size,3,J⟩=O (Z t):=y.cell sm (by intro e;have:=(z.lt _ e.symm).2;simp at this);have U:=hid P;have hsz1:w.1.size+1<=w1.1.size:=(by have:=P.size;simpa using this);have F:=G.a;have hl1:(dh (x.take k)++[bp a,bp s,bp g]).length<=47:=(by rw[bU];simp;omega);go_wp2_with (at_builtin;refine Lib.wpList_append_own_string _ rfl _ _ 117 9 rfl (w.1.size+1) 5 i0 underlying117 underlying9 hi hz0 a1 X _ _ _ rfl F t rfl ?r1 ?r2 ?r3 ?_)
  case r1=>have:=h8.o;unfold maxLen;omega
  case r2=>have:=h8.o;omega
  case r3=>omega
  intro v2 w2 a0 L _;have R:=iZ.b (m:=t.size) a0 sm sm rfl;have hB2:=U.o.grown L hsz1 (λk hk=>(F.lt k hk).1);rw[<-HE.o]at R;have HBY2:=hid R;have HB2:=hid hB2;go_wp2;go_roundw
  case rel=>exact⟨k+1,om,by go_num,HBY2.o,λh=>by omega,HB2.o⟩
  simp[intOf];omega
 obtain rfl:k=n:=om;have hT:H (x.take k=x):=(by show _=_;rw[HN.o,eL]);rw[hT.o]at K;have hbx0:wr.cell? ⟨w.1.size,0,J⟩=O (I Q T):=dC A sm sm;have hbx2:wr.cell? ⟨w.1.size,2,J⟩=O (I Q W):=dC A sm sm;have hsz:w.1.size+1<=wr.1.size:=(by have:=A.size;simpa using this);have HB0:=hid (((aj _ w).l nl _).t (A.m om));have HBY:=hid K;have HNIL:=hid S;have z:=K.a;have hl0:H ((dh x).length=11*k):=(by show _=_;rw[tN HO.o.d,HN.o]);have HU:H (((bp W).toNat:Int)=W%256):=n9 _;by_cases h3:T=3
 ·subst h3;have hl1:(dh x).length<=44:=(by have:=hl0.o;omega);go_wp2_with (at_builtin;refine pN _ rfl _ _ 117 rfl (w.1.size+1) 5 i0 (I .u8 0) 1 1 underlying117 hi hz0 a1 X rfl dc _ _ _ rfl (z.alloc _) ⟨wr.1.size,0,J⟩ 1 1 [I .u8 (W%256)] rfl rfl ?s1 ?s2 ?s3 ?s4 ?s5 ?_)
  case s1=>
   intro j u D
   match j,D with
  |0,D=>simp at D;subst D;simp[Addr.add]
  case s2=>intro u hu;simp at hu;subst hu;rfl
  case s3=>unfold maxLen;omega
  case s4=>omega
  case s5=>simp;omega
  intro v1 w1 C y _;have G:iZ w1 (w.1.size+1) v1 (dh x++[bp W]):=iZ.b (m:=1) C rfl rfl (by simp[fu,HU.o]);have P:=(HB0.o.l om _).grown y (by simp;omega) (λk hk=>gv (z.lt k hk).1);have HBY1:=hid G;have U:=hid P;have HE:H (cr ⟨3,x,W⟩=dh x++[bp W]):=rfl;go_wp2;go_ret;refine⟨_,rfl,?_,?_,U.o⟩
  ·rw[HB.o,HE.o];exact HBY1.o.d om
  intro h;rw[HB.o,HE.o]at h;simp at h
 have hT3:(T == 3)=false:=(by simpa using h3);have HE:H (cr ⟨T,x,W⟩=dh x):=(by show _=_;simp[cr,h3]);go_wp2;go_ret;refine⟨_,rfl,?_,?_,HB0.o⟩
 ·rw[HB.o,HE.o];exact HBY.o.d om
 intro h;rw[HB.o,HE.o]at h;have:=hl0.o;rw[h]at this;exact HNIL.o (by simp at this;omega)
end
section
open Go.RowKit
def aM(l:List UInt8):ByteArray:=⟨l.toArray⟩
theorem nA(l:List UInt8):(aM l).size=l.length:=by simp[aM,ByteArray.size]
theorem ny(l:List UInt8):(aM l).1.toList=l:=rfl
def mg(f:bf):ByteArray:=if ch f=0 then aM (aJ f) else ⟨#[]⟩
theorem de.e{w:Ω}{p:Option Addr}{rs:List dr}(h:de w p rs)(o:Obj):de (w.alloc o) p rs:=h.a ((aj _ w).l nl o) nl
theorem J1(f:bf)(p:Option Addr)(cap:Nat)(w:Ω)(j:de w p f.a)(i:ch f≠0):
  Φ prog 105 #[.agg #[I Q f.b,M p f.a.length cap,I Q f.c]] w λe h=>e=N (Ψ #[Z ⟨#[]⟩,k9 (ch f)])/\B w.1.size w h:=by
 have g:=xc i;have n:=hid j;go_enter func105,ntmps105;go_wp2_with fail;refine(CW f p cap _ (n.o.e _)).m ?_;rintro e q ⟨rfl,d⟩;have k:=hid (((aj _ w).l nl _).t (d.m sm));rw[g];go_wp2;go_ret2;exact⟨by rw[g];rfl,k.o⟩
theorem Ji{l:List UInt8}{i:Nat}(h:i<l.length):(l.map λx=>(x.toNat:Int)).getD i 0=(l[i].toNat:Int):=by rw[en,eE,bc h];rfl
theorem Ij(l:List UInt8):strOfNums (l.map λx=>(x.toNat:Int))=aM l:=by
 unfold strOfNums aM;congr 2;rw[List.map_map]
 conv=>rhs;rw[<-List.map_id l]
 apply tw;intro x _;simp
theorem yO{V:Ω}{l:List UInt8}{g cap n:Nat}(c:n=l.length)(b:∀j x,l[j]?=O x->V.cell? ⟨g,j,J⟩=O (I .u8 (x.toNat:Int))):
  (convert 117 9 (M (O ⟨g,0,J⟩) n cap)).run prog V=.ok (Z (aM l)) V:=by
 subst c;rw[<-Ij];exact run_convert_bytes_arg (P:=prog) V 117 5 underlying117 underlying5 g 0 l.length cap _ sm (λi a=>by rw[dj,Ji a];exact b i _ (bc a)) 9 underlying9
theorem Ad(w:Ω)(l:List UInt8)(a n:Nat)(e:a<=w.1.size)(f:l.length<=100)(d:n=l.length)(b:Array Value)(c:b.toList=fu l):iZ (w.alloc (Δ b 5)) a (M (O ⟨w.1.size,0,J⟩) n n) l:=by
 subst d;refine⟨by rw[wE];omega,.inr ⟨w.1.size,l.length,b,rfl,e,bn w _,aa _,by unfold maxLen;omega,?_,?_⟩⟩
 ·rw[<-Array.length_toList,c,wE];omega
 rw[c,ip];rw[wE];omega
theorem Lp(f:bf)(p:Option Addr)(cap:Nat)(w:Ω)(hr:de w p f.a)(a0:eC f):
  Φ prog 105 #[.agg #[I Q f.b,M p f.a.length cap,I Q f.c]] w λe w'=>e=N (Ψ #[Z (aM (aJ f)),.nilIface])/\B w.1.size w w':=by
 have he:k9 (ch f)=.nilIface:=by rw[nu.2 a0];rfl
 have HR:=hid hr;have HO:=hid a0;have hbl:=xr a0;obtain⟨i0,hi,V,T,P⟩:=tE FT;go_enter func105,ntmps105;go_wp2_with fail;refine(CW f p cap _ (HR.o.e _)).m ?_;rintro e w1 ⟨rfl,A⟩;rw[he];have c0:w1.cell? ⟨w.1.size,0,J⟩=O (I Q f.b):=dC A sm sm;have c1:w1.cell? ⟨w.1.size,1,J⟩=O (M p f.a.length cap):=dC A sm sm;have c2:w1.cell? ⟨w.1.size,2,J⟩=O (I Q f.c):=dC A sm sm;have HR1:=hid ((HR.o.e _).a A nl);have HB1:=hid (((aj _ w).l nl _).t (A.m sm));have hs1:w.1.size<w1.1.size:=by have:=A.size;simp at this;omega
 go_wp2_with fail;refine(Jh f p cap _ HR1.o HO.o).m ?_;rintro e d ⟨v,rfl,C,hnil,L⟩;have d0:=dC L hs1 c0;have HB2:=hid (HB1.o.t (L.m om));have hs2:=L.size;have E:H (dt f=[165,bp (cr f).length,bp f.b]++cr f):=rfl;have hU:H ((((bp (cr f).length).toNat:Int)=(cr f).length)/\(((bp f.b).toNat:Int)=f.b%256)):=⟨pa om om,n9 _⟩
 have hvl:∃a c,v=M a (cr f).length c:=by
  rcases C.a.2 with ⟨h,h0⟩|⟨g,cp,cur,h,_⟩
  ·rw[h,h0];exact⟨J,0,rfl⟩
  exact⟨_,_,h⟩
 obtain⟨va,vc,rfl⟩:=hvl;by_cases F:cr f=[]
 case pos=>
  obtain⟨rfl,rfl⟩:va=J/\vc=0:=by have:=hnil F;simp at this;exact⟨this.1,this.2.2⟩
  have hl0:(cr f).length=0:=by rw[F];rfl
  rw[hl0]
  have C:iZ (d.alloc (Δ #[I .u8 165,I .u8 0,I .u8 (f.b%256)] 5)) d.1.size (M (O ⟨d.1.size,0,J⟩) 3 3) [165,bp 0,bp f.b]:=
   Ad d _ _ 3 nl sm rfl _ (by simp[fu,hU.o.2];rfl)
  have s:H (aJ f=[165,bp 0,bp f.b]++[ii [165,bp 0,bp f.b]]):=by show _=_;unfold aJ;rw[E.o,F];rfl
  have i:=C.a;go_wp2_with fail;refine(Cb [165,bp 0,bp f.b] d.1.size 3 _ sm ?_).m ?_
  ·intro j x hx;have:=i.cells (g:=d.1.size) rfl j (I .u8 (x.toNat:Int)) (by unfold fu;rw[eE,hx];rfl)
   rwa [sh]at this
  rintro e w4 ⟨rfl,rfl⟩;generalize ii [165,bp 0,bp f.b]=c at *;go_wp2_with (at_builtin;refine pN _ rfl _ _ 117 rfl d.1.size 5 i0 (I .u8 0) 1 1 underlying117 hi V T P rfl dc _ _ _ rfl (i.alloc _) ⟨d.1.size+1,0,J⟩ 1 1 [I .u8 (c.toNat:Int)] rfl rfl ?q1 ?q2 ?q3 ?q4 ?q5 ?_)
  case q1=>
   intro j u q
   match j,q with
  |0,q=>simp at q;subst q;simp[Addr.add]
  case q2=>intro u R;simp at R;subst R;rfl
  case q3=>unfold maxLen;simp
  case q4=>simp
  case q5=>simp;omega
  intro v5 w5 y n _;have r:iZ w5 d.1.size v5 ([165,bp 0,bp f.b]++[c]):=iZ.b (m:=1) y rfl rfl rfl;have U:=((HB2.o.l om _).l (by simp;omega) _).grown n (by simp;omega) (λk hk=>by have:=(i.lt k hk).1;omega);rw[<-s.o]at r;obtain⟨g5,c5,rfl,_,_,X⟩:=r.c (by rw[s.o];simp);have hcv:=yO (cap:=c5) rfl X;have K:=hid U;go_wp2;go_ret2;exact⟨rfl,K.o⟩
 obtain⟨g,vc',hv,hg1,hg2,hcg⟩:=C.c F;obtain⟨rfl,rfl⟩:va=O ⟨g,0,J⟩/\vc=vc':=by simp at hv;exact⟨hv.1,hv.2⟩
 have C:iZ (d.alloc (Δ #[I .u8 165,I .u8 (cr f).length,I .u8 (f.b%256)] 5)) d.1.size (M (O ⟨d.1.size,0,J⟩) 3 3) [165,bp (cr f).length,bp f.b]:=
  Ad d _ _ 3 nl sm rfl _ (by simp[fu,hU.o.2,hU.o.1])
 have i:=C.a;have hBL:H (fu (cr f)=fu (cr f)):=rfl;have hlen:(fu (cr f)).length=(cr f).length*1:=by rw[wE];omega
 have hcg':∀j u,(fu (cr f))[j]?=O u->(d.alloc (Δ #[I .u8 165,I .u8 (cr f).length,I .u8 (f.b%256)] 5)).cell? ((⟨g,0,J⟩:Addr).add j)=O u:=by
  intro j u q;rw[sh];unfold fu at q;rw[eE]at q;cases hx:(cr f)[j]? with
 |none=>rw[hx]at q;cases q
 |some x=>
   rw[hx]at q;simp at q;subst q;rw[bW (w:=d) (cX d _ g hg2)];exact hcg j x hx
 have HC:=hid hcg';have HLE:=hid hlen;have HONE:H (∀u∈fu (cr f),u.oneCell'=true):=by intro u R;obtain⟨x,_,rfl⟩:=iH.1 R;rfl
 go_wp2_with (at_builtin;refine pN _ rfl _ _ 117 rfl d.1.size 5 i0 (I .u8 0) 1 1 underlying117 hi V T P rfl dc _ _ _ rfl i ⟨g,0,J⟩ (cr f).length vc (fu (cr f)) rfl HLE.o HC.o HONE.o ?q3 ?q4 ?q5 ?_)
 case q3=>unfold maxLen;simp;omega
 case q4=>simp;omega
 case q5=>simp
 intro v3 w3 S z _;have G:iZ w3 d.1.size v3 (dt f):=by rw[E.o];exact iZ.b (m:=(cr f).length) S rfl rfl rfl
 have hB3:=(HB2.o.l om _).grown z (by simp;omega) (λk hk=>by have:=(i.lt k hk).1;omega);have HB3:=hid hB3;have hs3:d.1.size<=w3.1.size:=by have:=z.size;simp at this;omega
 have W:H ((dt f).length=3+(cr f).length):=by show _=_;rw[E.o];simp;omega
 have hh0:H (dt f≠[]):=by show _≠_;rw[E.o];simp
 obtain⟨g3,c3,rfl,_,_,hc3⟩:=G.c hh0.o;have HC3:=hid hc3;have D:=G.a;go_wp2_with fail;refine(Cb (dt f) g3 c3 _ (by have:=W.o;omega) HC3.o).m ?_;rintro e w4 ⟨rfl,rfl⟩;have s:H (aJ f=dt f++[ii (dt f)]):=rfl;generalize ii (dt f)=c at *;go_wp2_with (at_builtin;refine pN _ rfl _ _ 117 rfl d.1.size 5 i0 (I .u8 0) 1 1 underlying117 hi V T P rfl dc _ _ _ rfl (D.alloc _) ⟨w4.1.size,0,J⟩ 1 1 [I .u8 (c.toNat:Int)] rfl rfl ?r1 ?r2 ?r3 ?r4 ?r5 ?_)
 case r1=>
  intro j u q
  match j,q with
 |0,q=>simp at q;subst q;simp[Addr.add]
 case r2=>intro u R;simp at R;subst R;rfl
 case r3=>have:=W.o;unfold maxLen;omega
 case r4=>have:=W.o;omega
 case r5=>simp;omega
 intro v5 w5 y n _;have r:iZ w5 d.1.size v5 (dt f++[c]):=iZ.b (m:=1) y rfl rfl rfl;have U:=(HB3.o.l om _).grown n (by simp;omega) (λk hk=>by have:=(D.lt k hk).1;omega);rw[<-s.o]at r;obtain⟨g5,c5,rfl,_,_,X⟩:=r.c (by rw[s.o];simp);have hcv:=yO (cap:=c5) rfl X;have K:=hid U;go_wp2;go_ret2;exact⟨rfl,K.o⟩
theorem CX(f:bf)(p:Option Addr)(cap:Nat)(w:Ω)(h:de w p f.a):
  Φ prog 105 #[.agg #[I Q f.b,M p f.a.length cap,I Q f.c]] w λe i=>e=N (Ψ #[Z (mg f),k9 (ch f)])/\B w.1.size w i:=by
 by_cases d:ch f=0
 ·have g:mg f=aM (aJ f):=by unfold mg;rw[ak d]
  have j:k9 (ch f)=.nilIface:=by rw[d];rfl
  rw[g,j];exact Lp f p cap w h (nu.1 d)
 have g:mg f=⟨#[]⟩:=by unfold mg;rw[ag d]
 rw[g];exact J1 f p cap w h d
end
section
open Go.RowKit
theorem vD{n a b:Int}(h:dL n a b=false):decide (n<a)=true\/(decide (n<a)=false/\decide (b<n)=true):=by
 by_cases c:n<a
 ·exact af (by simpa using c)
 refine ah ⟨by simpa using c,?_⟩;have:¬(a<=n/\n<=b):=λd=>by rw[p9.2 d]at h;cases h
 simp;omega
theorem xw{n b a:Int}(h:dL n b a=true):decide (n<b)=false/\decide (a<n)=false:=by have:=p9.1 h;simp;omega
theorem Rh(T W:Int)(n:Nat)(p:Option Addr)(cap:Nat)(w:Ω)(h:dL T 1 3=false):
  Φ prog 38 #[.agg #[I Q T,M p n cap,I Q W]] w λe a=>e=N (I Q 1)/\B w.1.size w a:=by
 rcases vD h with h1|⟨h1,h2⟩
 ·clear h;go_enter func38,ntmps38;go_wp2;go_ret;exact⟨rfl,ba⟩
 clear h;go_enter func38,ntmps38;go_wp2;go_ret;exact⟨rfl,ba⟩
theorem J2(W:Int)(n:Nat)(p:Option Addr)(cap:Nat)(w:Ω)(h:W≠0):
  Φ prog 38 #[.agg #[I Q 1,M p n cap,I Q W]] w λe a=>e=N (I Q 3)/\B w.1.size w a:=by
 have b:(W == 0)=false:=by simpa using h
 go_enter func38,ntmps38;go_wp2;go_ret;exact⟨rfl,ba⟩
theorem J4(W:Int)(p:Option Addr)(cap:Nat)(w:Ω)(h:W≠0):
  Φ prog 38 #[.agg #[I Q 2,M p 0 cap,I Q W]] w λe a=>e=N (I Q 3)/\B w.1.size w a:=by
 have b:(W == 0)=false:=by simpa using h
 go_enter func38,ntmps38;go_wp2;go_ret;exact⟨rfl,ba⟩
theorem CY(T W:Int)(n:Nat)(p:Option Addr)(cap:Nat)(w:Ω)(h:T=2\/T=3)(c:0<n):
  Φ prog 38 #[.agg #[I Q T,M p n cap,I Q W]] w λe a=>e=N (I Q 3)/\B w.1.size w a:=by
 have b:decide ((0:Int)<n)=true:=by simp;omega
 rcases h with rfl|rfl
 ·go_enter func38,ntmps38;go_wp2;go_ret;exact⟨rfl,ba⟩
 go_enter func38,ntmps38;go_wp2;go_ret;exact⟨rfl,ba⟩
theorem Nn(W:Int)(p:Option Addr)(cap:Nat)(w:Ω)(h:dL W 0 255=false):
  Φ prog 38 #[.agg #[I Q 3,M p 0 cap,I Q W]] w λe a=>e=N (I Q 1)/\B w.1.size w a:=by
 rcases vD h with h1|⟨h1,h2⟩
 ·clear h;go_enter func38,ntmps38;go_wp2;go_ret;exact⟨rfl,ba⟩
 clear h;go_enter func38,ntmps38;go_wp2;go_ret;exact⟨rfl,ba⟩
theorem Nm(n:Nat)(p:Option Addr)(cap:Nat)(w:Ω)(h:4<n):
  Φ prog 38 #[.agg #[I Q 1,M p n cap,I Q 0]] w λe a=>e=N (I Q 2)/\B w.1.size w a:=by
 have b:(4:Int)<n:=om;go_enter func38,ntmps38;go_wp2;go_ret;exact⟨rfl,ba⟩
theorem Lq(p:Option Addr)(cap:Nat)(w:Ω):
  Φ prog 38 #[.agg #[I Q 2,M p 0 cap,I Q 0]] w λe a=>e=N (I Q 0)/\B w.1.size w a:=by
 go_enter func38,ntmps38;go_wp2;go_loopw [3,4] (λi _ V=>i=I Q 0/\V=w.alloc (Δ #[I Q 2,M p 0 cap,I Q 0] 105)) (λ_ _ _=>0)
 case atStart=>exact⟨rfl,rfl⟩
 obtain⟨rfl,rfl⟩:=hrel;go_wp2;go_ret;exact⟨rfl,ba⟩
theorem Lr(W:Int)(p:Option Addr)(cap:Nat)(w:Ω)(h:dL W 0 255=true):
  Φ prog 38 #[.agg #[I Q 3,M p 0 cap,I Q W]] w λe a=>e=N (I Q 0)/\B w.1.size w a:=by
 obtain⟨b,c⟩:=xw h;clear h;go_enter func38,ntmps38;go_wp2;go_loopw [3,4] (λi _ V=>i=I Q 0/\V=w.alloc (Δ #[I Q 3,M p 0 cap,I Q W] 105)) (λ_ _ _=>0)
 case atStart=>exact⟨rfl,rfl⟩
 obtain⟨rfl,rfl⟩:=hrel;go_wp2;go_ret;exact⟨rfl,ba⟩
def Rg(r:dr):Prop:=
 decide (r.b<0)=true
 \/ (decide (r.b<0)=false/\decide (3<r.b)=true)
 \/ (decide (r.b<0)=false/\decide (3<r.b)=false/\decide (r.d<0)=true)
 \/ (decide (r.b<0)=false/\decide (3<r.b)=false/\decide (r.d<0)=false/\decide (255<r.d)=true)
 \/ (decide (r.b<0)=false/\decide (3<r.b)=false/\decide (r.d<0)=false/\decide (255<r.d)=false/\decide (r.e<0)=true)
 \/ (decide (r.b<0)=false/\decide (3<r.b)=false/\decide (r.d<0)=false/\decide (255<r.d)=false/\decide (r.e<0)=false/\decide (255<r.e)=true)
 \/ (decide (r.b<0)=false/\decide (3<r.b)=false/\decide (r.d<0)=false/\decide (255<r.d)=false/\decide (r.e<0)=false/\decide (255<r.e)=false/\((r.c.size:Int) != 8)=true)
theorem Ri{r:dr}(h:fy r=false):Rg r:=by
  cases h1:dL r.b 0 3 with
 |false=>
   rcases vD h1 with h|⟨h,h'⟩
   ·exact af h
   exact ah (af ⟨h,h'⟩)
 |true=>
   obtain⟨a,c⟩:=xw h1;cases h2:dL r.d 0 255 with
  |false=>
    rcases vD h2 with h|⟨h,h'⟩
    ·exact ah (ah (af ⟨a,c,h⟩))
    exact ah (ah (ah (af ⟨a,c,h,h'⟩)))
  |true=>
    obtain⟨f,g⟩:=xw h2;cases h3:dL r.e 0 255 with
   |false=>
     rcases vD h3 with h|⟨h,h'⟩
     ·exact ah (ah (ah (ah (af ⟨a,c,f,g,h⟩))))
     exact ah (ah (ah (ah (ah (af ⟨a,c,f,g,h,h'⟩)))))
   |true=>
     obtain⟨j,i⟩:=xw h3;refine ah (ah (ah (ah (ah (ah ⟨a,c,f,g,j,i,?_⟩)))));simp[fy,h1,h2,h3]at h;simp;omega
theorem PM{r:dr}(h:fy r=true):decide (r.b<0)=false/\decide (3<r.b)=false/\decide (r.d<0)=false/\decide (255<r.d)=false/\decide (r.e<0)=false/\decide (255<r.e)=false/\((r.c.size:Int) == 8)=true:=by have:=za.1 h;simp;omega
theorem Ls(rs:List dr)(p:Option Addr)(cap:Nat)(w:Ω)(h:rs.length<=4)(hr:de w p rs):
  Φ prog 38 #[.agg #[I Q 1,M p rs.length cap,I Q 0]] w λe w'=>e=N (I Q ((if rs.all fy=true then 0 else 1:Nat):Int))/\B w.1.size w w':=by
 have HR:H (de w p rs):=hr;clear hr;obtain⟨R,U⟩:∃R:Int,R=((if rs.all fy=true then 0 else 1:Nat):Int):=⟨_,rfl⟩;have z:H (R=((if rs.all fy=true then 0 else 1:Nat):Int)):=U;rw[<-U];clear U;obtain⟨n,P⟩:∃n,n=rs.length:=⟨_,rfl⟩;rw[<-P]at h⊢;have HN:H (n=rs.length):=P;have hI:¬(4:Int)<n:=om;clear P;go_enter func38,ntmps38;go_wp2;go_loopw [3,4] (λi _ V=>∃k:Nat,k<=n/\i=I Q k/\B (w.1.size+1) (w.alloc (Δ #[I Q 1,M p n cap,I Q 0] 105)) V/\(rs.take k).all fy=true) (λi _ _=>n-(intOf i).toNat)
 case atStart=>exact⟨0,aX _,rfl,aj _ _,rfl⟩
 obtain⟨k,hk,rfl,f,j⟩:=hrel;have bx1:wr.cell? ⟨w.1.size,1,J⟩=O (M p n cap):=dC f sm sm;by_cases K:k<n
 ·have hkI:(k:Int)<n:=om;have q:k<rs.length:=(by rw[<-HN.o];exact K);obtain⟨b,o,rfl,W,hc⟩:=HR.o.c (by intro e;rw[e]at q;simp at q);have F:=(hc k _ (bc q)).a ((f.block b om).trans (cX w _ b W));obtain⟨c0,c1,c2,c3⟩:=F;have T:H (B w.1.size w wr):=((aj _ w).l nl _).t (f.m om);have S:H (B (w.1.size+1) (w.alloc (Δ #[I Q 1,M (O ⟨b,o,J⟩) n cap,I Q 0] 105)) wr):=f;have hsz:w.1.size+1<=wr.1.size:=(by have:=f.size;simpa using this);have L:H ((rs.take k).all fy=true):=j;have HK:H (rs.take (k+1)=rs.take k++[rs[k]]):=iA q;have HD:H (rs.all fy=true->fy rs[k]=true):=λh=>kQ.1 h _ (eG q);clear f hc j W;cases hok:fy rs[k]
  ·have E:R=1:=(by rw[z.o,ag (λh=>by have:=HD.o h;rw[hok]at this;cases this)];rfl);subst E;have y:=Ri hok;have u:B w.1.size w (wr.alloc (Δ #[I Q rs[k].b,I Q rs[k].d,I Q rs[k].e,Z rs[k].c] 102)):=T.o.l om _;have HF:H (B w.1.size w (wr.alloc (Δ #[I Q rs[k].b,I Q rs[k].d,I Q rs[k].e,Z rs[k].c] 102))):=u;clear hok u HD HK;generalize rs[k]=r at *;obtain⟨a,s,g,t⟩:=r;simp only at *;rcases y with v|⟨v,x⟩|⟨v,x,A⟩|⟨v,x,A,C⟩|⟨v,x,A,C,G⟩|⟨v,x,A,C,G,X⟩|⟨v,x,A,C,G,X,h6⟩
   all_goals (go_wp2;go_ret;exact⟨rfl,HF.o⟩)
  obtain⟨v,x,A,C,G,X,h6⟩:=PM hok;have D:H (fy rs[k]=true):=hok;clear hok;generalize rs[k]=r at *;obtain⟨a,s,g,t⟩:=r;simp only at *;go_wp2;go_roundw
  case rel=>refine⟨k+1,om,by go_num,S.o.l om _,?_⟩;rw[HK.o,List.all_append,L.o];simp[D.o]
  simp[intOf];omega
 obtain rfl:k=n:=om;have L:H ((rs.take k).all fy=true):=j;have T:H (B w.1.size w wr):=((aj _ w).l nl _).t (f.m om);clear f j;go_wp2;go_ret;refine⟨?_,T.o⟩;have:=L.o;rw[HN.o,eL]at this;rw[z.o,ak this];rfl
theorem mN(f:bf)(p:Option Addr)(cap:Nat)(w:Ω)(j:de w p f.a):
   Φ prog 38 #[.agg #[I Q f.b,M p f.a.length cap,I Q f.c]] w λe k=>e=N (I Q (ch f:Int))/\B w.1.size w k:=by
  obtain⟨T,d,W⟩:=f;simp only at j⊢;unfold ch;simp only;cases h1:dL T 1 3 with
 |false=>
   rw[ak rfl];exact Rh T W d.length p cap w h1
 |true=>
   rw[ag sm];have l:=p9.1 h1;rcases(show T=1\/T=2\/T=3 by omega) with rfl|rfl|rfl
   ·by_cases g:W=0
    ·subst g;rw[ag sm,ag dc];by_cases i:4<d.length
     ·rw[ak i];exact Nm d.length p cap w i
     rw[ag i];exact Ls d p cap w om j
    rw[ak (ah ⟨dc,g⟩)];exact J2 W d.length p cap w g
   ·by_cases h:0<d.length
    ·rw[ak (af ⟨dc,h⟩)];exact CY 2 W d.length p cap w (af rfl) h
    obtain rfl:d=[]:=iG.1 om;by_cases g:W=0
    ·subst g;rw[ag sm,ag dc,ag sm,ak List.all_nil];exact Lq p cap w
    rw[ak (ah ⟨dc,g⟩)];exact J4 W p cap w g
   by_cases h:0<d.length
   ·rw[ak (af ⟨dc,h⟩)];exact CY 3 W d.length p cap w (ah rfl) h
   obtain rfl:d=[]:=iG.1 om;rw[ag sm];cases g:dL W 0 255 with
  |false=>
    rw[ak rfl];exact Nn W p cap w g
  |true=>
    rw[ag sm,ag sm,ak List.all_nil];exact Lr W p cap w g
end
section
open Go.RowKit
theorem tG(l m:List UInt8):aM l++aM m=aM (l++m):=by apply ke;simp[aM]
theorem tX(w:Ω)(l:List UInt8)(n g:Nat)(a:Array Value)(j:g=w.1.size)(e:l.length<=100)(i:n=l.length)(f:l≠[])(h:a.toList=fu l):
  (convert 117 9 (M (O ⟨g,0,J⟩) n n)).run prog (w.alloc (Δ a 5))=.ok (Z (aM l)) (w.alloc (Δ a 5)):=by
 subst j;obtain⟨m,k,d,_,_,b⟩:=(Ad w l 0 n (aX _) e i a h).c f;simp at d;obtain⟨rfl,rfl,rfl⟩:=d;exact yO rfl b
theorem ww(l:List UInt8)(k:Nat):gI (l.take k)<=255*k:=by
 induction k with
 |zero=>simp[gI]
 |succ k ih=>
  rcases gQ k l.length with h|h
  ·rw[iA h,wP];have:=l[k].toNat_lt;omega
  rw[ip om];rw[ip h]at ih;omega
theorem Eh(l:List UInt8):((ii l).toNat:Int)=255-(gI l:Int)%256:=by unfold ii;rw[UInt8.toNat_ofNat'];omega
theorem tY(t:ByteArray):aM t.1.toList=t:=by simp[aM]
theorem qp(f:bf)(p:Option Addr)(cap:Nat)(w:Ω)(hr:de w p f.a)(hok:eC f):
  Φ prog 39 #[.agg #[I Q f.b,M p f.a.length cap,I Q f.c]] w λe w'=>e=N (Z (aM (aJ f)))/\B w.1.size w w':=by
 obtain⟨E,hE⟩:∃E,E=aM (aJ f):=⟨_,rfl⟩;rw[<-hE];have HE:H (E=aM (aJ f)):=hE;have HR:H (de w p f.a):=hr;have HO:H (eC f):=hok;clear hE hr hok;obtain⟨T,j,W⟩:=f;simp only at HR⊢;obtain⟨n,hn⟩:∃n,n=j.length:=⟨_,rfl⟩;have h4:n<=4:=by rw[hn];exact HO.o.c
 rw[<-hn];have HN:H (n=j.length):=hn;clear hn;go_enter func39,ntmps39;go_wp2;go_loopw [3,4,5] (λu i _ V=>∃k:Nat,k<=n/\i=I Q k/\u=Z (aM (dh (j.take k)))/\B (w.1.size+1) (w.alloc (Δ #[I Q T,M p n cap,I Q W] 105)) V) (λ_ i _ _=>n-(intOf i).toNat)
 case atStart=>exact⟨0,aX _,rfl,rfl,aj _ _⟩
 obtain⟨k,hk,rfl,rfl,x⟩:=hrel;have bx0:wr.cell? ⟨w.1.size,0,J⟩=O (I Q T):=dC x sm sm;have bx1:wr.cell? ⟨w.1.size,1,J⟩=O (M p n cap):=dC x sm sm;have bx2:wr.cell? ⟨w.1.size,2,J⟩=O (I Q W):=dC x sm sm;have hsz:w.1.size+1<=wr.1.size:=by have:=x.size;simpa using this
 by_cases hlt:k<n
 ·have hkI:(k:Int)<n:=om;have z:k<j.length:=(by rw[<-HN.o];exact hlt);obtain⟨b,o,rfl,hb,hc⟩:=HR.o.c (by intro e;rw[e]at z;simp at z);have hrd:=(hc k _ (bc z)).a ((x.block b om).trans (cX w _ b hb));have hrk:=HO.o.a _ (eG z);have HT:H (dh (j.take (k+1))=dh (j.take k)++[bp j[k].b,bp j[k].d,bp j[k].e]++j[k].c.1.toList):=(by show _=_;unfold dh;rw[iA z,List.flatMap_append];simp[nE]);have R:H (((bp j[k].b).toNat:Int)=j[k].b%256/\((bp j[k].d).toNat:Int)=j[k].d%256/\((bp j[k].e).toNat:Int)=j[k].e%256):=⟨n9 _,n9 _,n9 _⟩;have hl0:(aM (dh (j.take k))).size<=44:=(by rw[nA,tN (λr hr=>HO.o.d r (List.mem_of_mem_take hr)),fj,Nat.min_eq_left (gv z)];omega);have h8:j[k].c.size<=8:=om;have HBL:H (B (w.1.size+1) (w.alloc (Δ #[I Q T,M (O ⟨b,o,J⟩) n cap,I Q W] 105)) wr):=x;obtain⟨c0,c1,c2,c3⟩:=hrd;generalize j[k]=r at *;obtain⟨a,s,g,t⟩:=r;simp only at *;clear hc x hrk hb;have hcv:=tX (wr.alloc (Δ #[I Q a,I Q s,I Q g,Z t] 102)) [bp a,bp s,bp g] 3 (wr.1.size+1) #[I .u8 (a%256),I .u8 (s%256),I .u8 (g%256)] sm sm rfl sm (by simp[fu,R.o.1,R.o.2.1,R.o.2.2]);have hs3:(aM [bp a,bp s,bp g]).size=3:=(by rw[nA];rfl);have HS3:H (aM (dh (j.take (k+1)))=aM (dh (j.take k))++aM [bp a,bp s,bp g]++t):=(by show _=_;rw[HT.o,<-tG,<-tG,tY]);have o1:¬9223372036854775807<(aM (dh (j.take k))).size+3:=om;have o2:¬9223372036854775807<(aM (dh (j.take k))).size+3+t.size:=om;generalize aM (dh (j.take k))=S at *;generalize aM [bp a,bp s,bp g]=S3 at *;go_wp2;go_roundw
  case rel=>refine⟨k+1,om,by go_num,?_,(HBL.o.l om _).l (by simp;omega) _⟩;rw[HS3.o]
  simp[intOf];omega
 obtain rfl:k=n:=om;have hT:H (j.take k=j):=(by show _=_;rw[HN.o,eL]);rw[hT.o];have HB0:H (B w.1.size w wr):=((aj _ w).l nl _).t (x.m om);have HBO:H ((cr ⟨T,j,W⟩).length<=44):=xr HO.o;clear x;by_cases h3:T=3
 ·subst h3;have bx0':∀o,(wr.alloc o).cell? ⟨w.1.size,0,J⟩=O (I Q 3):=λo=>dC ((aj _ wr).l nl o) (by show w.1.size<wr.1.size;omega) bx0;have hrs:j=[]:=HO.o.b (by show (3:Int)≠1;decide);have y:cr ⟨3,j,W⟩=[bp W]:=(by rw[hrs];rfl);have HH:H (dt ⟨3,j,W⟩=[165,1,3]++[bp W]):=(by show _=_;unfold dt;rw[y];rfl);have R:H (((bp W).toNat:Int)=W%256):=n9 _;clear hrs y;have hcv:=tX wr [bp W] 1 wr.1.size #[I .u8 (W%256)] rfl sm rfl sm (by simp[fu,R.o]);have hsW:(aM [bp W]).size=1:=(by rw[nA];rfl);have P:=tX (wr.alloc (Δ #[I .u8 (W%256)] 5)) [165,1,3] 3 (wr.1.size+1) #[I .u8 165,I .u8 1,I .u8 3] sm sm rfl sm (by simp[fu]);have hs3:(aM [165,1,3]).size=3:=(by rw[nA];rfl);have a0:H (aM [165,1,3]++aM [bp W]=aM (dt ⟨3,j,W⟩)):=(by show _=_;rw[tG,HH.o]);generalize aM [bp W]=SW at *;generalize aM [165,1,3]=S3 at *;go_wp2;rw[a0.o];obtain⟨h,F⟩:∃h,h=aM (dt ⟨3,j,W⟩):=⟨_,rfl⟩;rw[<-F];have a1:H (h=aM (dt ⟨3,j,W⟩)):=F;have hHs:h.size<=47:=(by rw[F,nA];have:=HBO.o;simp[dt];omega);have a3:H (h.1.toList=dt ⟨3,j,W⟩):=(by show _=_;rw[F,ny]);clear F hcv P;generalize hWD:(wr.alloc (Δ #[I .u8 (W%256)] 5)).alloc (Δ #[I .u8 165,I .u8 1,I .u8 3] 5)=V0;have D:H (B w.1.size w V0):=(by rw[<-hWD];exact(HB0.o.l om _).l (by simp;omega) _);clear hWD;go_loopw [7,8] (λm i V=>∃k:Nat,k<=h.size/\i=I Q k/\m=I Q (gI (h.1.toList.take k):Int)/\V=V0) (λ_ i _=>h.size-(intOf i).toNat)
  case atStart=>exact⟨0,aX _,rfl,rfl,rfl⟩
  obtain⟨q,hq,rfl,rfl,rfl⟩:=hrel;by_cases U:q<h.size
  ·have hqI:(q:Int)<h.size:=om;have X:q<h.1.toList.length:=(by simpa using U);have HS:H (gI (h.1.toList.take (q+1))=gI (h.1.toList.take q)+h[q].toNat):=(by show _=_;rw[iA X,wP];rfl);have v:=ww h.1.toList q;have hx:=h[q].toNat_lt;have hs2:gI (h.1.toList.take q)<=12000:=om;clear v;generalize gI (h.1.toList.take q)=S at *;go_wp2;go_roundw
   case rel=>exact⟨q+1,om,by go_num,by rw[HS.o];simp,aN⟩
   simp[intOf];omega
  obtain rfl:q=h.size:=om;have L:H (h.1.toList.take h.size=dt ⟨3,j,W⟩):=(by show _=_;rw[<-a3.o];apply ip;simp);rw[L.o];have K:=Eh (dt ⟨3,j,W⟩);have v:=ww h.1.toList h.size;rw[L.o]at v;have a2:H (aM (aJ ⟨3,j,W⟩)=h++aM [ii (dt ⟨3,j,W⟩)]):=(by show _=_;unfold aJ;rw[<-tG,a1.o]);have hs1:(aM [ii (dt ⟨3,j,W⟩)]).size=1:=(by rw[nA];rfl);have hsb:gI (dt ⟨3,j,W⟩)<=12000:=om;have A:=tX wr [ii (dt ⟨3,j,W⟩)] 1 wr.1.size #[I .u8 ((ii (dt ⟨3,j,W⟩)).toNat:Int)] rfl sm rfl sm (by simp[fu]);rw[K]at A;clear v K;generalize gI (dt ⟨3,j,W⟩)=S at *;generalize aM [ii (dt ⟨3,j,W⟩)]=C at *;go_wp2;go_ret;exact⟨by rw[HE.o,a2.o];rfl,D.o.l (by have:=D.o.size;omega) _⟩
 have hT3:(T == 3)=false:=(by simpa using h3);have y:cr ⟨T,j,W⟩=dh j:=(by simp[cr,h3]);have HH:H (dt ⟨T,j,W⟩=[165,bp (dh j).length,bp T]++dh j):=(by show _=_;unfold dt;rw[y];rfl);have hel:(dh j).length<=44:=(by have:=HBO.o;rw[y]at this;exact this);have R:H (((bp (dh j).length).toNat:Int)=(dh j).length/\((bp T).toNat:Int)=T%256):=⟨pa om om,n9 _⟩;clear y;obtain⟨S0,G⟩:∃S0,S0=aM (dh j):=⟨_,rfl⟩;rw[<-G];have hS0s:S0.size<=44:=(by rw[G,nA];exact hel);have HS0:H (((bp (dh j).length).toNat:Int)=S0.size):=(by show _=_;rw[G,nA];exact R.o.1);have P:=tX wr [165,bp (dh j).length,bp T] 3 wr.1.size #[I .u8 165,I .u8 S0.size,I .u8 (T%256)] rfl sm rfl sm (by simp[fu,HS0.o,R.o.2]);have hs3:(aM [165,bp (dh j).length,bp T]).size=3:=(by rw[nA];rfl);have a0:H (aM [165,bp (dh j).length,bp T]++S0=aM (dt ⟨T,j,W⟩)):=(by show _=_;rw[G,tG,HH.o]);clear G hel;generalize aM [165,bp (dh j).length,bp T]=S3 at *;go_wp2;rw[a0.o];obtain⟨h,F⟩:∃h,h=aM (dt ⟨T,j,W⟩):=⟨_,rfl⟩;rw[<-F];have a1:H (h=aM (dt ⟨T,j,W⟩)):=F;have hHs:h.size<=47:=(by rw[F,nA];have:=HBO.o;simp[dt];omega);have a3:H (h.1.toList=dt ⟨T,j,W⟩):=(by show _=_;rw[F,ny]);clear F P;generalize hWD:wr.alloc (Δ #[I .u8 165,I .u8 S0.size,I .u8 (T%256)] 5)=V0;have D:H (B w.1.size w V0):=(by rw[<-hWD];exact HB0.o.l om _);clear hWD;go_loopw [7,8] (λm i V=>∃k:Nat,k<=h.size/\i=I Q k/\m=I Q (gI (h.1.toList.take k):Int)/\V=V0) (λ_ i _=>h.size-(intOf i).toNat)
 case atStart=>exact⟨0,aX _,rfl,rfl,rfl⟩
 obtain⟨q,hq,rfl,rfl,rfl⟩:=hrel;by_cases U:q<h.size
 ·have hqI:(q:Int)<h.size:=om;have X:q<h.1.toList.length:=(by simpa using U);have HS:H (gI (h.1.toList.take (q+1))=gI (h.1.toList.take q)+h[q].toNat):=(by show _=_;rw[iA X,wP];rfl);have v:=ww h.1.toList q;have hx:=h[q].toNat_lt;have hs2:gI (h.1.toList.take q)<=12000:=om;clear v;generalize gI (h.1.toList.take q)=S at *;go_wp2;go_roundw
  case rel=>exact⟨q+1,om,by go_num,by rw[HS.o];simp,aN⟩
  simp[intOf];omega
 obtain rfl:q=h.size:=om;have L:H (h.1.toList.take h.size=dt ⟨T,j,W⟩):=(by show _=_;rw[<-a3.o];apply ip;simp);rw[L.o];have K:=Eh (dt ⟨T,j,W⟩);have v:=ww h.1.toList h.size;rw[L.o]at v;have a2:H (aM (aJ ⟨T,j,W⟩)=h++aM [ii (dt ⟨T,j,W⟩)]):=(by show _=_;unfold aJ;rw[<-tG,a1.o]);have hs1:(aM [ii (dt ⟨T,j,W⟩)]).size=1:=(by rw[nA];rfl);have hsb:gI (dt ⟨T,j,W⟩)<=12000:=om;have A:=tX wr [ii (dt ⟨T,j,W⟩)] 1 wr.1.size #[I .u8 ((ii (dt ⟨T,j,W⟩)).toNat:Int)] rfl sm rfl sm (by simp[fu]);rw[K]at A;clear v K;generalize gI (dt ⟨T,j,W⟩)=S at *;generalize aM [ii (dt ⟨T,j,W⟩)]=C at *;go_wp2;go_ret;exact⟨by rw[HE.o,a2.o];rfl,D.o.l (by have:=D.o.size;omega) _⟩
end
section
open Go.RowKit
theorem zb(s:ByteArray)(w:Ω)(h:s.size<=100000):
  Φ prog 94 #[Z s] w λe a=>e=N (Z s)/\B w.1.size w a:=by
 go_enter func94,ntmps94;go_wp2_with fail;refine(stringslite_Clone s w om).m ?_;rintro e a ⟨rfl,c⟩;have b:=hid c;go_wp2;go_ret;exact⟨rfl,b.o⟩
theorem jP{s:ByteArray}{i:Nat}(h:i<s.size):s.1.toList.getD i 0=s[i]:=by
 have a:i<s.1.toList.length:=by simpa using h
 rw[en,bc a];rfl
theorem dQ(s:ByteArray):s.1.toList.length=s.size:=by simp
theorem vj(s:ByteArray)(w:Ω)(v:s.size<=100000):
  Φ prog 222 #[Z s] w λe n=>e=N (I Q (da s.1.toList:Int))/\n=w:=by
 obtain⟨R,k⟩:∃R:Int,R=(da s.1.toList:Int):=⟨_,rfl⟩;rw[<-k];have a:=hid k;by_cases t:s.size<2
 ·have j:(s.size:Int)<2:=om;go_enter func222,ntmps222;go_wp2;go_ret;refine⟨?_,rfl⟩;rw[a.o];unfold da;rw[dQ,ak (af t)];rfl
 have f:0<s.size:=om;have i:1<s.size:=om;have q:(0:Int)<s.size:=om;have m:(1:Int)<s.size:=om;have j:decide ((s.size:Int)<2)=false:=by simp;omega
 have g:H (da s.1.toList=if s.1.toList.length<2\/s[0]≠165\/44<s[1].toNat then 0 else 4+s[1].toNat):=by show _=_;unfold da;rw[jP f,jP i]
 by_cases b:s[0]=165
 ·have d:((s[0].toNat:Int) != 165)=false:=(by rw[b];rfl);by_cases r:44<s[1].toNat
  ·have c:(44:Int)<s[1].toNat:=om;go_enter func222,ntmps222;go_wp2;go_ret;refine⟨?_,rfl⟩;rw[a.o,g.o,ak (ah (ah r))];rfl
  have c:decide ((44:Int)<s[1].toNat)=false:=(by simp;omega);have l:(s[1].toNat:Int)<=44:=om
  have u:H (da s.1.toList=4+s[1].toNat):=by
   show _=_;rw[g.o,ag];rw[dQ];rintro(h|h|h)
   ·omega
   ·exact h b
   omega
  go_enter func222,ntmps222;go_wp2;go_ret;refine⟨?_,rfl⟩;rw[a.o,u.o];show Ending.returned (I Q (3+(s[1].toNat:Int)+1))=_;congr 2;omega
 have d:((s[0].toNat:Int) != 165)=true:=(by have:s[0].toNat≠165:=λh=>b (UInt8.toNat_inj.1 h);simp;omega);have p:=hid b;go_enter func222,ntmps222;go_wp2;go_ret;refine⟨?_,rfl⟩;rw[a.o,g.o,ak (ah (af p.o))];rfl
theorem Ei(l:List UInt8):da l<=48:=by unfold da;split<;>omega
theorem Cu{s:ByteArray}(a:s.size=1):gU s.1.toList=(s[0]'om == 165):=by
 have b:0<s.size:=om;have e:da s.1.toList=0:=by unfold da;rw[dQ,ak (af om)]
 unfold gU;rw[e,dQ,jP b];simp[a]
theorem Cc{s:ByteArray}(a:s.size≠1):gU s.1.toList=decide (s.size<da s.1.toList):=by unfold gU;rw[dQ];simp[a]
theorem Id(s:ByteArray)(w:Ω)(l:s.size<=100000)(r:0<s.size):
  Φ prog 180 #[Z s] w λe d=>e=N (.bool (gU s.1.toList))/\d=w:=by
 obtain⟨R,i⟩:∃R,R=gU s.1.toList:=⟨_,rfl⟩;rw[<-i];have j:=hid i;clear i;have p:(0:Int)<s.size:=om;have k:H (da s.1.toList<=48):=Ei _;by_cases n:s.size=1
 ·have g:(s.size:Int)=1:=om;have c:=Cu n;by_cases b:s[0]=165
  ·have f:((s[0].toNat:Int) == 165)=true:=(by rw[b];rfl);have a:R=true:=(by rw[j.o,c];simp[b]);subst a;go_enter func180,ntmps180;go_wp2;go_ret;exact⟨rfl,rfl⟩
  have f:((s[0].toNat:Int) == 165)=false:=(by have:s[0].toNat≠165:=λh=>b (UInt8.toNat_inj.1 h);simp;omega);have a:R=false:=(by rw[j.o,c];simpa using b);subst a;have e:da s.1.toList=0:=(by unfold da;rw[dQ,ak (af om)]);go_enter func180,ntmps180;go_wp2_with (go_at_call 222;refine(vj _ _ l).m ?_;rintro e d ⟨rfl,rfl⟩);go_ret;exact⟨rfl,rfl⟩
 have g:((s.size:Int) == 1)=false:=by simp;omega
 have c:=Cc n;have q:=hid c;go_enter func180,ntmps180;go_wp2_with (go_at_call 222;refine(vj _ _ l).m ?_;rintro e d ⟨rfl,rfl⟩);go_ret;refine⟨?_,rfl⟩;rw[j.o,q.o];simp
theorem Ik(s:ByteArray)(w:Ω)(u:s.size<=100000)(x:0<s.size):
  Φ prog 83 #[Z s] w λe q=>e=N (.bool (gU s.1.toList))/\q=w:=by
 obtain⟨R,m⟩:∃R,R=gU s.1.toList:=⟨_,rfl⟩;rw[<-m];have c:=hid m;clear m;have r:(0:Int)<s.size:=om;by_cases n:s.size=1
 ·have g:((s.size:Int) == 1)=true:=by simp;omega
  have b:=Cu n;have a:R=((s[0].toNat:Int) == 165):=by rw[c.o,b,jq];simp;rw[<-UInt8.toNat_inj];simp;omega
  subst a;go_enter func83,ntmps83;go_wp2;go_ret;exact⟨rfl,rfl⟩
 have g:((s.size:Int) == 1)=false:=by simp;omega
 have b:=Cc n;have j:0<s.size:=om;have l:1<s.size:=om;have p:(1:Int)<s.size:=om;have k:H (da s.1.toList=if s.1.toList.length<2\/s[0]≠165\/44<s[1].toNat then 0 else 4+s[1].toNat):=by show _=_;unfold da;rw[jP j,jP l]
 by_cases d:s[0]=165
 ·have i:((s[0].toNat:Int) == 165)=true:=(by rw[d];rfl);by_cases v:s[1].toNat<=44
  ·have f:decide ((s[1].toNat:Int)<=44)=true:=(by simp;omega);have t:(s[1].toNat:Int)<=44:=om
   have a:R=decide ((s.size:Int)<4+(s[1].toNat:Int)):=by
    rw[c.o,b,k.o,ag,jq]
    ·simp;omega
    rw[dQ];rintro(h|h|h)
    ·omega
    ·exact h d
    omega
   subst a;go_enter func83,ntmps83;go_wp2;go_ret;exact⟨rfl,rfl⟩
  have f:decide ((s[1].toNat:Int)<=44)=false:=(by simp;omega);have a:R=false:=(by rw[c.o,b,k.o,ak (ah (ah om))];simp);subst a;go_enter func83,ntmps83;go_wp2;go_ret;exact⟨rfl,rfl⟩
 have i:((s[0].toNat:Int) == 165)=false:=(by have:s[0].toNat≠165:=λh=>d (UInt8.toNat_inj.1 h);simp;omega);have a:R=false:=(by rw[c.o,b,k.o,ak (ah (af d))];simp);subst a;go_enter func83,ntmps83;go_wp2;go_ret;exact⟨rfl,rfl⟩
end
section
open Go.RowKit
end
section
open Go.RowKit
def kZ(r:dr):List Value:=[I Q r.b,I Q r.d,I Q r.e,Z r.c]
structure eU (V:Ω) (base:Nat) (v:Value) (rs:List dr):Prop where
 a:V.ownsRow base 102 4 v rs.length (rs.flatMap kZ)
theorem eU.c(V:Ω)(a:Nat):eU V a (M J 0 0) []:=⟨fH _ _ _ _⟩
theorem Np(rs:List dr):∀(k:Nat)(r:dr)(j:Nat),rs[k]?=O r->j<4->(rs.flatMap kZ)[k*4+j]?=(kZ r)[j]?:=by
  induction rs with
 |nil=>intro k r j h;simp at h
 |cons x rs ih=>
   intro k r j h b;have e:(x::rs).flatMap kZ=kZ x++rs.flatMap kZ:=rfl;have a:(kZ x).length=4:=rfl;rw[e];cases k with
  |zero=>
    simp at h;subst h;rw[gO (by rw[a];omega)];congr 1;omega
  |succ k=>
    rw[jb (by rw[a];omega),a,show (k+1)*4+j-4=k*4+j by omega];exact ih k r j (by simpa using h) b
theorem eU.e{V:Ω}{f:Nat}{v:Value}{rs:List dr}(h:eU V f v rs)(m:∀r∈rs,r.c.size<=maxLen):∃p b,v=M p rs.length b/\de V p rs:=by
 by_cases d:rs=[]
 ·subst d;rcases h.a.2 with ⟨rfl,h0⟩|⟨g,b,cur,hv,_⟩
  ·exact⟨J,0,rfl,m,λl=>absurd rfl l⟩
  exact⟨_,b,hv,m,λl=>absurd rfl l⟩
 obtain⟨g,b,rfl,t,o⟩:=h.a.form (jl.2 d);refine⟨_,b,rfl,m,λ_=>⟨g,0,rfl,o,λk r q=>?_⟩⟩;have i:∀j u,j<4->(kZ r)[j]?=O u->V.cell? ⟨g,0+k*4+j,J⟩=O u:=by intro j u s n;have:=h.a.cells (g:=g) rfl (k*4+j) u (by rw[Np rs k r j q s];exact n);rw[sh]at this;rw[dj];exact this
 exact⟨i 0 _ om rfl,i 1 _ om rfl,i 2 _ om rfl,i 3 _ om rfl⟩
theorem Fi:(prog.info? 102).map (λi=>(i.zero,i.size,i.bytes))=O (O (.agg #[I Q 0,I Q 0,I Q 0,Z ⟨#[]⟩]),4,40):=kr
theorem kP(s:ByteArray)(a b:Nat):(s.extract a b).1.toList=(s.1.toList.drop a).take (b-a):=by rw[ByteArray.data_extract,Array.toList_extract,List.extract_eq_take_drop]
theorem Cd(s:ByteArray)(a b:Nat):s.extract a b=aM ((s.1.toList.drop a).take (b-a)):=by rw[<-kP,tY]
theorem eU.f{V:Ω}{a:Nat}{v:Value}{rs:List dr}{r:dr}{b:List Value}(h:V.ownsRow a 102 4 v (rs.length+1) (rs.flatMap kZ++b))(hy:b=kZ r):eU V a v (rs++[r]):=by subst hy;refine⟨?_⟩;rw[bU,List.flatMap_append];simpa using h
theorem uA(x:UInt8):IntKind.i64.wrap (x.toNat:Int)=(x.toNat:Int):=by have:=x.toNat_lt;simp[IntKind.wrap,IntKind.bits,IntKind.signed];omega
def rh:Value->Nat|Z t=>t.size|_=>0
theorem IK(d:ByteArray)(w:Ω)(hs:d.size<=100):
  Φ prog 251 #[Z d] w λe w'=>∃v,e=N v/\eU w' w.1.size v (jd d.1.toList)/\B w.1.size w w':=by
 obtain⟨i0,hi,hz0,hz1,hz2⟩:=tE Fi;obtain⟨R,hR⟩:∃R,R=jd d.1.toList:=⟨_,rfl⟩;rw[<-hR];have HR:H (R=jd d.1.toList):=hR;clear hR;go_enter func251,ntmps251;go_wp2;go_loopw [0,3] (λu l V=>∃(k:Nat) (t:ByteArray),11*k<=d.size/\u=Z t/\t.1.toList=d.1.toList.drop (11*k)/\eU V w.1.size l ((List.range k).map (fK d.1.toList))/\B w.1.size w V) (λu _ _=>rh u)
 case atStart=>exact⟨0,d,om,rfl,rfl,eU.c _ _,aj _ _⟩
 obtain⟨k,t,hk,rfl,s,i,n⟩:=hrel;have D:t.size=d.size-11*k:=by have:=congrArg List.length s;rw[jm,dQ,dQ]at this;exact this
 have P:H (t.size=d.size-11*k):=D;have h100:t.size<=100:=om;have hk9:k<=9:=om;clear D;by_cases hlt:11<=t.size
 case pos=>
  have hI:(11:Int)<=t.size:=om;have i0I:(0:Int)<t.size:=om;have i1I:(1:Int)<t.size:=om;have i2I:(2:Int)<t.size:=om;have W:H (kZ (fK d.1.toList k)=[I Q (t[0].toNat:Int),I Q (t[1].toNat:Int),I Q (t[2].toNat:Int),Z (t.extract 3 11)]):=(by show _=_;unfold fK uF kZ;rw[<-s,jP om,jP om,jP om,Cd];rfl);have x:=i.a;have HBL:H (B w.1.size w wr):=n;have HTL:H (t.1.toList=d.1.toList.drop (11*k)):=s;have hsz:w.1.size<=wr.1.size:=n.size;clear i n s;have j0:0<t.size:=om;have j1:1<t.size:=om;have j2:2<t.size:=om;obtain⟨b,hO⟩:∃b:Obj,b=Δ #[I Q (IntKind.i64.wrap (t[0].toNat:Int)),I Q (IntKind.i64.wrap (t[1].toNat:Int)),I Q (IntKind.i64.wrap (t[2].toNat:Int)),Z (t.extract 3 11)] 102:=⟨_,rfl⟩;obtain⟨C,r⟩:∃C:List Value,C=[I Q (IntKind.i64.wrap (t[0].toNat:Int)),I Q (IntKind.i64.wrap (t[1].toNat:Int)),I Q (IntKind.i64.wrap (t[2].toNat:Int)),Z (t.extract 3 11)]:=⟨_,rfl⟩
  have HW:H (∀j u,C[j]?=O u->((wr.alloc b).drew).cell? ((⟨wr.1.size,0,J⟩:Addr).add j)=O u):=by
   intro j u m;subst r hO;rw[sh]
   match j,m with
  |0,m=>simp at m;subst m;simp
  |1,m=>simp at m;subst m;simp
  |2,m=>simp at m;subst m;simp
  |3,m=>simp at m;subst m;simp
  have H1:H (∀u∈C,u.oneCell'=true):=by intro u hu;subst r;simp at hu;rcases hu with rfl|rfl|rfl|rfl<;>rfl
  have HL:H (((List.range k).map (fK d.1.toList)).length=k):=(by show _=_;simp);have y:H (((wr.alloc b).drew).ownsRow w.1.size 102 4 u3 ((List.range k).map (fK d.1.toList)).length (((List.range k).map (fK d.1.toList)).flatMap kZ)):=x.alloc b;have T:H (C.length=1*4):=(by show _=_;rw[r];rfl);have G:H (((List.range k).map (fK d.1.toList)).length+1<=maxLen):=(by show _<=_;rw[HL.o];unfold maxLen;omega);have X:H ((((List.range k).map (fK d.1.toList)).length+1)*40<=140737488355328):=(by show _<=_;rw[HL.o];omega);have E:H (w.1.size<=((wr.alloc b).drew).1.size):=(by show _<=_;simp;omega);have F:H (((wr.alloc b).drew).1.size=wr.1.size+1):=(by show _=_;simp);have HOO:H (b=Δ #[I Q (IntKind.i64.wrap (t[0].toNat:Int)),I Q (IntKind.i64.wrap (t[1].toNat:Int)),I Q (IntKind.i64.wrap (t[2].toNat:Int)),Z (t.extract 3 11)] 102):=hO;have U:H (C=[I Q (IntKind.i64.wrap (t[0].toNat:Int)),I Q (IntKind.i64.wrap (t[1].toNat:Int)),I Q (IntKind.i64.wrap (t[2].toNat:Int)),Z (t.extract 3 11)]):=r;subst hO;clear r x;go_upto_region 3 with fail
  go_region_held3 (λ_=>True) (trivial)
   ((refine iX _ (by rfl) (.tmp 7) (.tmp 20) 103 (by rfl) w.1.size 102 i0 (.agg #[I Q 0,I Q 0,I Q 0,Z ⟨#[]⟩]) 4 40 underlying103 hi hz0 hz1 hz2 rfl om u3 _ _ (by rfl) y.o ⟨wr.1.size,0,J⟩ 1 1 C (by rfl) T.o HW.o H1.o om G.o X.o E.o (wr.1.size+1) F.o ?_;intro g K w1 p q hat hlt1))
  all_goals
   have S:eU w1 w.1.size (M (O ⟨g,0,J⟩) (((List.range k).map (fK d.1.toList)).length+1) K) ((List.range (k+1)).map (fK d.1.toList)):=(by rw[l8,iY];exact eU.f p (by rw[U.o,W.o,uA,uA,uA]));have L:B w.1.size w w1:=((HBL.o.l hsz _).drew).grown q (by simp;omega) (λk hk=>(y.o.lt k hk).1);have A:H (eU w1 w.1.size (M (O ⟨g,0,J⟩) (((List.range k).map (fK d.1.toList)).length+1) K) ((List.range (k+1)).map (fK d.1.toList))):=S;have z:H (B w.1.size w w1):=L;clear p q hat S L y HW H1 T G X E F HOO U W;go_wp2;go_roundw
   case rel=>
    have D:=P.o;refine⟨k+1,t.extract 11 t.size,om,rfl,?_,by have h:=A.o;rw[HL.o]at h;exact h,z.o⟩;rw[kP,HTL.o,List.drop_drop,ip]
    ·congr 1
    rw[jm,dQ];omega
   simp[rh];omega
 have hI:¬(11:Int)<=t.size:=om;have A:H (eU wr w.1.size u3 ((List.range k).map (fK d.1.toList))):=i;have z:H (B w.1.size w wr):=n;have HK:H (R=(List.range k).map (fK d.1.toList)):=(by show _=_;rw[HR.o];unfold jd;rw[dQ,show d.size/11=k by have:=P.o;omega]);clear i n s;go_wp2;go_ret;exact⟨_,rfl,by rw[HK.o];exact A.o,z.o⟩
end
section
open Go.RowKit
theorem eU.d{V:Ω}{c b:Nat}{v:Value}{rs:List dr}(h:eU V c v rs)(i:b<=c):eU V b v rs:=
 ⟨h.a.1,h.a.2.elim af (λ⟨g,f,e,j,k,r⟩=>ah ⟨g,f,e,j,aP i k,r⟩)⟩
theorem eU.b{V:Ω}{c:Nat}{v:Value}{rs:List dr}(h:eU V c v rs){a:Addr}(d:a.block<c)(u:Value):eU (V.setCell a u) c v rs:=⟨ownsRow_setCell_below h.a d u⟩
theorem nv{b:Nat}{w w':Ω}{a:Addr}(d:B b w w')(c:a.block<b)(h:w.frozen? a=false):w'.frozen? a=false:=by rw[d.frozen c];exact h
theorem J6{w a:Ω}{c x1 x2 x3 e d:Value}{t f:TypeId}(b:B ((w.alloc (Δ #[c,x1,x2] t)).alloc (Δ #[x3,e,d] f)).1.size ((w.alloc (Δ #[c,x1,x2] t)).alloc (Δ #[x3,e,d] f)) a):
  (a.cell? ⟨w.1.size,0,J⟩=O c/\a.cell? ⟨w.1.size,1,J⟩=O x1/\a.cell? ⟨w.1.size,2,J⟩=O x2/\a.cell? ⟨w.1.size+1,0,J⟩=O x3/\a.cell? ⟨w.1.size+1,1,J⟩=O e/\a.cell? ⟨w.1.size+1,2,J⟩=O d)
  /\ B w.1.size w a
  /\ (a.frozen? ⟨w.1.size,0,J⟩=false/\a.frozen? ⟨w.1.size,1,J⟩=false/\a.frozen? ⟨w.1.size,2,J⟩=false/\a.frozen? ⟨w.1.size+1,0,J⟩=false/\a.frozen? ⟨w.1.size+1,1,J⟩=false/\a.frozen? ⟨w.1.size+1,2,J⟩=false):=by
 refine⟨⟨?_,?_,?_,?_,?_,?_⟩,(((aj _ w).l nl _).l sm _).t (b.m (by simp;omega)),?_,?_,?_,?_,?_,?_⟩
 ·exact dC b (by simp;omega) (by go_simp)
 ·exact dC b (by simp;omega) (by go_simp)
 ·exact dC b (by simp;omega) (by go_simp)
 ·exact dC b sm (by go_simp)
 ·exact dC b sm (by go_simp)
 ·exact dC b sm (by go_simp)
 ·exact nv b (by simp;omega) (by go_simp)
 ·exact nv b (by simp;omega) (by go_simp)
 ·exact nv b (by simp;omega) (by go_simp)
 ·exact nv b sm (by go_simp)
 ·exact nv b sm (by go_simp)
 exact nv b sm (by go_simp)
theorem J5(b:ByteArray)(w:Ω)(hs:b.size<=100)(h4:4<=b.size):
  Φ prog 223 #[Z b] w λe S=>∃v,e=N (.agg #[I Q (kz b.1.toList).b,v,I Q (kz b.1.toList).c])/\eU S w.1.size v (kz b.1.toList).a/\B w.1.size w S:=by
 obtain⟨G,C⟩:∃G,G=kz b.1.toList:=⟨_,rfl⟩;rw[<-C];have i2:2<b.size:=om;have i2I:(2:Int)<b.size:=om;have h4I:(4:Int)<=b.size:=om;have x:(b.1.toList.drop 3).take (b.1.toList.length-4)=(b.extract 3 (b.size-1)).1.toList:=by rw[kP,dQ,show b.size-4=b.size-1-3 by omega]
 have u:G=⟨b[2].toNat,if b[2].toNat=1 then jd (b.extract 3 (b.size-1)).1.toList else [],if b[2].toNat=3/\(b.extract 3 (b.size-1)).1.toList≠[] then ((b.1.toList.getD 3 0).toNat:Int) else 0⟩:=by rw[C];unfold kz;rw[jP i2,x]
 have j:H (G=⟨b[2].toNat,if b[2].toNat=1 then jd (b.extract 3 (b.size-1)).1.toList else [],if b[2].toNat=3/\(b.extract 3 (b.size-1)).1.toList≠[] then ((b.1.toList.getD 3 0).toNat:Int) else 0⟩):=u;have y:(b.extract 3 (b.size-1)).size=b.size-4:=by rw[pM];omega
 have h:H ((b.extract 3 (b.size-1)).size=b.size-4):=y;have hb2:=b[2].toNat_lt;clear u C x y;by_cases s:b[2].toNat=1
 ·have D:((b[2].toNat:Int) == 1)=true:=by rw[s];rfl
  have f:G=⟨1,jd (b.extract 3 (b.size-1)).1.toList,0⟩:=by rw[j.o];simp[s]
  subst f;clear j;go_enter func223,ntmps223;go_wp2_with fail;refine(IK _ _ (by rw[h.o];omega)).m ?_;rintro e T ⟨v,rfl,i,t⟩;obtain⟨V,z,L⟩:=J6 t;have F:H (eU T (w.1.size+2) v (jd (b.extract 3 (b.size-1)).1.toList)):=i.d sm;have HB:H (B w.1.size w T):=z;obtain⟨z0,z1,z2,f0,f1,f2⟩:=V;obtain⟨y0,y1,y2,g0,g1,g2⟩:=L;have hv:v.oneCell'=true:=by rcases i.a.2 with ⟨rfl,_⟩|⟨g,cap,cur,rfl,_⟩<;>rfl
  have P:∃p n c,v=M p n c:=by
   rcases i.a.2 with ⟨rfl,_⟩|⟨g,cap,cur,rfl,_⟩
   ·exact⟨_,_,_,rfl⟩
   exact⟨_,_,_,rfl⟩
  obtain⟨vp,vn,W,rfl⟩:=P;clear i t z;go_wp2;refine bK (v:=.agg #[I Q 1,M vp vn W,I Q 0]) (by simp[results,results223,go_sem,z0,z1,z2]) rfl ⟨_,rfl,?_,?_⟩
  ·exact((((F.o.b (by show w.1.size+1<_;omega) _).b (by show w.1.size<_;omega) _).b (by show w.1.size<_;omega) _).b (by show w.1.size<_;omega) _).d om
  exact(((HB.o.c (by show w.1.size<=w.1.size+1;omega) _).c nl _).c nl _).c nl _
 have D:((b[2].toNat:Int) == 1)=false:=by simp;omega
 have H1:H (b[2].toNat≠1):=s;by_cases r:b[2].toNat=3
 ·have R:((b[2].toNat:Int) == 3)=true:=(by rw[r];rfl);clear s;by_cases h0:b.size=4
  ·have q:b.extract 3 (b.size-1)=⟨#[]⟩:=(by have:=h.o;rw[h0]at this⊢;apply ke;apply Array.eq_empty_of_size_eq_zero;exact this);have f:G=⟨3,[],0⟩:=(by rw[j.o,q];simp[r]);subst f;have K:(b.extract 3 (b.size-1)).toList.isEmpty=true:=(by rw[q,cY];rfl);clear j q;go_enter func223,ntmps223;go_wp2;refine bK (v:=.agg #[I Q 3,M J 0 0,I Q 0]) (by simp[results,results223,go_sem]) rfl ⟨_,rfl,eU.c _ _,?_⟩;exact((aj _ w).l nl _).l sm _
  have k:(b.extract 3 (b.size-1)).1.toList≠[]:=(by intro e;have:=congrArg List.length e;rw[dQ,h.o]at this;simp at this;omega);have E:0<(b.extract 3 (b.size-1)).size:=(by rw[h.o];omega);have U:(0:Int)<(b.extract 3 (b.size-1)).size:=om;have A:b.1.toList.getD 3 0=(b.extract 3 (b.size-1))[0]:=(by rw[<-jP E,kP,en,en,rK om,pR]);have f:G=⟨3,[],((b.extract 3 (b.size-1))[0].toNat:Int)⟩:=(by rw[j.o,A,ag H1.o,ak ⟨r,k⟩,r];rfl);subst f;have K:(b.extract 3 (b.size-1)).toList.isEmpty=false:=(by rw[cY];simpa using k);clear j k A;generalize hX:b.extract 3 (b.size-1)=X at *;have hX0:=X[0].toNat_lt;go_enter func223,ntmps223;go_wp2;refine bK (v:=.agg #[I Q 3,M J 0 0,I Q (X[0].toNat:Int)]) (by simp[results,results223,go_sem]) rfl ⟨_,rfl,eU.c _ _,?_⟩;exact((aj _ w).l nl _).l sm _
 have R:((b[2].toNat:Int) == 3)=false:=(by simp;omega);have f:G=⟨b[2].toNat,[],0⟩:=(by rw[j.o];simp[s,r]);subst f;clear j s r;go_enter func223,ntmps223;go_wp2;refine bK (v:=.agg #[I Q b[2].toNat,M J 0 0,I Q 0]) (by simp[results,results223,go_sem]) rfl ⟨_,rfl,eU.c _ _,?_⟩;exact((aj _ w).l nl _).l sm _
end
end Go.Proofs.YtlaodjjfmhipnaaGreatDoor
