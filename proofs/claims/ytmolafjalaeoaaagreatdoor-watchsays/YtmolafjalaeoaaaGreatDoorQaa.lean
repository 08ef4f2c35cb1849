/-
  TkM EpM
-/
import Derived.WalkKit
import Derived.OpenShut
import Derived.Lib.Bytealg
import Derived.Lib.Small
import Derived.Sort.Statements
set_option maxRecDepth 100000
set_option maxHeartbeats 8000000
namespace Go.Proofs.YtmolafjalaeoaaaGreatDoor
namespace TkM
open Go
structure Sg where
 p:Int
 s:Int
 t:Int
 g:ByteArray
def Sg.none:Sg:=⟨0,0,0,⟨#[]⟩⟩
def okS (x:Sg):Bool:=decide (0<=x.p)&&decide (x.p<=7)&&decide (0<=x.s)&&decide (x.s<=255)
theorem okS_iff {x:Sg}:okS x=true↔(0<=x.p/\x.p<=7)/\0<=x.s/\x.s<=255:=by
 simp only[okS,Bool.and_eq_true,decide_eq_true_eq];constructor
 ·rintro ⟨⟨⟨a,b⟩,c⟩,d⟩;exact ⟨⟨a,b⟩,c,d⟩
 ·rintro ⟨⟨a,b⟩,c,d⟩;exact ⟨⟨⟨a,b⟩,c⟩,d⟩
def at1 (g:ByteArray) (p:Int) (x:Sg):Bool:=decide (x.g=g)&&decide (x.p=p)
theorem at1_iff {g:ByteArray} {p:Int} {x:Sg}:at1 g p x=true↔x.g=g/\x.p=p:=by simp[at1]
def seenG (g:ByteArray) (l:List Sg):Bool:=l.any (fun x=>decide (x.g=g))
def seenAt (g:ByteArray) (p:Int) (l:List Sg):Bool:=l.any (at1 g p)
def sumAt (g:ByteArray) (p:Int):List Sg->Int
 | []=>0
 | x::l=>(if at1 g p x=true then x.s else 0)+sumAt g p l
theorem seen_iff {g:ByteArray} {l:List Sg}:seenG g l=true↔∃ x,x ∈ l/\x.g=g:=by simp[seenG]
theorem seenAt_iff {g:ByteArray} {p:Int} {l:List Sg}:seenAt g p l=true↔∃ x,x ∈ l/\x.g=g/\x.p=p:=by simp[seenAt,at1]
theorem seenAt_seen {g:ByteArray} {p:Int} {l:List Sg} (h:seenAt g p l=true):seenG g l=true:=by obtain ⟨x,h1,h2,_⟩:=seenAt_iff.1 h;exact seen_iff.2 ⟨x,h1,h2⟩
theorem seen_snoc (g:ByteArray) (l:List Sg) (x:Sg):seenG g (l ++ [x])=(seenG g l||decide (x.g=g)):=by simp[seenG]
theorem seenAt_snoc (g:ByteArray) (p:Int) (l:List Sg) (x:Sg):seenAt g p (l ++ [x])=(seenAt g p l||at1 g p x):=by simp[seenAt]
theorem sumAt_append (g:ByteArray) (p:Int):∀ l m:List Sg,sumAt g p (l++m)=sumAt g p l+sumAt g p m
 | [],m=>by simp[sumAt]
 | x::l,m=>by show (if at1 g p x=true then x.s else 0)+sumAt g p (l++m) = _;rw[sumAt_append g p l m];show _=((if at1 g p x=true then x.s else 0)+sumAt g p l) + _;omega
theorem sumAt_snoc (g:ByteArray) (p:Int) (l:List Sg) (x:Sg):sumAt g p (l ++ [x])=sumAt g p l+(if at1 g p x=true then x.s else 0):=by rw[sumAt_append];simp[sumAt]
theorem sumAt_none {g:ByteArray} {p:Int}:∀ {l:List Sg},seenAt g p l=false->sumAt g p l=0
 | [],_=>rfl
 | x::l,h=>by have h':(at1 g p x||seenAt g p l)=false:=h;rw[Bool.or_eq_false_iff] at h';show (if at1 g p x=true then x.s else 0)+sumAt g p l=0;rw[h'.1,sumAt_none h'.2];simp
theorem sumAt_bound (g:ByteArray) (p:Int):∀ l:List Sg,(∀ x,x ∈ l->0<=x.s/\x.s<=255)->0<=sumAt g p l/\sumAt g p l<=255*(l.length:Int)
 | [],_=>by simp[sumAt]
 | x::l,h=>by obtain ⟨h1,h2⟩:=sumAt_bound g p l (fun y hy=>h y (List.mem_cons_of_mem _ hy));have h3:=h x List.mem_cons_self;have e:sumAt g p (x::l)=(if at1 g p x=true then x.s else 0)+sumAt g p l:=rfl;rw[e,List.length_cons];split<;>constructor<;>push_cast<;>omega
def cnt (g:ByteArray) (p:Int) (ep:Nat->List Sg) (lo:Nat):Nat->Nat
 | 0=>0
 | k+1=>cnt g p ep lo k+(if seenAt g p (ep (lo+k))=true then 1 else 0)
def sm (g:ByteArray) (p:Int) (ep:Nat->List Sg) (lo:Nat):Nat->Int
 | 0=>0
 | k+1=>sm g p ep lo k+sumAt g p (ep (lo+k))
theorem cnt_le (g:ByteArray) (p:Int) (ep:Nat->List Sg) (lo:Nat):∀ k,cnt g p ep lo k<=k
 | 0=>Nat.le_refl _
 | k+1=>by have:=cnt_le g p ep lo k;unfold cnt;split<;>omega
theorem sm_bound (g:ByteArray) (p:Int) (ep:Nat->List Sg) (lo:Nat) (hl:∀ e,(ep e).length<=6000) (ho:∀ e x,x ∈ ep e->0<=x.s/\x.s<=255):∀ k,0<=sm g p ep lo k/\sm g p ep lo k<=1530000*(k:Int)
 | 0=>by simp[sm]
 | k+1=>by have h1:=sm_bound g p ep lo hl ho k;have h2:=sumAt_bound g p (ep (lo+k)) (ho _);have h3:=hl (lo+k);unfold sm;constructor<;>push_cast<;>omega
theorem cnt_congr {g:ByteArray} {p:Int} {ep ep':Nat->List Sg} {lo:Nat}:∀ {k},(∀ j,j<k->seenAt g p (ep (lo+j))=seenAt g p (ep' (lo+j)))->cnt g p ep lo k=cnt g p ep' lo k
 | 0,_=>rfl
 | k+1,h=>by unfold cnt;rw[h k (by omega),cnt_congr (fun j hj=>h j (by omega))]
theorem sm_congr {g:ByteArray} {p:Int} {ep ep':Nat->List Sg} {lo:Nat}:∀ {k},(∀ j,j<k->sumAt g p (ep (lo+j))=sumAt g p (ep' (lo+j)))->sm g p ep lo k=sm g p ep' lo k
 | 0,_=>rfl
 | k+1,h=>by unfold sm;rw[h k (by omega),sm_congr (fun j hj=>h j (by omega))]
def beats (c:Nat) (s:Int) (c':Nat) (s':Int):Bool:=if c=c' then decide (s'<s) else decide (c'<c)
def bst (need:Nat) (c:Nat->Nat) (s:Nat->Int):Nat->Int
 | 0=>-1
 | k+1=>if c k<need then bst need c s k else if bst need c s k = -1\/beats (c k) (s k) (c (bst need c s k).toNat) (s (bst need c s k).toNat)=true then (k:Int) else bst need c s k
def Bst (need:Nat) (c:Nat->Nat) (s:Nat->Int) (A:Nat->Prop) (b:Int):Prop:=
 (b = -1/\∀ p,A p->c p<need)\/∃ q:Nat,b=(q:Int)/\A q/\need<=c q/\∀ p,A p->need<=c p->c p<c q\/(c p=c q/\(s p<s q\/(s p=s q/\q<=p)))
theorem Bst.unique {need:Nat} {c:Nat->Nat} {s:Nat->Int} {A:Nat->Prop} {b b':Int} (h:Bst need c s A b) (h':Bst need c s A b'):b=b':=by
 rcases h with ⟨rfl,h⟩ | ⟨q,rfl,hq,hn,hb⟩<;>rcases h' with ⟨rfl,h'⟩ | ⟨q',rfl,hq',hn',hb'⟩
 ·rfl
 ·have:=h q' hq';omega
 ·have:=h' q hq;omega
 ·have h1:=hb q' hq' hn';have h2:=hb' q hq hn;omega
theorem bst_is (need:Nat) (c:Nat->Nat) (s:Nat->Int):∀ k,Bst need c s (fun p=>p<k) (bst need c s k)
 | 0=>Or.inl ⟨rfl,fun p hp=>by omega⟩
 | k+1=>by
  have ih:=bst_is need c s k;unfold bst;by_cases h1:c k<need
  ·rw[if_pos h1];rcases ih with ⟨hb,ih⟩ | ⟨q,hb,hq,hn,ih⟩
   ·refine Or.inl ⟨hb,fun p hp=>?_⟩;by_cases e:p=k
    ·rw[e];exact h1
    ·exact ih p (by omega)
   ·refine Or.inr ⟨q,hb,by omega,hn,fun p hp hnp=>?_⟩;by_cases e:p=k
    ·rw[e] at hnp;omega
    ·exact ih p (by omega) hnp
  ·rw[if_neg h1];rcases ih with ⟨hb,ih⟩ | ⟨q,hb,hq,hn,ih⟩
   ·rw[if_pos (Or.inl hb)];refine Or.inr ⟨k,rfl,by omega,by omega,fun p hp hnp=>?_⟩;by_cases e:p=k
    ·rw[e];omega
    ·have:=ih p (by omega);omega
   ·have hq0:(bst need c s k).toNat=q:=(by rw[hb];rfl);have hne:bst need c s k≠-1:=(by rw[hb];omega);rw[hq0];by_cases h2:beats (c k) (s k) (c q) (s q)=true
    ·rw[if_pos (Or.inr h2)];refine Or.inr ⟨k,rfl,by omega,by omega,fun p hp hnp=>?_⟩
     have h3:c q<c k\/(c k=c q/\s q<s k):=by
      unfold beats at h2;split at h2<;>simp at h2
      ·right;exact ⟨by assumption,h2⟩
      ·left;exact h2
     by_cases e:p=k
     ·rw[e];omega
     ·have:=ih p (by omega) hnp;omega
    ·rw[if_neg (fun h=>by rcases h with h | h;exact hne h;exact h2 h)];refine Or.inr ⟨q,hb,by omega,hn,fun p hp hnp=>?_⟩
     have h3:c k<c q\/(c k=c q/\s k<=s q):=by
      unfold beats at h2;split at h2<;>simp at h2
      ·right;exact ⟨by assumption,h2⟩
      ·left;omega
     by_cases e:p=k
     ·rw[e];omega
     ·exact ih p (by omega) hnp
theorem bst_congr {need:Nat} {c c':Nat->Nat} {s s':Nat->Int} {k:Nat} (hc:∀ p,p<k->c p=c' p) (hs:∀ p,p<k->s p=s' p):bst need c s k=bst need c' s' k:=by
 refine (bst_is need c s k).unique ?_;rcases bst_is need c' s' k with ⟨hb,h⟩ | ⟨q,hb,hq,hn,h⟩
 ·exact Or.inl ⟨hb,fun p hp=>by rw[hc p hp];exact h p hp⟩
 ·refine Or.inr ⟨q,hb,hq,by rw[hc q hq];exact hn,fun p hp hnp=>?_⟩;rw[hc p hp,hc q hq,hs p hp,hs q hq];exact h p hp (by rw[<- hc p hp];exact hnp)
theorem bst_range {need:Nat} {c:Nat->Nat} {s:Nat->Int} {k:Nat} : -1<=bst need c s k/\bst need c s k<k/\(bst need c s k = -1\/0<=bst need c s k):=by rcases bst_is need c s k with ⟨hb,_⟩ | ⟨q,hb,hq,_⟩<;>rw[hb]<;>omega
def lo (W e:Nat):Nat:=e+1-W
def cW (g:ByteArray) (ep:Nat->List Sg) (W e:Nat) (p:Nat):Nat:=cnt g (p:Int) ep (lo W e) (e+1-lo W e)
def sW (g:ByteArray) (ep:Nat->List Sg) (W e:Nat) (p:Nat):Int:=sm g (p:Int) ep (lo W e) (e+1-lo W e)
def whr (g:ByteArray) (ep:Nat->List Sg) (W need e:Nat):Int:=bst need (cW g ep W e) (sW g ep W e) 8
theorem whr_congr {g:ByteArray} {ep ep':Nat->List Sg} {W need e:Nat} (h1:∀ p k,k<=e->seenAt g p (ep k)=seenAt g p (ep' k)) (h2:∀ p k,k<=e->sumAt g p (ep k)=sumAt g p (ep' k)):whr g ep W need e=whr g ep' W need e:=by refine bst_congr (fun p _=>cnt_congr fun j hj=>h1 _ _ ?_) (fun p _=>sm_congr fun j hj=>h2 _ _ ?_)<;>omega
def epOf (E:List (List Sg)) (e:Nat):List Sg:=E.getD e []
def told (g:ByteArray) (E:List (List Sg)):Bool:=E.any (seenG g)
theorem told_iff {g:ByteArray} {E:List (List Sg)}:told g E=true↔∃ e,seenG g (epOf E e)=true:=by
 simp only[told,List.any_eq_true];constructor
 ·rintro ⟨l,hl,h⟩;obtain ⟨e,he,rfl⟩:=List.mem_iff_getElem.1 hl;refine ⟨e,?_⟩;unfold epOf;rw[List.getD_eq_getElem?_getD,List.getElem?_eq_getElem he];exact h
 ·rintro ⟨e,h⟩;by_cases he:e<E.length
  ·refine ⟨E[e],List.getElem_mem he,?_⟩;unfold epOf at h;rw[List.getD_eq_getElem?_getD,List.getElem?_eq_getElem he] at h;exact h
  ·unfold epOf at h;rw[List.getD_eq_getElem?_getD,List.getElem?_eq_none (by omega)] at h;cases h
theorem epOf_snoc (E:List (List Sg)) (l:List Sg) (e:Nat):epOf (E ++ [l]) e=if e=E.length then l else epOf E e:=by
 unfold epOf;rw[List.getD_eq_getElem?_getD,List.getD_eq_getElem?_getD];rcases Nat.lt_trichotomy e E.length with h | h | h
 ·rw[if_neg (by omega),List.getElem?_append_left h]
 ·rw[if_pos h,h,List.getElem?_append_right (Nat.le_refl _)];simp
 ·rw[if_neg (by omega),List.getElem?_append_right (by omega),List.getElem?_eq_none (by simp;omega),List.getElem?_eq_none (by omega)]
theorem epOf_past (E:List (List Sg)) {e:Nat} (h:E.length<=e):epOf E e = []:=by unfold epOf;rw[List.getD_eq_getElem?_getD,List.getElem?_eq_none h];rfl
theorem epOf_mem {E:List (List Sg)} {e:Nat} (h:e<E.length):epOf E e ∈ E:=by unfold epOf;rw[List.getD_eq_getElem?_getD,List.getElem?_eq_getElem h];exact List.getElem_mem h
end TkM
namespace EpM
open Go Go.Sort
open TkM (Sg)
structure Good {α:Type} (c : α->α->Int):Prop where
 neg:∀ x y,c y x =-c x y
 tr:∀ x y z,c x y<=0->c y z<=0->c x z<=0
def lex {α:Type} (c d : α->α->Int) (x y : α):Int:=if c x y≠0 then c x y else d x y
theorem Good.zero {α:Type} {c : α->α->Int} (h:Good c) {x y z : α} (h1:c x y<=0) (h2:c y z<=0) (h3:c x z=0):c x y=0/\c y z=0:=by have e1:=h.neg x z;have e2:=h.neg x y;have e3:=h.neg y z;have a:=h.tr z x y (by omega) h1;have b:=h.tr y z x h2 (by omega);constructor<;>omega
theorem Good.lex {α:Type} {c d : α->α->Int} (h:Good c) (k:Good d):Good (lex c d) where
 neg:=fun x y=>by have e1:=h.neg x y;have e2:=k.neg x y;unfold EpM.lex;split<;>split<;>omega
 tr:=fun x y z h1 h2=>by
  unfold EpM.lex at *;have a:c x y<=0:=by split at h1<;>omega
  have b:c y z<=0:=by split at h2<;>omega
  have e:=h.tr x y z a b;by_cases hz:c x z=0
  ·obtain ⟨p,q⟩:=h.zero a b hz;simp[hz,p,q] at *;exact k.tr x y z h1 h2
  ·simp[hz];exact e
theorem Good.on {α β:Type} {c : β->β->Int} (h:Good c) (f : α->β):Good (fun x y=>c (f x) (f y)):=⟨fun _ _=>h.neg _ _,fun _ _ _=>h.tr _ _ _⟩
theorem good_int:Good Lib.compareInt where
 neg:=fun x y=>by unfold Lib.compareInt;repeat' split;all_goals omega
 tr:=fun x y z h1 h2=>by
  unfold Lib.compareInt at *;have a:¬ x>y:=fun h=>by have:¬ x<y:=(by omega);simp[this,h] at h1
  have b:¬ y>z:=fun h=>by have:¬ y<z:=(by omega);simp[this,h] at h2
  repeat' split
  all_goals omega
theorem bytes_neg:∀ x y:List UInt8,Lib.compareBytes y x =-Lib.compareBytes x y
 | [],[]=>rfl
 | [],_ :: _=>rfl
 | _ :: _,[]=>rfl
 | a::x,b::y=>by
  unfold Lib.compareBytes;have h:=bytes_neg x y;by_cases h1:a<b
  ·have h2:¬ b<a:=UInt8.lt_asymm h1;simp[h1,h2]
  ·by_cases h2:b<a
   ·simp[h1,h2]
   ·simp[h1,h2,h]
theorem bytes_le:∀ {x y:List UInt8},Lib.compareBytes x y<=0->x<=y
 | [],_,_=>List.nil_le _
 | _ :: _,[],h=>by unfold Lib.compareBytes at h;omega
 | a::x,b::y,h=>by
  unfold Lib.compareBytes at h;rw[List.cons_le_cons_iff];by_cases h1:a<b
  ·exact Or.inl h1
  ·by_cases h2:b<a
   ·simp[h1,h2] at h
   ·simp[h1,h2] at h;have:a=b:=UInt8.le_antisymm (UInt8.not_lt.1 h2) (UInt8.not_lt.1 h1);exact Or.inr ⟨this,bytes_le h⟩
theorem le_bytes:∀ {x y:List UInt8},x<=y->Lib.compareBytes x y<=0
 | [],[],_=>by unfold Lib.compareBytes;omega
 | [],_ :: _,_=>by unfold Lib.compareBytes;omega
 | _ :: _,[],h=>by simp at h
 | a::x,b::y,h=>by
  unfold Lib.compareBytes;rw[List.cons_le_cons_iff] at h;rcases h with h | ⟨rfl,h⟩
  ·simp[h]
  ·have h1:¬ a<a:=UInt8.lt_irrefl a;simp[h1];exact le_bytes h
theorem good_bytes:Good Lib.compareBytes where
 neg:=bytes_neg
 tr:=fun _ _ _ h1 h2=>le_bytes (List.le_trans (bytes_le h1) (bytes_le h2))
theorem bytes_zero {x y:List UInt8} (h:Lib.compareBytes x y=0):x=y:=
 List.le_antisymm (bytes_le (by omega)) (bytes_le (by rw[bytes_neg];omega))
theorem int_zero {x y:Int} (h:Lib.compareInt x y=0):x=y:=by
 unfold Lib.compareInt at h;split at h
 ·omega
 ·split at h<;>omega
def cf:Sg->Sg->Int:=
 lex (fun x y=>Lib.compareBytes x.g.data.toList y.g.data.toList) (lex (fun x y=>Lib.compareInt x.t y.t) (lex (fun x y=>Lib.compareInt x.p y.p) (fun x y=>Lib.compareInt x.s y.s)))
theorem good_cf:Good cf:=
 Good.lex (good_bytes.on fun x:Sg=>x.g.data.toList) (Good.lex (good_int.on fun x:Sg=>x.t) (Good.lex (good_int.on fun x:Sg=>x.p) (good_int.on fun x:Sg=>x.s)))
def lt (x y:Sg):Bool:=decide (cf x y<0)
theorem lt_neg {x y:Sg}:lt x y=false↔cf y x<=0:=by unfold lt;have:=good_cf.neg x y;simp only[decide_eq_false_iff_not];omega
theorem swo:SWO lt where
 irrefl:=fun x=>by rw[lt_neg];have:=good_cf.neg x x;omega
 trans:=fun x y z h1 h2=>by
  unfold lt at *;simp only[decide_eq_true_eq] at *;have a:=good_cf.tr x y z (by omega) (by omega);rcases Int.lt_or_eq_of_le a with h | h
  ·exact h
  ·have:=good_cf.zero (x:=x) (y:=y) (z:=z) (by omega) (by omega) h;omega
 ntrans:=fun x y z h1 h2=>by rw[lt_neg] at *;exact good_cf.tr z y x h2 h1
theorem lex_zero {α:Type} {c d : α->α->Int} {x y : α} (h:lex c d x y=0):c x y=0/\d x y=0:=by
 unfold lex at h;split at h
 ·omega
 ·constructor<;>omega
theorem cf_zero {x y:Sg} (h:cf x y=0):x=y:=by obtain ⟨h1,h⟩:=lex_zero h;obtain ⟨h2,h⟩:=lex_zero h;obtain ⟨h3,h4⟩:=lex_zero h;cases x;cases y;have e1:=bytes_zero h1;have e2:=int_zero h2;have e3:=int_zero h3;have e4:=int_zero h4;simp only at e1 e2 e3 e4;subst e2 e3 e4;congr 1;exact ByteArray.ext (Array.toList_inj.1 e1)
theorem total (x y:Sg) (h1:lt x y=false) (h2:lt y x=false):x=y:=by rw[lt_neg] at *;have:=good_cf.neg x y;exact cf_zero (by omega)
def le (x y:Sg):Bool:=!lt y x
def sorted (l:List Sg):List Sg:=l.mergeSort le
theorem le_trans (x y z:Sg) (h1:le x y=true) (h2:le y z=true):le x z=true:=by unfold le at *;simp only[Bool.not_eq_true'] at *;exact swo.ntrans _ _ _ h2 h1
theorem le_total (x y:Sg):(le x y||le y x)=true:=by
 unfold le;cases h:lt x y with
 | false=>simp
 | true=>
  cases h2:lt y x with
  | false=>simp
  | true=>
   have:=swo.trans x y x h h2;rw[swo.irrefl] at this;cases this
theorem le_anti (x y:Sg) (h1:le x y=true) (h2:le y x=true):x=y:=by unfold le at *;simp only[Bool.not_eq_true'] at *;exact total x y h2 h1
theorem sorted_of {l m:List Sg} (hp:m.Perm l) (hs:m.Pairwise fun x y=>le x y=true):m=sorted l:=by refine List.Perm.eq_of_pairwise (le:=fun x y=>le x y=true) (fun x y _ _=>le_anti x y) hs ?_ (hp.trans (List.mergeSort_perm l le).symm);exact List.pairwise_mergeSort le_trans le_total l
theorem sorted_length (l:List Sg):(sorted l).length=l.length:=List.length_mergeSort l
theorem sorted_mem {l:List Sg} {x:Sg}:x ∈ sorted l↔x ∈ l:=List.mem_mergeSort
theorem ins_step (l:List Sg) (x:Sg) (k:Nat) (h1:∀ y ∈ (sorted l).drop k,lt x y=true) (h2:k=0\/∃ y,(sorted l)[k-1]?=some y/\lt x y=false) :
  (sorted l).take k++x::(sorted l).drop k=sorted (l ++ [x]):=by
 have hs:(sorted l).Pairwise fun x y=>le x y=true:=List.pairwise_mergeSort le_trans le_total l;refine sorted_of ?_ ?_
 ·refine (List.perm_middle (a:=x)).trans ?_;rw[List.take_append_drop];exact ((List.mergeSort_perm l le).cons x).trans (List.perm_append_singleton x l).symm
 ·rw[List.pairwise_append]
  have hd:∀ y ∈ (sorted l).drop k,le x y=true:=fun y hy=>by
   have a:=h1 y hy;unfold le;rw[Bool.not_eq_true'];cases hb:lt y x with
   | false=>rfl
   | true=>
    have:=swo.trans x y x a hb;rw[swo.irrefl] at this;cases this
  refine ⟨hs.sublist (List.take_sublist _ _),List.pairwise_cons.2 ⟨hd,hs.sublist (List.drop_sublist _ _)⟩,?_⟩;intro a ha b hb
  have hax:le a x=true:=by
   rcases h2 with rfl | ⟨y,hy,hl⟩
   ·simp at ha
   ·have hyx:le y x=true:=(by unfold le;rw[hl];rfl);obtain ⟨i,hi,hia⟩:=List.getElem_of_mem ha;rw[List.length_take] at hi;rw[List.getElem_take] at hia;obtain ⟨hk1,hky⟩:=List.getElem?_eq_some_iff.1 hy;rcases Nat.lt_or_ge i (k-1) with hlt | hge
    ·have:=List.pairwise_iff_getElem.1 hs i (k-1) (by omega) hk1 hlt;rw[hia,hky] at this;exact le_trans _ _ _ this hyx
    ·have:i=k-1:=(by omega);subst this;rw[<- hia,hky];exact hyx
  rcases List.mem_cons.1 hb with rfl | hb
  ·exact hax
  ·exact le_trans _ _ _ hax (hd b hb)
def closedN (size late now:Nat):Nat:=(now-late)/size
theorem closedN_lt {size late now k:Nat} (hs : 0<size):k<closedN size late now↔(k+1)*size+late<=now:=by unfold closedN;rw[<- Nat.succ_le_iff,Nat.le_div_iff_mul_le hs];have : 1*size<=(k+1)*size:=Nat.mul_le_mul_right _ (by omega);show (k+1)*size<=now-late↔_;omega
theorem closedN_le {size late now:Nat}:closedN size late now<=now:=by unfold closedN;exact Nat.le_trans (Nat.div_le_self _ _) (Nat.sub_le _ _)
theorem closedN_mono {size late now now':Nat} (h:now<=now'):closedN size late now<=closedN size late now':=by unfold closedN;exact Nat.div_le_div_right (by omega)
def okS (now:Nat) (x:Sg):Bool:=decide (0<=x.p)&&decide (x.p<=7)&&(decide (0<=x.s)&&decide (x.s<=255))&&(decide (0<=x.t)&&decide (x.t<=now))&&decide (x.g.size=8)
structure Okay (now:Nat) (x:Sg):Prop where
 p0 : 0<=x.p
 p1:x.p<=7
 s0 : 0<=x.s
 s1:x.s<=255
 t0 : 0<=x.t
 t1:x.t<=now
 g:x.g.size=8
theorem okS_iff {now:Nat} {x:Sg}:okS now x=true↔Okay now x:=by
 unfold okS;simp only[Bool.and_eq_true,decide_eq_true_eq];constructor
 ·rintro ⟨⟨⟨⟨a,b⟩,c,d⟩,e,f⟩,g⟩;exact ⟨a,b,c,d,e,f,g⟩
 ·rintro ⟨a,b,c,d,e,f,g⟩;exact ⟨⟨⟨⟨a,b⟩,c,d⟩,e,f⟩,g⟩
def epo (size:Nat) (x:Sg):Nat:=x.t.toNat/size
def addF (size late now:Nat) (x:Sg):Nat:=if okS now x then (if epo size x<closedN size late now then 6 else 0) else 1
def grp (size:Nat) (all:List Sg) (k:Nat):List Sg:=all.filter fun x=>decide (epo size x=k)
theorem grp_snoc_same {size:Nat} (all:List Sg) (x:Sg):grp size (all ++ [x]) (epo size x)=grp size all (epo size x) ++ [x]:=by unfold grp;rw[List.filter_append];simp
theorem grp_snoc_other {size:Nat} (all:List Sg) (x:Sg) {k:Nat} (h:k≠epo size x):grp size (all ++ [x]) k=grp size all k:=by unfold grp;rw[List.filter_append];have:¬ epo size x=k:=fun e=>h e.symm;simp[this]
theorem grp_length (size:Nat) (all:List Sg) (k:Nat):(grp size all k).length<=all.length:=List.length_filter_le _ _
def tells (size:Nat) (all:List Sg) (a b:Nat):List (Nat×List Sg):=(List.range' a (b-a)).map fun k=>(k,sorted (grp size all k))
theorem tells_snoc {size:Nat} (all:List Sg) {a b:Nat} (h:a<=b):tells size all a (b+1)=tells size all a b ++ [(b,sorted (grp size all b))]:=by unfold tells;rw[show b+1-a=(b-a)+1 by omega,List.range'_concat,List.map_append,show a+1*(b-a)=b by omega];rfl
theorem tells_nil {size:Nat} (all:List Sg) {a b:Nat} (h:b<=a):tells size all a b = []:=by unfold tells;rw[show b-a=0 by omega];rfl
end EpM
end Go.Proofs.YtmolafjalaeoaaaGreatDoor
