/-
  KnA
-/
import Derived.Test.YtmolafjalaeoaaaGreatDoorQbg
set_option maxRecDepth 100000
set_option maxHeartbeats 8000000
namespace Go.Proofs.YtmolafjalaeoaaaGreatDoor
open Tryz
namespace InA
open Go.RowKit TkM TkW TkA InM Go.Maps
theorem light_size {E:List (List Sg)} {k:Nat} (hl:light E=true):∀ g,(∃ e,seenG g (epOf (E.take k) e)=true)->g.size<=100000:=by
 rintro g ⟨e,h⟩;obtain ⟨x,hx,rfl⟩:=seen_iff.1 h;by_cases he:e<(E.take k).length
 ·have h1:epOf (E.take k) e ∈ E:=List.mem_of_mem_take (epOf_mem he);have h2:=goodL_iff.1 ((light_iff.1 hl).2 _ h1);have:=h2.2 x hx;omega
 ·rw[epOf_past _ (by omega)] at hx;exact absurd hx List.not_mem_nil
section
variable {w : World} {rb : Nat} {F : Nat → Prop} {W need q : Nat} {E : List (List Sg)}
theorem rtog_any (g h:ByteArray) (e span:Nat) (d:RfAt w rb F W need q E) (he:e<E.length) (hW:W<=8) (h8:span<=8) (hg:g.size<=100000) (hh:h.size<=100000) (hq:q<=9000000000) :
  Calls prog 149 #[.pointer (some ⟨rb,0,none⟩),.string g,.string h,.int .i64 (e:Int),.int .i64 (span:Int)] w fun x w'=>x = .returned (.int .i64 ((tog (epOf E) W need span e g h:Nat):Int))/\RfAt w' rb F W need (q+16) E/\Kp F w w':=by
 have h25:=(light_iff.1 d.good).1;have HD:Hid (RfAt w rb F W need q E):=d;have hSI:(span:Int)<=8:=by omega
 have heI:(e:Int)<=1000:=by omega
 have hml:=@max_lo span e;unfold tog;obtain ⟨L,hL⟩:∃ L,L=lo span e:=⟨_,rfl⟩;have hL1:L<=e+1:=by rw[hL];unfold lo;omega
 have hL8:e+1-L<=8:=by rw[hL];unfold lo;omega
 rw[<- hL] at hml ⊢;obtain ⟨M,hM⟩:∃ M,M=e+1-L:=⟨_,rfl⟩;have HM:Hid (M=e+1-L):=hM;obtain ⟨u,hu⟩:∃ u,u=whr g (epOf E) W need:=⟨_,rfl⟩;obtain ⟨v,hv⟩:∃ v,v=whr h (epOf E) W need:=⟨_,rfl⟩;rw[<- hM,<- hu,<- hv];rw[<- hM] at hL8;have HAG:Hid (∀ V i q',RfAt V rb F W need q' E->q'<=9000000100->i<=e->Calls prog 93 #[.pointer (some ⟨rb,0,none⟩),.string g,.int .i64 ((i:Nat):Int)] V fun x w'=>x = .returned (.int .i64 (u i))/\RfAt w' rb F W need (q'+1) E/\Kp F V w'):=fun V i q' hV hq' hi=>by rw[hu];exact rat_any g i hV (by omega) hW hg (by omega)
 have HAH:Hid (∀ V i q',RfAt V rb F W need q' E->q'<=9000000100->i<=e->Calls prog 93 #[.pointer (some ⟨rb,0,none⟩),.string h,.int .i64 ((i:Nat):Int)] V fun x w'=>x = .returned (.int .i64 (v i))/\RfAt w' rb F W need (q'+1) E/\Kp F V w'):=fun V i q' hV hq' hi=>by rw[hv];exact rat_any h i hV (by omega) hW hh (by omega)
 clear hL hM hu hv d h25 he;go_enter func149,ntmps149;go_wp2;go_loopw [11,12,13] (fun nn i _ V=>∃ j:Nat,j<=M/\i = .int .i64 ((L+j:Nat):Int)/\nn = .int .i64 ((tg u v L j:Nat):Int)/\RfAt V rb F W need (q+2*j) E/\Kp F w V) (fun _ i _ _=>M-((intOf i).toNat-L))
 case atStart=>exact ⟨0,Nat.zero_le _,rfl,rfl,HD.out,Kp.refl _ _⟩
 case round=>
  obtain ⟨j,hj,rfl,rfl,hR,hK⟩:=hrel;have HR:Hid (RfAt wr rb F W need (q+2*j) E):=hR;have HK:Hid (Kp F w wr):=hK;clear hR hK;by_cases hjl:L+j<=e
  case neg=>have hjM:j=M:=(by have:=HM.out;omega);have hI:¬ ((L+j:Nat):Int)<=e:=(by omega);subst hjM;go_wp2;go_ret;exact ⟨rfl,HR.out.more (by omega),HK.out⟩
  case pos=>
   have hI:((L+j:Nat):Int)<=e:=(by omega);obtain ⟨I,hIe⟩:∃ I,I=L+j:=⟨_,rfl⟩;rw[<- hIe] at hI hjl ⊢;have HIE:Hid (I=L+j):=hIe;have hI14:(I:Int)<=1000:=(by omega);have htl:=tg_le u v L j;have htI:((tg u v L j:Nat):Int)<=8:=by omega
   have HTT:Hid (tg u v L (j+1)=if 0<=u I/\u I=v I then tg u v L j+1 else tg u v L j):=by
    show _ = _;rw[hIe];by_cases hxy : 0<=u (L+j)/\u (L+j)=v (L+j)
    ·rw[if_pos hxy];exact tg_yes hxy
    ·rw[if_neg hxy];exact tg_no hxy
   have HC1:=HAG.out wr I _ HR.out (by omega) hjl;have HC1:Hid _:=HC1;have HC2:Hid (∀ V q',RfAt V rb F W need q' E->q'<=9000000100->Calls prog 93 #[.pointer (some ⟨rb,0,none⟩),.string h,.int .i64 ((I:Nat):Int)] V fun x w'=>x = .returned (.int .i64 (v I))/\RfAt w' rb F W need (q'+1) E/\Kp F V w'):=fun V q' hV hq'=>HAH.out V I q' hV hq' hjl;obtain ⟨uu,huu⟩:∃ uu,uu=u I:=⟨_,rfl⟩;obtain ⟨vv,hvv⟩:∃ vv,vv=v I:=⟨_,rfl⟩;rw[<- huu,<- hvv] at HTT;rw[<- huu] at HC1;rw[<- hvv] at HC2;clear hIe huu hvv;go_wp2_with fail;refine Calls.mono HC1.out ?_;rintro x w1 ⟨rfl,hr1,hk1⟩;have HR1:Hid (RfAt w1 rb F W need (q+2*j+1) E):=hr1;have HK1:Hid (Kp F w w1):=HK.out.trans hk1;clear hr1 hk1 HC1;by_cases h0 : 0<=uu
   ·have h0d:decide (0<=uu)=true:=(by simpa using h0);go_wp2_with fail;refine (HC2.out w1 _ HR1.out (by omega)).mono ?_;rintro x w2 ⟨rfl,hr2,hk2⟩;have HR2:Hid (RfAt w2 rb F W need (q+2*(j+1)) E):=hr2.more (by omega);have HK2:Hid (Kp F w w2):=HK1.out.trans hk2;clear hr2 hk2 HC2;by_cases hxy:uu=vv
    ·have hEq:(vv == uu)=true:=(by simpa using hxy.symm);have HT':Hid (tg u v L (j+1)=tg u v L j+1):=(by have:=HTT.out;rw[if_pos ⟨h0,hxy⟩] at this;exact this);clear hxy HTT;go_wp2;go_roundw
     case rel=>exact ⟨j+1,by have:=HM.out;have:=HIE.out;omega,by rw[HIE.out];go_num,by rw[HT'.out];go_num,HR2.out,HK2.out⟩
     case measure=>have h1:=HIE.out;have h2:=HM.out;simp[intOf];omega
    ·have hEq:(vv == uu)=false:=(by simp;exact fun e=>hxy e.symm);have HT':Hid (tg u v L (j+1)=tg u v L j):=(by have:=HTT.out;rw[if_neg (fun h=>hxy h.2)] at this;exact this);clear hxy HTT;go_wp2;go_roundw
     case rel=>exact ⟨j+1,by have:=HM.out;have:=HIE.out;omega,by rw[HIE.out];go_num,by rw[HT'.out],HR2.out,HK2.out⟩
     case measure=>have h1:=HIE.out;have h2:=HM.out;simp[intOf];omega
   ·have h0d:decide (0<=uu)=false:=(by simpa using h0);have HT':Hid (tg u v L (j+1)=tg u v L j):=(by have:=HTT.out;rw[if_neg (fun h=>h0 h.1)] at this;exact this);have HR2:Hid (RfAt w1 rb F W need (q+2*(j+1)) E):=HR1.out.more (by omega);clear HTT;go_wp2;go_roundw
    case rel=>exact ⟨j+1,by have:=HM.out;have:=HIE.out;omega,by rw[HIE.out];go_num,by rw[HT'.out],HR2.out,HK1.out⟩
    case measure=>have h1:=HIE.out;have h2:=HM.out;simp[intOf];omega
end
structure Mx (s:ByteArray) (T:ByteArray->Nat) (l:List ByteArray) (m:Nat):Prop where
 is:m=0\/∃ h,h ∈ l/\0<knd s/\knd s<knd h/\T h=m
 le:∀ h,h ∈ l->0<knd s->knd s<knd h->T h<=m
theorem Mx.zero {s:ByteArray} {T:ByteArray->Nat}:Mx s T [] 0:=⟨Or.inl rfl,fun _ hh=>absurd hh List.not_mem_nil⟩
theorem Mx.skip {s x:ByteArray} {T:ByteArray->Nat} {l:List ByteArray} {m:Nat} (h:Mx s T l m) (hx:¬ (0<knd s/\knd s<knd x)):Mx s T (l ++ [x]) m:=by
 refine ⟨?_,fun y hy h1 h2=>?_⟩
 ·rcases h.is with h | ⟨y,hy,h1⟩
  ·exact Or.inl h
  ·exact Or.inr ⟨y,List.mem_append_left _ hy,h1⟩
 ·rcases List.mem_append.1 hy with hy | hy
  ·exact h.le y hy h1 h2
  ·have:y=x:=(by simpa using hy);rw[this] at h2;exact absurd ⟨h1,h2⟩ hx
theorem Mx.take {s x:ByteArray} {T:ByteArray->Nat} {l:List ByteArray} {m:Nat} (h:Mx s T l m) (h1 : 0<knd s) (h2:knd s<knd x):Mx s T (l ++ [x]) (max m (T x)):=by
 refine ⟨?_,fun y hy h3 h4=>?_⟩
 ·rcases Nat.le_total m (T x) with hm | hm
  ·exact Or.inr ⟨x,by simp,h1,h2,(Nat.max_eq_right hm).symm⟩
  ·rw[Nat.max_eq_left hm];rcases h.is with h | ⟨y,hy,h5⟩
   ·exact Or.inl h
   ·exact Or.inr ⟨y,List.mem_append_left _ hy,h5⟩
 ·rcases List.mem_append.1 hy with hy | hy
  ·have:=h.le y hy h3 h4;omega
  ·have:y=x:=(by simpa using hy);rw[this];omega
structure Ot (s:ByteArray) (T:ByteArray->Nat) (m:Nat) (was:ByteArray) (l:List ByteArray) (out:ByteArray):Prop where
 nw:∀ h,h ∈ l->knd s<knd h->T h=m->h≠was
 oc:(out=⟨#[]⟩/\∀ h,h ∈ l->knd s<knd h->T h≠m)\/(out ∈ l/\knd s<knd out/\T out=m/\∀ h,h ∈ l->knd s<knd h->T h=m->h=out\/out.toList<h.toList)
section
variable {s was out x : ByteArray} {T : ByteArray → Nat} {l : List ByteArray} {m : Nat}
theorem Ot.zero:Ot s T m was [] ⟨#[]⟩:=⟨fun _ hh=>absurd hh List.not_mem_nil,Or.inl ⟨rfl,fun _ hh=>absurd hh List.not_mem_nil⟩⟩
theorem Ot.skip (h:Ot s T m was l out) (hx:¬ (knd s<knd x/\T x=m)):Ot s T m was (l ++ [x]) out:=by
 have key:∀ y,y ∈ l ++ [x]->knd s<knd y->T y=m->y ∈ l:=fun y hy h1 h2=>by
  rcases List.mem_append.1 hy with hy | hy
  ·exact hy
  ·have:y=x:=(by simpa using hy);rw[this] at h1 h2;exact absurd ⟨h1,h2⟩ hx
 refine ⟨fun y hy h1 h2=>h.nw y (key y hy h1 h2) h1 h2,?_⟩;rcases h.oc with ⟨h1,h2⟩ | ⟨h1,h2,h3,h4⟩
 ·exact Or.inl ⟨h1,fun y hy h3 h4=>h2 y (key y hy h3 h4) h3 h4⟩
 ·exact Or.inr ⟨List.mem_append_left _ h1,h2,h3,fun y hy h5 h6=>h4 y (key y hy h5 h6) h5 h6⟩
theorem Ot.first (h:Ot s T m was l out) (ho:out=⟨#[]⟩) (h1:knd s<knd x) (h2:T x=m) (hw:x≠was):Ot s T m was (l ++ [x]) x:=by
 have hn:∀ y,y ∈ l->knd s<knd y->T y≠m:=by
  rcases h.oc with ⟨_,h3⟩ | ⟨_,h3,_⟩
  ·exact h3
  ·rw[ho,knd_nil] at h3;omega
 refine ⟨fun y hy h3 h4=>?_,Or.inr ⟨by simp,h1,h2,fun y hy h3 h4=>?_⟩⟩
 ·rcases List.mem_append.1 hy with hy | hy
  ·exact h.nw y hy h3 h4
  ·have:y=x:=(by simpa using hy);rw[this];exact hw
 ·rcases List.mem_append.1 hy with hy | hy
  ·exact absurd h4 (hn y hy h3)
  ·exact Or.inl (by simpa using hy)
theorem Ot.later (h:Ot s T m was l out) (ho:out≠⟨#[]⟩) (hw:x≠was) (hs:∀ y,y ∈ l->y.toList<x.toList):Ot s T m was (l ++ [x]) out:=by
 rcases h.oc with ⟨h1,_⟩ | ⟨h1,h2,h3,h4⟩
 ·exact absurd h1 ho
 refine ⟨fun y hy h5 h6=>?_,Or.inr ⟨List.mem_append_left _ h1,h2,h3,fun y hy h5 h6=>?_⟩⟩
 ·rcases List.mem_append.1 hy with hy | hy
  ·exact h.nw y hy h5 h6
  ·have:y=x:=(by simpa using hy);rw[this];exact hw
 ·rcases List.mem_append.1 hy with hy | hy
  ·exact h4 y hy h5 h6
  ·have:y=x:=(by simpa using hy);rw[this];exact Or.inr (hs out h1)
theorem par_low {score:Nat} (h:Mx s T l m) (h0:∀ y,y ∉ l->T y=0) (h1 : 1<=score) (hm:m<score):Par knd T score s was ⟨#[]⟩:=by
 refine Or.inl ⟨rfl,fun y h2 h3=>?_⟩;by_cases hy:y ∈ l
 ·have:=h.le y hy h2 h3;omega
 ·rw[h0 y hy];omega
theorem par_was {score:Nat} (h:Mx s T l m) (h0:∀ y,y ∉ l->T y=0) (h1 : 1<=score) (hm:score<=m) (hs : 0<knd s) (h2:knd s<knd was) (h3:T was=m):Par knd T score s was was:=by
 refine Or.inr ⟨⟨hs,h2⟩,by omega,fun y h4 h5=>?_⟩;by_cases hy:y ∈ l
 ·have:=h.le y hy hs h4;rcases Nat.lt_or_ge (T y) m with h6 | h6
  ·exact Or.inl (by omega)
  ·exact Or.inr ⟨by omega,Or.inr (Or.inl rfl)⟩
 ·rw[h0 y hy] at h5;omega
theorem par_out {score:Nat} (h:Mx s T l m) (ho:Ot s T m was l out) (h0:∀ y,y ∉ l->T y=0) (h1 : 1<=score) (hm:score<=m):Par knd T score s was out:=by
 obtain ⟨z,hz,hs,hz2,hz3⟩:∃ h,h ∈ l/\0<knd s/\knd s<knd h/\T h=m:=by
  rcases h.is with h | h
  ·omega
  ·exact h
 rcases ho.oc with ⟨_,h2⟩ | ⟨h2,h3,h4,h5⟩
 ·exact absurd hz3 (h2 z hz hz2)
 ·refine Or.inr ⟨⟨hs,h3⟩,by omega,fun y h6 h7=>?_⟩;by_cases hy:y ∈ l
  ·have:=h.le y hy hs h6;rcases Nat.lt_or_ge (T y) m with h8 | h8
   ·exact Or.inl (by omega)
   ·have h9:T y=m:=(by omega);refine Or.inr ⟨by omega,?_⟩;rcases h5 y hy h6 h9 with h10 | h10
    ·exact Or.inl h10
    ·exact Or.inr (Or.inr ⟨ho.nw y hy h6 h9,h10⟩)
  ·rw[h0 y hy] at h7;omega
theorem Mx.pos {score:Nat} (h:Mx s T l m) (h1 : 1<=score) (hm:score<=m) : 0<knd s:=by
 rcases h.is with h | ⟨_,_,h,_⟩
 ·omega
 ·exact h
end
structure TsO (V:World) (F:Nat->Prop) (p:Option Addr) (L:List ByteArray):Prop where
 at_:∀ i s,L[i]?=some s->∃ g,p=some ⟨g,0,none⟩/\V.cell? ⟨g,i,none⟩=some (.string s)/\¬ F g/\g<V.heap.size
theorem TsO.kp {V V':World} {F:Nat->Prop} {p:Option Addr} {L:List ByteArray} (h:TsO V F p L) (hk:Kp F V V'):TsO V' F p L where
 at_:=fun i s hs=>by obtain ⟨g,hp,hc,hF,hlt⟩:=h.at_ i s hs;exact ⟨g,hp,by rw[World.cell?_of_block (hk.block g hlt hF)];exact hc,hF,Nat.lt_of_lt_of_le hlt hk.size⟩
theorem tso_of {V:World} {B:Nat} {F:Nat->Prop} {v:Value} {L:List ByteArray} (h:V.ownsRow B 9 1 v L.length (L.map sv)) (hF:∀ b,F b->b<B):∃ p cap,v = .slice p L.length cap/\TsO V F p L:=by
 rcases Nat.eq_zero_or_pos L.length with h0 | h0
 ·have:L = []:=List.length_eq_zero_iff.1 h0;subst this;rcases h.2 with ⟨rfl,_⟩ | ⟨g,cap,cur,hv,_⟩
  ·exact ⟨none,0,rfl,⟨fun i y h=>by simp at h⟩⟩
  ·exact ⟨_,cap,hv,⟨fun i y h=>by simp at h⟩⟩
 ·obtain ⟨g,cap,rfl,h1,h2⟩:=h.form h0;refine ⟨some ⟨g,0,none⟩,cap,rfl,⟨fun j x hx=>⟨g,rfl,?_,fun hf=>by have:=hF g hf;omega,h2⟩⟩⟩;have:=h.cells (g:=g) rfl j (.string x) (by simp[hx,sv]);rw[addr_add] at this;exact this
structure PP (x:Ending) (w w':World) (rb:Nat) (F:Nat->Prop) (W need q:Nat) (E:List (List Sg)) (T:ByteArray->Nat) (score:Nat) (s was:ByteArray):Prop where
 out:∃ p,x = .returned (.string p)/\Par knd T score s was p
 r:RfAt w' rb F W need (q+20000) E
 k:Kp F w w'
theorem lt_of_srt {L:List ByteArray} {i:Nat} {x y:ByteArray} (h:L.Pairwise (fun a b=>a.toList<b.toList)) (hx:L[i]?=some x) (hy:y ∈ L.take i):y.toList<x.toList:=by
 obtain ⟨j,hj⟩:=List.mem_iff_getElem?.1 hy;have hji:j<i:=by have:=(List.getElem?_eq_some_iff.1 hj).1;rw[List.length_take] at this;omega
 rw[List.getElem?_take_of_lt hji] at hj;obtain ⟨h1,e1⟩:=List.getElem?_eq_some_iff.1 hj;obtain ⟨h2,e2⟩:=List.getElem?_eq_some_iff.1 hx;have:=List.pairwise_iff_getElem.1 h j i h1 h2 hji;rw[e1,e2] at this;exact this
section
variable {w : World} {rb : Nat} {F : Nat → Prop} {W need q : Nat} {E : List (List Sg)}
theorem rparent_any (s was:ByteArray) (e span score:Nat) (d:RfAt w rb F W need q E) (he:e<E.length) (hW:W<=8) (hne : 1<=need) (hp1 : 1<=span) (h8:span<=8) (h1 : 1<=score) (h2:score<=8) (hs:s.size<=100000) (hK:∀ L:List ByteArray,L.Pairwise (fun a b=>a.toList<b.toList)->(∀ g,g ∈ L->told g E=true)->L.length<=625) (hq:q<=8000000000) :
  Calls prog 129 #[.pointer (some ⟨rb,0,none⟩),.string s,.int .i64 (e:Int),.int .i64 (span:Int),.int .i64 (score:Int),.string was] w fun x w'=>PP x w w' rb F W need q E (tog (epOf E) W need span e s) score s was:=by
 have HD:Hid (RfAt w rb F W need q E):=d;have hgood:=d.good;obtain ⟨pe,ce,hv⟩:=d.view;have c2:=hv.c2;have HTG:Hid (Calls prog 90 #[.pointer (some ⟨rb,0,none⟩),.int .i64 (E.length:Int)] w fun e w'=>∃ v,e = .returned v/\∃ L,TgsAt w' w.heap.size v L/\L.length<=625/\(∀ g,g ∈ L↔told g E=true)/\Below w.heap.size w w'):=(rtags_any hv).mono (fun e w' h=>by obtain ⟨v,h1,L,h2,_,h4,h5⟩:=h;exact ⟨v,h1,L,h2,hK L h2.srt (fun g hg=>(h4 g).1 hg),h4,h5⟩);obtain ⟨T,hT⟩:∃ T,T=tog (epOf E) W need span e s:=⟨_,rfl⟩;have HT:Hid (T=tog (epOf E) W need span e s):=hT;rw[<- hT];have HT8:Hid (∀ y,T y<=8):=fun y=>by rw[hT];exact tog_le _ _ _ _ _ _ _ hp1 h8
 have HKS:Hid (∀ V,Calls prog 87 #[.string s] V fun e w'=>e = .returned (.int .i64 (knd s:Int))/\Below V.heap.size V w'):=fun V=>kind_any s V hs;have HTO:Hid (∀ V y q',RfAt V rb F W need q' E->y.size<=100000->q'<=9000000000->Calls prog 149 #[.pointer (some ⟨rb,0,none⟩),.string s,.string y,.int .i64 (e:Int),.int .i64 (span:Int)] V fun x w'=>x = .returned (.int .i64 ((T y:Nat):Int))/\RfAt w' rb F W need (q'+16) E/\Kp F V w'):=fun V y q' hV hy hq'=>by rw[hT];exact rtog_any s y e span hV he hW h8 hs hy hq'
 have hsI:(score:Int)<=8:=by omega
 obtain ⟨ks,hks⟩:∃ ks,ks=knd s:=⟨_,rfl⟩;have HKSE:Hid (ks=knd s):=hks;rw[<- hks] at HKS;have hks3:(ks:Int)<=3:=by have:=knd_le s;omega
 clear hT hv d hks;go_enter func129,ntmps129;go_wp2_with fail;refine HTG.out.mono ?_;rintro x w1 ⟨v,rfl,L,hT1,hl1,hm1,hb1⟩;obtain ⟨pL,cL,rfl,hts⟩:=tso_of hT1.own (fun b hb=>HD.out.lim hb);have HTS:Hid (TsO w1 F pL L):=hts;have HSRT:Hid (L.Pairwise (fun a b=>a.toList<b.toList)):=hT1.srt;have HM1:Hid (∀ g,g ∈ L↔told g E=true):=hm1;have HR1:Hid (RfAt w1 rb F W need q E):=HD.out.below hb1;have HK1:Hid (Kp F w w1):=below_kp hb1 F;have HLS:Hid (∀ y,y ∈ L->y.size<=100000):=fun y hy=>by obtain ⟨e',h'⟩:=told_iff.1 ((hm1 y).1 hy);have:=light_size (k:=E.length) hgood;rw[List.take_length] at this;exact this y ⟨e',h'⟩
 have H0:Hid (∀ y,y ∉ L->T y=0):=fun y hy=>by rw[HT.out];refine tog_unseen2 hne (unseen_of (fun h=>hy ((hm1 y).2 (told_iff.2 h))))
 obtain ⟨N,hN⟩:∃ N,N=L.length:=⟨_,rfl⟩;have HN:Hid (N=L.length):=hN;rw[<- hN] at hl1 ⊢;have hNI:(N:Int)<=625:=by omega
 clear hts hT1 hm1 hb1 hN HTG c2 hgood;go_wp2;go_loopw [14,15] (fun mm i V=>∃ j m:Nat,j<=N/\i = .int .i64 (j:Int)/\mm = .int .i64 (m:Int)/\m<=8/\Mx s T (L.take j) m/\RfAt V rb F W need (q+16*j) E/\Kp F w1 V) (fun _ i _=>N-(intOf i).toNat)
 case atStart=>exact ⟨0,0,Nat.zero_le _,rfl,rfl,by omega,by rw[List.take_zero];exact Mx.zero,HR1.out,Kp.refl _ _⟩
 case round=>
  obtain ⟨j,m,hj,rfl,rfl,hm8,hMx,hR,hK⟩:=hrel;have HMX:Hid (Mx s T (L.take j) m):=hMx;have HR:Hid (RfAt wr rb F W need (q+16*j) E):=hR;have HK:Hid (Kp F w1 wr):=hK;have hm8I:(m:Int)<=8:=by omega
  clear hMx hR hK;by_cases hlt:j<N
  case pos=>
   have hjI:(j:Int)<N:=(by omega);have hj':j<L.length:=(by rw[<- HN.out];exact hlt);obtain ⟨gL,hpL,hcL,hFg,hgl⟩:=(HTS.out.kp HK.out).at_ j _ (List.getElem?_eq_getElem hj');have HTK:Hid (L.take (j+1)=L.take j ++ [L[j]]):=(by show _ = _;rw[List.take_add_one,List.getElem?_eq_getElem hj'];rfl);have hyz:L[j].size<=100000:=HLS.out _ (List.getElem_mem hj');generalize L[j]=y at *;subst hpL;have HCL:Hid (∀ V,Below wr.heap.size wr V->V.cell? ⟨gL,j,none⟩=some (.string y)):=fun V hV=>(by rw[hV.cell hgl];exact hcL);by_cases hk0 : 0<ks
   case neg=>
    have hk0I:¬ (0:Int)<ks:=(by omega);have HSK:Hid (Mx s T (L.take (j+1)) m):=(by rw[HTK.out];exact HMX.out.skip (fun h=>by have:=HKSE.out;omega));go_wp2_with fail;refine (HKS.out _).mono ?_;rintro x w2 ⟨rfl,hb2⟩;have HR2:Hid (RfAt w2 rb F W need (q+16*(j+1)) E):=(HR.out.below hb2).more (by omega);have HK2:Hid (Kp F w1 w2):=HK.out.trans (below_kp hb2 F);clear hb2;go_wp2;go_roundw
    case rel=>exact ⟨j+1,m,by omega,by go_num,rfl,hm8,HSK.out,HR2.out,HK2.out⟩
    case measure=>simp[intOf];omega
   case pos=>
    have hk0I:(0:Int)<ks:=(by omega);obtain ⟨ky,hky⟩:∃ ky,ky=knd y:=⟨_,rfl⟩;have HKY:Hid (∀ V,Calls prog 87 #[.string y] V fun e w'=>e = .returned (.int .i64 (ky:Int))/\Below V.heap.size V w'):=fun V=>(by rw[hky];exact kind_any y V hyz);have HKYE:Hid (ky=knd y):=hky;have hky3:(ky:Int)<=3:=(by have:=knd_le y;omega);clear hky;go_wp2_with fail;refine (HKS.out _).mono ?_;rintro x w2 ⟨rfl,hb2⟩;have HB2:Hid (Below wr.heap.size wr w2):=hb2;have hc2:=HCL.out w2 hb2;clear hb2;go_wp2_with fail;refine (HKY.out _).mono ?_;rintro x w3 ⟨rfl,hb3⟩;have HB3:Hid (Below wr.heap.size wr w3):=HB2.out.trans (hb3.mono HB2.out.size);clear hb3 hc2;go_wp2_with fail;refine (HKS.out _).mono ?_;rintro x w4 ⟨rfl,hb4⟩;have HB4:Hid (Below wr.heap.size wr w4):=HB3.out.trans (hb4.mono HB3.out.size);have hc4:=HCL.out w4 HB4.out;have HR4:Hid (RfAt w4 rb F W need (q+16*j) E):=HR.out.below HB4.out;have HK4:Hid (Kp F w1 w4):=HK.out.trans (below_kp HB4.out F);clear hb4;by_cases hkk:ks<ky
    case neg=>
     have hkkI:¬ (ks:Int)<ky:=(by omega);have HSK:Hid (Mx s T (L.take (j+1)) m):=(by rw[HTK.out];exact HMX.out.skip (fun h=>by have h3:=HKSE.out;have h4:=HKYE.out;omega));have HR5:Hid (RfAt w4 rb F W need (q+16*(j+1)) E):=HR4.out.more (by omega);go_wp2;go_roundw
     case rel=>exact ⟨j+1,m,by omega,by go_num,rfl,hm8,HSK.out,HR5.out,HK4.out⟩
     case measure=>simp[intOf];omega
    case pos=>
     have hkkI:(ks:Int)<ky:=(by omega);have HSK:Hid (Mx s T (L.take (j+1)) (max m (T y))):=(by rw[HTK.out];exact HMX.out.take (by have:=HKSE.out;omega) (by have h3:=HKSE.out;have h4:=HKYE.out;omega));have HC5:=HTO.out w4 y _ HR4.out hyz (by omega);have HC5:Hid _:=HC5;obtain ⟨ty,hty⟩:∃ ty,ty=T y:=⟨_,rfl⟩;have hty8:ty<=8:=(by rw[hty];exact HT8.out y);have htyI:(ty:Int)<=8:=(by omega);rw[<- hty] at HSK HC5;obtain ⟨mx,hmxe⟩:∃ mx,mx=max m ty:=⟨_,rfl⟩;have hmx:max (m:Int) (ty:Int)=(mx:Int):=(by rw[hmxe];omega);have hmx8:mx<=8:=(by rw[hmxe];omega);rw[<- hmxe] at HSK;clear hty hmxe;go_wp2_with fail;refine Calls.mono HC5.out ?_;rintro x w5 ⟨rfl,hr5,hk5⟩;have HR5:Hid (RfAt w5 rb F W need (q+16*(j+1)) E):=hr5.more (by omega);have HK5:Hid (Kp F w1 w5):=HK4.out.trans hk5;clear hr5 hk5 HC5;go_wp2;go_roundw
     case rel=>exact ⟨j+1,mx,by omega,by go_num,by first | rfl | (rw[hmx]),hmx8,HSK.out,HR5.out,HK5.out⟩
     case measure=>simp[intOf];omega
  case neg=>
   have hjN:j=N:=(by omega);subst hjN;have hII:¬ (j:Int)<j:=(by omega);have HMA:Hid (Mx s T L m):=(by have:=HMX.out;rw[HN.out,List.take_length] at this;exact this);by_cases hms:score<=m
   case neg=>
    have hmsI:¬ (score:Int)<=m:=(by omega);have HPR:Hid (Par knd T score s was ⟨#[]⟩):=par_low HMA.out H0.out h1 (by omega);go_wp2;go_loopw [16,17] (fun o i V=>i = .int .i64 ((0:Nat):Int)/\o = .string ⟨#[]⟩/\V=wr) (fun _ _ _=>0)
    case atStart=>exact ⟨rfl,rfl,rfl⟩
    case round=>
     obtain ⟨rfl,rfl,rfl⟩:=hrel;by_cases h0N : 0<j
     ·have h0I:(0:Int)<j:=(by omega);go_wp2;go_ret;exact ⟨⟨_,rfl,HPR.out⟩,HR.out.more (by omega),HK1.out.trans HK.out⟩
     ·have h0I:¬ (0:Int)<j:=(by omega);go_wp2;go_ret;exact ⟨⟨_,rfl,HPR.out⟩,HR.out.more (by omega),HK1.out.trans HK.out⟩
   case pos=>
    have hmsI:(score:Int)<=m:=(by omega);have HKP:Hid (0<knd s):=HMA.out.pos h1 hms;go_wp2;go_loopw [16,17] (fun o i V=>∃ (i':Nat) (out:ByteArray),i'<=j/\i = .int .i64 (i':Int)/\o = .string out/\Ot s T m was (L.take i') out/\RfAt V rb F W need (q+16*j+16*i') E/\Kp F w1 V) (fun _ i _=>j-(intOf i).toNat)
    case atStart=>exact ⟨0,⟨#[]⟩,Nat.zero_le _,rfl,rfl,by rw[List.take_zero];exact Ot.zero,HR.out,HK.out⟩
    case round=>
     clear HR HK;obtain ⟨i',out,hi,rfl,rfl,hO,hR,hK⟩:=hrel;have HO:Hid (Ot s T m was (L.take i') out):=hO;have HR:Hid (RfAt wr rb F W need (q+16*j+16*i') E):=hR;have HK:Hid (Kp F w1 wr):=hK;clear hO hR hK;by_cases hil:i'<j
     case neg=>have hij:i'=j:=(by omega);subst hij;have hII':¬ (i':Int)<i':=(by omega);have HPR:Hid (Par knd T score s was out):=(by have:=HO.out;rw[HN.out,List.take_length] at this;exact par_out HMA.out this H0.out h1 hms);go_wp2;go_ret;exact ⟨⟨_,rfl,HPR.out⟩,HR.out.more (by omega),HK1.out.trans HK.out⟩
     case pos=>
      have hiI:(i':Int)<j:=(by omega);have hi':i'<L.length:=(by rw[<- HN.out];exact hil);obtain ⟨gL,hpL,hcL,hFg,hgl⟩:=(HTS.out.kp HK.out).at_ i' _ (List.getElem?_eq_getElem hi');have HTK:Hid (L.take (i'+1)=L.take i' ++ [L[i']]):=(by show _ = _;rw[List.take_add_one,List.getElem?_eq_getElem hi'];rfl);have hyz:L[i'].size<=100000:=HLS.out _ (List.getElem_mem hi');have HLT:Hid (∀ z,z ∈ L.take i'->z.toList<L[i'].toList):=fun z hz=>lt_of_srt HSRT.out (List.getElem?_eq_getElem hi') hz;generalize L[i']=y at *;subst hpL;have HCL:Hid (∀ V,Kp F wr V->V.cell? ⟨gL,i',none⟩=some (.string y)):=fun V hV=>(by rw[World.cell?_of_block (hV.block gL hgl hFg)];exact hcL);obtain ⟨ky,hky⟩:∃ ky,ky=knd y:=⟨_,rfl⟩;have HKY:Hid (∀ V,Calls prog 87 #[.string y] V fun e w'=>e = .returned (.int .i64 (ky:Int))/\Below V.heap.size V w'):=fun V=>(by rw[hky];exact kind_any y V hyz);have HKYE:Hid (ky=knd y):=hky;have hky3:(ky:Int)<=3:=(by have:=knd_le y;omega);clear hky;go_wp2_with fail;refine (HKY.out _).mono ?_;rintro x w3 ⟨rfl,hb3⟩;have HB3:Hid (Below wr.heap.size wr w3):=hb3;clear hb3;go_wp2_with fail;refine (HKS.out _).mono ?_;rintro x w4 ⟨rfl,hb4⟩;have HB4:Hid (Below wr.heap.size wr w4):=HB3.out.trans (hb4.mono HB3.out.size);have hc4:=HCL.out w4 (below_kp HB4.out F);have HR4:Hid (RfAt w4 rb F W need (q+16*j+16*i') E):=HR.out.below HB4.out;have HK4:Hid (Kp F wr w4):=below_kp HB4.out F;clear hb4 hcL;by_cases hkk:ks<ky
      case neg=>
       have hkkI:¬ (ks:Int)<ky:=(by omega);have HSK:Hid (Ot s T m was (L.take (i'+1)) out):=(by rw[HTK.out];exact HO.out.skip (fun h=>by have h3:=HKSE.out;have h4:=HKYE.out;omega));have HR5:Hid (RfAt w4 rb F W need (q+16*j+16*(i'+1)) E):=HR4.out.more (by omega);have HK5:Hid (Kp F w1 w4):=HK.out.trans HK4.out;go_wp2;go_roundw
       case rel=>exact ⟨i'+1,out,by omega,by go_num,rfl,HSK.out,HR5.out,HK5.out⟩
       case measure=>simp[intOf];omega
      case pos=>
       have hkkI:(ks:Int)<ky:=(by omega);have HC5:=HTO.out w4 y _ HR4.out hyz (by omega);have HC5:Hid _:=HC5;obtain ⟨ty,hty⟩:∃ ty,ty=T y:=⟨_,rfl⟩;have HTY:Hid (ty=T y):=hty;have hty8:ty<=8:=(by rw[hty];exact HT8.out y);have htyI:(ty:Int)<=8:=(by omega);rw[<- hty] at HC5;clear hty;go_wp2_with fail;refine Calls.mono HC5.out ?_;rintro x w5 ⟨rfl,hr5,hk5⟩;have HR5:Hid (RfAt w5 rb F W need (q+16*j+16*(i'+1)) E):=hr5.more (by omega);have HK5:Hid (Kp F w1 w5):=(HK.out.trans HK4.out).trans hk5;have hc5:=HCL.out w5 (HK4.out.trans hk5);clear hr5 hk5 HC5 hc4;by_cases htm:ty=m
       case neg=>
        have htmE:((ty:Int) == m)=false:=(by simp;omega);have htmN:(ty == m)=false:=(by simpa using htm);have HSK:Hid (Ot s T m was (L.take (i'+1)) out):=(by rw[HTK.out];exact HO.out.skip (fun h=>htm (by rw[HTY.out];exact h.2)));clear htm;go_wp2;go_roundw
        case rel=>exact ⟨i'+1,out,by omega,by go_num,rfl,HSK.out,HR5.out,HK5.out⟩
        case measure=>simp[intOf];omega
       case pos=>
        have htmE:((ty:Int) == m)=true:=(by simp;omega);have htmN:(ty == m)=true:=(by simpa using htm);have HTM:Hid (T y=m):=(by have:=HTY.out;show _ = _;omega);have HKK:Hid (knd s<knd y):=(by have h3:=HKSE.out;have h4:=HKYE.out;show _ < _;omega);clear htm;by_cases hyw:y=was
        case pos=>have hywE:(y.toList == was.toList)=true:=sbeq_true hyw;have HPR:Hid (Par knd T score s was was):=par_was HMA.out H0.out h1 hms HKP.out (by rw[<- hyw];exact HKK.out) (by rw[<- hyw];exact HTM.out);clear hyw;go_wp2;go_ret;exact ⟨⟨_,rfl,HPR.out⟩,HR5.out.more (by omega),HK1.out.trans HK5.out⟩
        case neg=>
         have hywE:(y.toList == was.toList)=false:=sbeq_false hyw;by_cases hoe:out=⟨#[]⟩
         case pos=>
          have HSK:Hid (Ot s T m was (L.take (i'+1)) y):=(by rw[HTK.out];exact HO.out.first hoe HKK.out HTM.out hyw);subst hoe;go_wp2;go_roundw
          case rel=>exact ⟨i'+1,y,by omega,by go_num,rfl,HSK.out,HR5.out,HK5.out⟩
          case measure=>simp[intOf];omega
         case neg=>
          have hpl:¬ out.toList = []:=fun h=>hoe (toL_inj (by rw[h,ByteArray.toList_eq]));have hpl1:(out.toList == [])=false:=(by simpa using hpl);have hpl2:out.toList.isEmpty=false:=(by cases h:out.toList with | nil=>exact absurd h hpl | cons _ _=>rfl);have HSK:Hid (Ot s T m was (L.take (i'+1)) out):=(by rw[HTK.out];exact HO.out.later hoe hyw HLT.out);clear hpl hoe;go_wp2;go_roundw
          case rel=>exact ⟨i'+1,out,by omega,by go_num,rfl,HSK.out,HR5.out,HK5.out⟩
          case measure=>simp[intOf];omega
end
theorem infoS:(prog.info? 9).map (fun i=>(i.zero,i.size,i.bytes))=some (some (.string ⟨#[]⟩),1,16):=by kernel_rfl
def lst (fs:List ByteArray) (e:Nat) (_:ByteArray):ByteArray:=fs.getD e ⟨#[]⟩
theorem lst_lt {fs:List ByteArray} {p s:ByteArray} {e:Nat} (h:e<fs.length):lst (fs ++ [p]) e s=lst fs e s:=by unfold lst;rw[List.getD_eq_getElem?_getD,List.getD_eq_getElem?_getD,List.getElem?_append_left h]
theorem lst_end {fs:List ByteArray} {p s:ByteArray}:lst (fs ++ [p]) fs.length s=p:=by unfold lst;rw[List.getD_eq_getElem?_getD,List.getElem?_append_right (Nat.le_refl _)];simp
theorem ahd_lst {fs:List ByteArray} {p s:ByteArray} {e:Nat} (h:e<=fs.length):ahd (lst (fs ++ [p])) e s=ahd (lst fs) e s:=by
 unfold ahd;by_cases h0:e=0
 ·rw[if_pos h0,if_pos h0]
 ·rw[if_neg h0,if_neg h0,lst_lt (by omega)]
theorem ahd_end {fs:List ByteArray} {p s:ByteArray}:ahd (lst (fs ++ [p])) (fs.length+1) s=p:=by unfold ahd;rw[if_neg (by omega),Nat.add_sub_cancel,lst_end]
def Pall (E:List (List Sg)) (W need span score:Nat) (s:ByteArray) (fs:List ByteArray):Prop:=∀ e,e<fs.length->Par knd (tog (epOf E) W need span e s) score s (ahd (lst fs) e s) (lst fs e s)
theorem Pall.snoc {E:List (List Sg)} {W need span score:Nat} {s p:ByteArray} {fs:List ByteArray} (h:Pall E W need span score s fs) (hp:Par knd (tog (epOf E) W need span fs.length s) score s (ahd (lst fs) fs.length s) p):Pall E W need span score s (fs ++ [p]):=fun e he=>by
 rw[List.length_append] at he;have he:e<fs.length+1:=he;rw[ahd_lst (by omega)];by_cases h1:e<fs.length
 ·rw[lst_lt h1];exact h e h1
 ·have:e=fs.length:=by omega
  subst this;rw[lst_end];exact hp
structure PS (x:Ending) (w w':World) (rb:Nat) (F:Nat->Prop) (W need q:Nat) (E:List (List Sg)) (span score:Nat) (s:ByteArray) (k:Nat):Prop where
 out:∃ (p:Option Addr) (cap:Nat) (fs:List ByteArray),fs.length=k/\x = .returned (.slice p k cap)/\Pall E W need span score s fs/\TsO w' F p fs
 r:RfAt w' rb F W need (q+20000*k) E
 k:Kp F w w'
section
variable {w : World} {rb : Nat} {F : Nat → Prop} {W need q : Nat} {E : List (List Sg)}
theorem rparents_any (s:ByteArray) (k span score:Nat) (d:RfAt w rb F W need q E) (hk:k<=E.length) (hW:W<=8) (hne : 1<=need) (hp1 : 1<=span) (h8:span<=8) (h1 : 1<=score) (h2:score<=8) (hs:s.size<=100000) (hK:∀ L:List ByteArray,L.Pairwise (fun a b=>a.toList<b.toList)->(∀ g,g ∈ L->told g E=true)->L.length<=625) (hq:q<=7000000000) :
  Calls prog 95 #[.pointer (some ⟨rb,0,none⟩),.string s,.int .i64 (k:Int),.int .i64 (span:Int),.int .i64 (score:Int)] w fun x w'=>PS x w w' rb F W need q E span score s k:=by
 obtain ⟨i9,hi9,hz9,hs9,hb9⟩:=info_parts infoS;have HD:Hid (RfAt w rb F W need q E):=d;have h25:=(light_iff.1 d.good).1;have HKE:Hid (k<=E.length):=hk;have hkI:(k:Int)<=100:=by omega
 have hk25:k<=100:=by omega
 have HPA:Hid (∀ V q' e was,RfAt V rb F W need q' E->q'<=8000000000->e<k->Calls prog 129 #[.pointer (some ⟨rb,0,none⟩),.string s,.int .i64 ((e:Nat):Int),.int .i64 (span:Int),.int .i64 (score:Int),.string was] V fun x w'=>PP x V w' rb F W need q' E (tog (epOf E) W need span e s) score s was):=fun V q' e was hV hq' he=>rparent_any s was e span score hV (by omega) hW hne hp1 h8 h1 h2 hs hK hq';clear d hk h25;go_enter func95,ntmps95;go_wp2;go_loopw [11,12,13] (fun l was i V=>∃ (fs:List ByteArray) (p:Option Addr) (cap j:Nat),j=fs.length/\j<=k/\i = .int .i64 (j:Int)/\was = .string (ahd (lst fs) j s)/\l = .slice p j cap/\V.ownsRow w.heap.size 9 1 (.slice p j cap) j (fs.map sv)/\Pall E W need span score s fs/\RfAt V rb F W need (q+20000*j) E/\Kp F w V) (fun _ _ i _=>k-(intOf i).toNat)
 case atStart=>exact ⟨[],none,0,0,rfl,Nat.zero_le _,rfl,rfl,rfl,World.ownsRow_nil _ _ _ _,fun e he=>by simp at he,HD.out,Kp.refl _ _⟩
 case round=>
  obtain ⟨fs,p,cap,j,hjl,hj,rfl,rfl,rfl,hrow,hall,hR,hK⟩:=hrel;have HJL:Hid (j=fs.length):=hjl;have HROW:Hid (wr.ownsRow w.heap.size 9 1 (.slice p j cap) j (fs.map sv)):=hrow;have HALL:Hid (Pall E W need span score s fs):=hall;have HR:Hid (RfAt wr rb F W need (q+20000*j) E):=hR;have HK:Hid (Kp F w wr):=hK;clear hjl hrow hall hR hK;by_cases hlt:j<k
  case neg=>have hjk:j=k:=(by omega);subst hjk;have hII:¬ (j:Int)<j:=(by omega);have HF:Hid (TsO wr F p fs):=(by have h:=HROW.out;rw[HJL.out] at h;obtain ⟨p',c',hpe,hts⟩:=tso_of h (fun b hb=>HD.out.lim hb);simp at hpe;rw[<- hpe.1] at hts;exact hts);go_wp2;go_ret;exact ⟨⟨p,cap,fs,HJL.out.symm,rfl,HALL.out,HF.out⟩,HR.out,HK.out⟩
  case pos=>
   have hjI:(j:Int)<k:=(by omega);have HC:=HPA.out wr _ j (ahd (lst fs) j s) HR.out (by omega) hlt;have HC:Hid _:=HC;obtain ⟨ws,hws⟩:∃ ws,ws=ahd (lst fs) j s:=⟨_,rfl⟩;have HWS:Hid (ws=ahd (lst fs) j s):=hws;rw[<- hws] at HC ⊢;clear hws;go_wp2_with fail;refine Calls.mono HC.out ?_;rintro x w1 hpp;obtain ⟨y,rfl,hpar⟩:=hpp.out;have HPAR:Hid (Par knd (tog (epOf E) W need span j s) score s (ahd (lst fs) j s) y):=(by rw[<- HWS.out];exact hpar);have HR1:Hid (RfAt w1 rb F W need (q+20000*(j+1)) E):=hpp.r.more (by omega);have HK1:Hid (Kp F w w1):=HK.out.trans hpp.k;have hlow:∀ b,(Value.slice p j cap).ownBlock=some b->¬ F b:=fun b hb hf=>(by have h1:=(HROW.out.lt b hb).1;have h2:=HD.out.lim hf;omega);have hrow1:=own_keep HROW.out (V':=w1) (fun b hb=>hpp.k.block b (own_lt HROW.out hb) (hlow b hb));have hpo:=hrow1.alloc (.cells #[.string y] 9);have hs1:w.heap.size<=w1.heap.size:=HK1.out.size;clear hpp hpar HC hlow;go_wp2_with (at_builtin;refine wpList_append_lies _ rfl _ _ 63 rfl w.heap.size 9 i9 (.string ⟨#[]⟩) 1 16 underlying63 hi9 hz9 hs9 hb9 rfl (by decide) _ _ _ rfl hpo ⟨w1.heap.size,0,none⟩ 1 1 [.string y] rfl rfl ?q1 ?q2 (by omega) ?q3 ?q4 ?q5 (w1.heap.size+1) ?q6 ?_)
   try case q1=>
    intro i u hi
    match i,hi with
    | 0,hi=>simp at hi;subst hi;simp[Addr.add]
   try case q2=>first | rfl | (intro u hu;simp at hu;subst hu;rfl)
   try case q3=>unfold maxLen;omega
   try case q4=>omega
   try case q5=>simp;omega
   try case q6=>simp
   intro g3 cv3 V3 hown3 hgrow3 hat3 hlt3;have HO3:Hid (V3.ownsRow w.heap.size 9 1 (.slice (some ⟨g3,0,none⟩) (j+1) cv3) (j+1) ((fs ++ [y]).map sv)):=(by rw[List.map_append];exact hown3);have hk3:Kp F w V3:=(HK1.out.trans (alloc_kp F w1 _)).then (G:=fun b=>(Value.slice p j cap).ownBlock=some b) (grown_kp hgrow3 (fun b e=>e)) (fun b hb e=>by have:=(hrow1.lt b e).1;omega)
   have HK3:Hid (Kp F w V3):=hk3
   have HR3:Hid (RfAt V3 rb F W need (q+20000*(j+1)) E):=HR1.out.move (by have:=hgrow3.size;rw[World.size_alloc] at this;omega) (fun b hb hf=>by
    have h2:=HD.out.lim hf;rw[hgrow3.block b (by rw[World.size_alloc];omega) (fun e=>by have:=(hrow1.lt b e.symm).1;omega)];exact Below.heap_alloc w1 _ _ hb)
   have HPALL:Hid (Pall E W need span score s (fs ++ [y])):=HALL.out.snoc (by rw[<- HJL.out];exact HPAR.out);have HLEN:Hid (j+1=(fs ++ [y]).length):=(by rw[List.length_append,HJL.out];rfl);have HAE:Hid (ahd (lst (fs ++ [y])) (j+1) s=y):=(by rw[HJL.out];exact ahd_end);clear hown3 hgrow3 hat3 hlt3 hpo hrow1 hk3;go_wp2;go_roundw
   case rel=>exact ⟨fs ++ [y],_,_,j+1,HLEN.out,by omega,by go_num,by rw[HAE.out],rfl,HO3.out,HPALL.out,HR3.out,HK3.out⟩
   case measure=>simp[intOf];omega
end
end InA
end Go.Proofs.YtmolafjalaeoaaaGreatDoor
