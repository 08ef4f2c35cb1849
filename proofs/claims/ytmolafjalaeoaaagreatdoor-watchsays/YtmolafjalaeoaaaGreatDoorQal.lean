/-
  InM InW
-/
import Derived.Sort.Walk0
import Derived.Test.YtmolafjalaeoaaaGreatDoorQak
set_option maxRecDepth 100000
set_option maxHeartbeats 8000000
namespace Go.Proofs.YtmolafjalaeoaaaGreatDoor
open Tryz
namespace InM
open Go TkM
def tg (u v:Nat->Int) (L:Nat):Nat->Nat
 | 0=>0
 | k+1=>tg u v L k+(if 0<=u (L+k)/\u (L+k)=v (L+k) then 1 else 0)
theorem tg_le (u v:Nat->Int) (L:Nat):∀ k,tg u v L k<=k
 | 0=>Nat.le_refl _
 | k+1=>by have:=tg_le u v L k;unfold tg;split<;>omega
theorem tg_yes {u v:Nat->Int} {L k:Nat} (h : 0<=u (L+k)/\u (L+k)=v (L+k)):tg u v L (k+1)=tg u v L k+1:=by show _ + _ = _;rw[if_pos h]
theorem tg_no {u v:Nat->Int} {L k:Nat} (h:¬ (0<=u (L+k)/\u (L+k)=v (L+k))):tg u v L (k+1)=tg u v L k:=by show _ + _ = _;rw[if_neg h,Nat.add_zero]
theorem tg_congr {u v u' v':Nat->Int} {L:Nat}:∀ {k},(∀ j,j<k->u (L+j)=u' (L+j)/\v (L+j)=v' (L+j))->tg u v L k=tg u' v' L k
 | 0,_=>rfl
 | k+1,h=>by unfold tg;rw[(h k (by omega)).1,(h k (by omega)).2,tg_congr (fun j hj=>h j (by omega))]
theorem tg_zero {u v:Nat->Int} {L:Nat}:∀ {k},(∀ j,j<k->u (L+j)<0\/v (L+j)<0)->tg u v L k=0
 | 0,_=>rfl
 | k+1,h=>by rw[tg_no,tg_zero (fun j hj=>h j (by omega))];have:=h k (by omega);omega
def tog (ep:Nat->List Sg) (W need span e:Nat) (g h:ByteArray):Nat:=tg (whr g ep W need) (whr h ep W need) (lo span e) (e+1-lo span e)
theorem tog_le (ep:Nat->List Sg) (W need span e:Nat) (g h:ByteArray) (hs : 1<=span) (h8:span<=8):tog ep W need span e g h<=8:=by refine Nat.le_trans (tg_le _ _ _ _) ?_;unfold lo;omega
theorem tog_congr {ep ep':Nat->List Sg} {W need span e:Nat} {g h:ByteArray} (hx:∀ k,k<=e->ep k=ep' k):tog ep W need span e g h=tog ep' W need span e g h:=by refine tg_congr (fun j hj=>⟨whr_congr ?_ ?_,whr_congr ?_ ?_⟩)<;>(intro p k hk;rw[hx k (by omega)])
theorem cnt_unseen {g:ByteArray} {p:Int} {ep:Nat->List Sg} {L:Nat}:∀ {k},(∀ j,seenG g (ep j)=false)->cnt g p ep L k=0
 | 0,_=>rfl
 | k+1,h=>by
  unfold cnt
  have:seenAt g p (ep (L+k))=false:=by
   cases h1:seenAt g p (ep (L+k)) with
   | false=>rfl
   | true=>have:=seenAt_seen h1;rw[h] at this;cases this
  rw[this,cnt_unseen h];rfl
theorem whr_unseen {g:ByteArray} {ep:Nat->List Sg} {W need e:Nat} (hn : 1<=need) (h:∀ j,seenG g (ep j)=false):whr g ep W need e = -1:=by
 rcases bst_is need (cW g ep W e) (sW g ep W e) 8 with ⟨hb,_⟩ | ⟨q,hb,hq,hq2,_⟩
 ·exact hb
 ·exfalso;have:cW g ep W e q=0:=cnt_unseen h;omega
theorem tog_unseen1 {ep:Nat->List Sg} {W need span e:Nat} {g h:ByteArray} (hn : 1<=need) (hu:∀ j,seenG g (ep j)=false):tog ep W need span e g h=0:=
 tg_zero (fun j _=>Or.inl (by rw[whr_unseen hn hu];decide))
theorem tog_unseen2 {ep:Nat->List Sg} {W need span e:Nat} {g h:ByteArray} (hn : 1<=need) (hu:∀ j,seenG h (ep j)=false):tog ep W need span e g h=0:=
 tg_zero (fun j _=>Or.inr (by rw[whr_unseen hn hu];decide))
theorem unseen_of {g:ByteArray} {ep:Nat->List Sg} (h:¬ ∃ e,seenG g (ep e)=true):∀ j,seenG g (ep j)=false:=fun j=>by
 cases h1:seenG g (ep j) with
 | false=>rfl
 | true=>exact absurd ⟨j,h1⟩ h
def Nb (t:ByteArray->Nat) (was h p:ByteArray):Prop:=t h<t p\/(t h=t p/\(h=p\/p=was\/(h≠was/\p.toList<h.toList)))
def Par (kd:ByteArray->Nat) (t:ByteArray->Nat) (score:Nat) (g was p:ByteArray):Prop:=
 (p=⟨#[]⟩/\∀ h,0<kd g->kd g<kd h->t h<score)\/((0<kd g/\kd g<kd p)/\score<=t p/\∀ h,kd g<kd h->score<=t h->Nb t was h p)
theorem Par.unique {kd t:ByteArray->Nat} {score:Nat} {g was p p':ByteArray} (h:Par kd t score g was p) (h':Par kd t score g was p'):p=p':=by
 rcases h with ⟨rfl,h⟩ | ⟨h1,h2,h3⟩<;>rcases h' with ⟨rfl,h'⟩ | ⟨h1',h2',h3'⟩
 ·rfl
 ·have:=h p' h1'.1 h1'.2;omega
 ·have:=h' p h1.1 h1.2;omega
 ·have a:=h3 p' h1'.2 h2';have b:=h3' p h1.2 h2;rcases a with a | ⟨_,a⟩<;>rcases b with b | ⟨_,b⟩
  ·omega
  ·omega
  ·omega
  ·rcases a with a | a | ⟨a,a'⟩
   ·exact a.symm
   ·rcases b with b | b | ⟨b,b'⟩
    ·exact b
    ·rw[a,b]
    ·exact absurd a b
   ·rcases b with b | b | ⟨b,b'⟩
    ·exact b
    ·exact absurd b a
    ·exact absurd (List.lt_trans a' b') (List.lt_irrefl _)
theorem Par.congr {kd t t':ByteArray->Nat} {score:Nat} {g was p:ByteArray} (h:Par kd t score g was p) (ht:∀ x,t x=t' x):Par kd t' score g was p:=by have:t=t':=funext ht;rw[<- this];exact h
def bt (c1:Nat) (w1:Bool) (x1:ByteArray) (c2:Nat) (w2:Bool) (x2:ByteArray):Bool:=if c1=c2 then (if w1=w2 then Op.bytesLess x1.toList x2.toList else w1) else decide (c2<c1)
theorem bless_true {a b:ByteArray} (h:Op.bytesLess a.toList b.toList=true):a.toList<b.toList:=by rw[bytesLess_eq] at h;simpa using h
theorem toL_inj {a b:ByteArray} (h:a.toList=b.toList):a=b:=by rw[ByteArray.toList_eq,ByteArray.toList_eq] at h;cases a;cases b;simp at h;rw[h]
theorem lt_tri {a b:List UInt8} (h:¬ a<b) (hn:a≠b):b<a:=by
 have h1:b<=a:=h;rcases List.le_iff_lt_or_eq.1 h1 with h2 | h2
 ·exact h2
 ·exact absurd h2.symm hn
theorem bless_false {a b:ByteArray} (h:Op.bytesLess a.toList b.toList=false) (hn:¬ a=b):b.toList<a.toList:=by
 refine lt_tri (fun h'=>?_) (fun e=>hn (toL_inj e));have:Op.bytesLess a.toList b.toList=true:=by rw[bytesLess_eq];simpa using h'
 rw[this] at h;cases h
def Bs (kd t:ByteArray->Nat) (score:Nat) (g was:ByteArray) (L:List ByteArray) (p:ByteArray) (c:Nat) (wb:Bool):Prop:=
 (p=⟨#[]⟩/\c=0/\wb=false/\∀ h,h ∈ L->kd g<kd h->t h<score)\/(p ∈ L/\kd g<kd p/\c=t p/\wb=decide (p=was)/\score<=t p/\∀ h,h ∈ L->kd g<kd h->score<=t h->Nb t was h p)
section
variable {kd t : ByteArray → Nat} {score : Nat} {g was : ByteArray} {L : List ByteArray} {p x : ByteArray} {c : Nat} {wb : Bool}
theorem Bs.zero:Bs kd t score g was [] ⟨#[]⟩ 0 false:=Or.inl ⟨rfl,rfl,rfl,fun _ hh=>absurd hh List.not_mem_nil⟩
theorem Bs.skip (b:Bs kd t score g was L p c wb) (h:¬ kd g<kd x\/t x<score):Bs kd t score g was (L ++ [x]) p c wb:=by
 rcases b with ⟨h1,h2,h3,h4⟩ | ⟨h1,h2,h3,h4,h5,h6⟩
 ·refine Or.inl ⟨h1,h2,h3,fun y hy hk=>?_⟩;rcases List.mem_append.1 hy with hy | hy
  ·exact h4 y hy hk
  ·have:y=x:=(by simpa using hy);subst this;rcases h with h | h
   ·exact absurd hk h
   ·exact h
 ·refine Or.inr ⟨List.mem_append_left _ h1,h2,h3,h4,h5,fun y hy hk hs=>?_⟩;rcases List.mem_append.1 hy with hy | hy
  ·exact h6 y hy hk hs
  ·have:y=x:=(by simpa using hy);subst this;rcases h with h | h
   ·exact absurd hk h
   ·omega
theorem nb_keep (h:bt (t x) (decide (x=was)) x (t p) (decide (p=was)) p=false):Nb t was x p:=by
 unfold bt at h;by_cases hc:t x=t p
 ·rw[if_pos hc] at h;refine Or.inr ⟨hc,?_⟩;by_cases hw:(decide (x=was))=(decide (p=was))
  ·rw[if_pos hw] at h;by_cases e:x=p
   ·exact Or.inl e
   ·by_cases e2:p=was
    ·exact Or.inr (Or.inl e2)
    ·refine Or.inr (Or.inr ⟨fun e3=>?_,bless_false h e⟩);rw[decide_eq_true e3,decide_eq_false e2] at hw;cases hw
  ·rw[if_neg hw] at h;have h1:¬ x=was:=by simpa using h
   have h2:p=was:=by
    cases h3:decide (p=was) with
    | true=>simpa using h3
    | false=>rw[h,h3] at hw;exact absurd rfl hw
   exact Or.inr (Or.inl h2)
 ·rw[if_neg hc] at h;have:¬ t p<t x:=by simpa using h
  exact Or.inl (by omega)
theorem nb_take (h:bt (t x) (decide (x=was)) x (t p) (decide (p=was)) p=true):Nb t was p x:=by
 unfold bt at h;by_cases hc:t x=t p
 ·rw[if_pos hc] at h;refine Or.inr ⟨hc.symm,?_⟩;by_cases hw:(decide (x=was))=(decide (p=was))
  ·rw[if_pos hw] at h;by_cases e2:x=was
   ·exact Or.inr (Or.inl e2)
   ·refine Or.inr (Or.inr ⟨fun e3=>?_,bless_true h⟩);rw[decide_eq_true e3,decide_eq_false e2] at hw;cases hw
  ·rw[if_neg hw] at h;exact Or.inr (Or.inl (by simpa using h))
 ·rw[if_neg hc] at h;have:t p<t x:=by simpa using h
  exact Or.inl this
theorem nb_trans {h:ByteArray} (a:Nb t was h p) (b:Nb t was p x):Nb t was h x:=by
 rcases a with a | ⟨a,a'⟩<;>rcases b with b | ⟨b,b'⟩
 ·exact Or.inl (by omega)
 ·exact Or.inl (by omega)
 ·exact Or.inl (by omega)
 ·refine Or.inr ⟨by omega,?_⟩;rcases a' with e | e | ⟨e,e'⟩
  ·rw[e];exact b'
  ·rcases b' with f | f | ⟨f,f'⟩
   ·rw[<- f];exact Or.inr (Or.inl e)
   ·exact Or.inr (Or.inl f)
   ·exact absurd e f
  ·rcases b' with f | f | ⟨f,f'⟩
   ·rw[<- f];exact Or.inr (Or.inr ⟨e,e'⟩)
   ·exact Or.inr (Or.inl f)
   ·exact Or.inr (Or.inr ⟨e,List.lt_trans f' e'⟩)
theorem nb_refl:Nb t was x x:=Or.inr ⟨rfl,Or.inl rfl⟩
theorem Bs.take (b:Bs kd t score g was L p c wb) (hk:kd g<kd x) (hs:score<=t x) (h:bt (t x) (decide (x=was)) x c wb p=true):Bs kd t score g was (L ++ [x]) x (t x) (decide (x=was)):=by
 refine Or.inr ⟨by simp,hk,rfl,rfl,hs,fun y hy hky hsy=>?_⟩;rcases List.mem_append.1 hy with hy | hy
 ·rcases b with ⟨h1,h2,h3,h4⟩ | ⟨h1,h2,h3,h4,h5,h6⟩
  ·have:=h4 y hy hky;omega
  ·rw[h3,h4] at h;exact nb_trans (h6 y hy hky hsy) (nb_take h)
 ·have:y=x:=by simpa using hy
  rw[this];exact nb_refl
theorem Bs.keep (b:Bs kd t score g was L p c wb) (h1 : 1<=score) (hs:score<=t x) (h:bt (t x) (decide (x=was)) x c wb p=false):Bs kd t score g was (L ++ [x]) p c wb:=by
 rcases b with ⟨e1,h2,h3,h4⟩ | ⟨e1,h2,h3,h4,h5,h6⟩
 ·exfalso;rw[h2] at h;unfold bt at h;rw[if_neg (by omega)] at h;have:¬ 0<t x:=by simpa using h
  omega
 ·refine Or.inr ⟨List.mem_append_left _ e1,h2,h3,h4,h5,fun y hy hky hsy=>?_⟩;rcases List.mem_append.1 hy with hy | hy
  ·exact h6 y hy hky hsy
  ·have:y=x:=(by simpa using hy);subst this;rw[h3,h4] at h;exact nb_keep h
theorem Bs.par (b:Bs kd t score g was L p c wb) (hg : 0<kd g) (hL:∀ h,kd g<kd h->score<=t h->h ∈ L):Par kd t score g was p:=by
 rcases b with ⟨h1,h2,h3,h4⟩ | ⟨h1,h2,h3,h4,h5,h6⟩
 ·refine Or.inl ⟨h1,fun h _ hk=>?_⟩;rcases Nat.lt_or_ge (t h) score with h5 | h5
  ·exact h5
  ·exact h4 h (hL h hk h5) hk
 ·exact Or.inr ⟨⟨hg,h2⟩,h5,fun h hk hs=>h6 h (hL h hk hs) hk hs⟩
theorem Bs.cnt0 (b:Bs kd t score g was L p c wb) (h1 : 1<=score) (h0:kd ⟨#[]⟩=0):(c=0↔p=⟨#[]⟩):=by
 rcases b with ⟨e1,h2,h3,h4⟩ | ⟨e1,h2,h3,h4,h5,h6⟩
 ·exact ⟨fun _=>e1,fun _=>h2⟩
 ·constructor
  ·intro h;omega
  ·intro h;rw[h,h0] at h2;omega
end
theorem par_none {kd t:ByteArray->Nat} {score:Nat} {g was:ByteArray} (h:kd g=0\/∀ x,t x<score):Par kd t score g was ⟨#[]⟩:=by
 refine Or.inl ⟨rfl,fun x hg _=>?_⟩;rcases h with h | h
 ·omega
 ·exact h x
def ahd (f:Nat->ByteArray->ByteArray) (e:Nat) (g:ByteArray):ByteArray:=if e=0 then ⟨#[]⟩ else f (e-1) g
def Prs (kd:ByteArray->Nat) (ep:Nat->List Sg) (W need span score:Nat) (f:Nat->ByteArray->ByteArray) (k:Nat):Prop:=
 ∀ e g,e<k->Par kd (tog ep W need span e g) score g (ahd f e g) (f e g)
theorem Prs.move {kd:ByteArray->Nat} {ep ep':Nat->List Sg} {W need span score k:Nat} {f:Nat->ByteArray->ByteArray} (h:Prs kd ep W need span score f k) (hx:∀ e,e<k->ep e=ep' e):Prs kd ep' W need span score f k:=
 fun e g he=>(h e g he).congr (fun x=>tog_congr (fun j hj=>hx j (by omega)))
def fnext (f:Nat->ByteArray->ByteArray) (k:Nat) (pf:ByteArray->ByteArray) (e:Nat) (g:ByteArray):ByteArray:=if e=k then pf g else f e g
theorem Prs.next {kd:ByteArray->Nat} {ep:Nat->List Sg} {W need span score k:Nat} {f:Nat->ByteArray->ByteArray} {pf:ByteArray->ByteArray} (h:Prs kd ep W need span score f k) (hp:∀ g,Par kd (tog ep W need span k g) score g (ahd f k g) (pf g)):Prs kd ep W need span score (fnext f k pf) (k+1):=fun e g he=>by
 have ha:ahd (fnext f k pf) e g=ahd f e g:=by
  unfold ahd;by_cases h0:e=0
  ·rw[if_pos h0,if_pos h0]
  ·rw[if_neg h0,if_neg h0];unfold fnext;rw[if_neg (by omega)]
 rw[ha];by_cases hk:e=k
 ·subst hk;have:fnext f e pf e g=pf g:=by unfold fnext;rw[if_pos rfl]
  rw[this];exact hp g
 ·have:fnext f k pf e g=f e g:=by unfold fnext;rw[if_neg hk]
  rw[this];exact h e g (by omega)
theorem Prs.zero {kd:ByteArray->Nat} {ep:Nat->List Sg} {W need span score:Nat} {f:Nat->ByteArray->ByteArray}:Prs kd ep W need span score f 0:=fun e g he=>by omega
theorem Prs.unique {kd:ByteArray->Nat} {ep:Nat->List Sg} {W need span score k:Nat} {f f':Nat->ByteArray->ByteArray} (h:Prs kd ep W need span score f k) (g:ByteArray) (h':∀ e,e<k->Par kd (tog ep W need span e g) score g (ahd f' e g) (f' e g)):∀ e,e<k->f e g=f' e g
 | 0,he=>by have h1:=h 0 g he;have h2:=h' 0 he;exact h1.unique h2
 | e+1,he=>by
  have ih:=Prs.unique h g h' e (by omega);have h1:=h (e+1) g he;have h2:=h' (e+1) he;have e1:ahd f (e+1) g=ahd f' (e+1) g:=by unfold ahd;rw[if_neg (by omega),if_neg (by omega)];exact ih
  rw[e1] at h1;exact h1.unique h2
end InM
namespace InA
open Go.RowKit TkM TkW TkA InM Go.Maps
def pdat (zd:DataW Value) (p:ByteArray):DataW Value:=if p=⟨#[]⟩ then zd else .held (.agg #[.string p])
structure MapIs (w:World) (b:Nat) (r:Nat) (pf:ByteArray->ByteArray):Prop where
 out:∃ (m:Nat) (D:DataW Value),w.ownsMap prog 9 heldV b m D/\m<=r/\∀ (g:ByteArray) (zd:DataW Value),D.atKey (.string g.data.toList) zd=pdat zd (pf g)
theorem MapIs.keep {w w':World} {b r:Nat} {pf:ByteArray->ByteArray} (h:MapIs w b r pf) (e:w'.heap[b]?=w.heap[b]?):MapIs w' b r pf:=by obtain ⟨m,D,h1,h2,h3⟩:=h.out;exact ⟨m,D,map_keep h1 e,h2,h3⟩
theorem MapIs.lt {w:World} {b r:Nat} {pf:ByteArray->ByteArray} (h:MapIs w b r pf):b<w.heap.size:=by obtain ⟨m,D,h1,h2,h3⟩:=h.out;exact h1.lt
theorem MapIs.tag {w:World} {b r:Nat} {pf:ByteArray->ByteArray} (h:MapIs w b r pf):∀ c t f,w.heap[b]?≠some (.cells c t f):=fun c t f e=>by obtain ⟨m,D,⟨es,clock,hb,_⟩,h2,h3⟩:=h.out;rw[hb] at e;simp at e
theorem MapIs.new (w:World):MapIs (w.alloc (.map #[] 0)) w.heap.size 0 (fun _=>⟨#[]⟩):=
 ⟨0,.map [],World.ownsMap_made w prog 9 heldV,Nat.le_refl _,fun g zd=>by unfold pdat;rw[if_pos rfl];rfl⟩
theorem MapIs.look {w:World} {b r:Nat} {pf:ByteArray->ByteArray} (h:MapIs w b r pf) (g:ByteArray) (hg:g.size<=100000):(Instr.lookup 205 (.map (some b)) (.string g) false).run prog w = .ok (.agg #[.string (pf g)]) w:=by
 obtain ⟨m,D,h1,h2,h3⟩:=h.out;obtain ⟨u,ps,hrun,hR⟩:=h1.lookup law9 underlying205 (show (zeroValue 214).run prog w = .ok (.agg #[.string ⟨#[]⟩]) w by kernel_rfl) (zd:=.held (.agg #[.string ⟨#[]⟩])) (zp:=[]) rfl (key9 (g:=g) (by unfold maxLen;omega));rw[h3] at hR;unfold heldV at hR;simp at hR
 have e:u = .agg #[.string (pf g)]:=by
  unfold pdat at hR;by_cases hp:pf g=⟨#[]⟩
  ·rw[if_pos hp] at hR;rw[hp];simpa using hR.1
  ·rw[if_neg hp] at hR;simpa using hR.1
 rw[<- e];exact hrun
theorem look_nil (g:ByteArray) (w:World) (_hg:g.size<=100000):(Instr.lookup 205 (.map none) (.string g) false).run prog w = .ok (.agg #[.string ⟨#[]⟩]) w:=by
 kernel_rfl
theorem MapIs.put {w:World} {b r:Nat} {pf:ByteArray->ByteArray} (h:MapIs w b r pf) (g p:ByteArray) (hg:g.size<=100000) (hp:p≠⟨#[]⟩) (hr:r<=100000) :
  ∃ w',(Instr.mapUpdate 205 (.map (some b)) (.string g) (.agg #[.string p])).run prog w = .ok () w'/\MapIs w' b (r+1) (fun x=>if x=g then p else pf x)/\w.grownBy w' (some b):=by
 obtain ⟨m,D,h1,h2,h3⟩:=h.out;obtain ⟨w',hrun,hm,hgr⟩:=h1.update (val:=.agg #[.string p]) (d:=.held (.agg #[.string p])) (ps:=[]) law9 underlying205 (by unfold maxLen;omega) (key9 (g:=g) (by unfold maxLen;omega)) rfl;refine ⟨w',hrun,⟨m+1,_,hm,by omega,fun x zd=>?_⟩,hgr⟩;by_cases e:x=g
 ·subst e;rw[Maps.atKey_put_same h1.isMap (keyStr _),if_pos rfl];unfold pdat;rw[if_neg hp]
 ·rw[Maps.atKey_put_other (fun e'=>e (bytes_ext (by simpa using e'))),h3,if_neg e]
structure InIn (w:World) (xb tb:Nat) (v:Value) (ms:List Nat) (F:Nat->Prop) (span score k:Nat) (f:Nat->ByteArray->ByteArray):Prop where
 cells:w.heap[xb]?=some (.cells #[.pointer (some ⟨tb,0,none⟩),.int .i64 (span:Int),.int .i64 (score:Int),v] 167)
 len:ms.length=k
 own:w.ownsRow 0 205 1 v k (ms.map (fun b=>Value.map (some b)))
 maps:∀ (e b:Nat),ms[e]?=some b->MapIs w b 90000 (f e)
 fx:F xb
 fv:∀ b,v.ownBlock=some b->F b
 fm:∀ b,b ∈ ms->F b
 lim:∀ b,F b->b<w.heap.size
structure InAt (w:World) (xb tb:Nat) (F:Nat->Prop) (span score k:Nat) (f:Nat->ByteArray->ByteArray):Prop where
 out:∃ (v:Value) (ms:List Nat),InIn w xb tb v ms F span score k f
section
variable {w w' : World} {xb tb : Nat} {v : Value} {ms : List Nat} {F : Nat → Prop} {span score k : Nat} {f : Nat → ByteArray → ByteArray}
theorem InIn.c0 (d:InIn w xb tb v ms F span score k f):w.cell? ⟨xb,0,none⟩=some (.pointer (some ⟨tb,0,none⟩)):=by simp[World.cell?,d.cells]
theorem InIn.c1 (d:InIn w xb tb v ms F span score k f):w.cell? ⟨xb,1,none⟩=some (.int .i64 (span:Int)):=by simp[World.cell?,d.cells]
theorem InIn.c2 (d:InIn w xb tb v ms F span score k f):w.cell? ⟨xb,2,none⟩=some (.int .i64 (score:Int)):=by simp[World.cell?,d.cells]
theorem InIn.c3 (d:InIn w xb tb v ms F span score k f):w.cell? ⟨xb,3,none⟩=some v:=by simp[World.cell?,d.cells]
theorem InIn.lt (d:InIn w xb tb v ms F span score k f):xb<w.heap.size:=d.lim _ d.fx
theorem InIn.vne (d:InIn w xb tb v ms F span score k f) {b:Nat} (hb:v.ownBlock=some b):b≠xb/\b ∉ ms:=by
 obtain ⟨cur,hc⟩:=own_tag d.own hb;constructor
 ·rintro rfl;rw[d.cells] at hc;simp at hc
 ·intro hm;obtain ⟨e,he⟩:=List.mem_iff_getElem?.1 hm;exact (d.maps e b he).tag _ _ _ hc
theorem InIn.move (d:InIn w xb tb v ms F span score k f) (hs:w.heap.size<=w'.heap.size) (hk:∀ b,b<w.heap.size->F b->w'.heap[b]?=w.heap[b]?):InIn w' xb tb v ms F span score k f where
 cells:=by rw[hk xb d.lt d.fx];exact d.cells
 len:=d.len
 own:=own_keep d.own (fun b hb=>hk b (own_lt d.own hb) (d.fv b hb))
 maps:=fun e b h=>(d.maps e b h).keep (hk b (d.maps e b h).lt (d.fm b (List.mem_of_getElem? h)))
 fx:=d.fx
 fv:=d.fv
 fm:=d.fm
 lim:=fun b hb=>Nat.lt_of_lt_of_le (d.lim b hb) hs
theorem InAt.move (d:InAt w xb tb F span score k f) (hs:w.heap.size<=w'.heap.size) (hk:∀ b,b<w.heap.size->F b->w'.heap[b]?=w.heap[b]?):InAt w' xb tb F span score k f:=by obtain ⟨v,ms,d⟩:=d.out;exact ⟨v,ms,d.move hs hk⟩
theorem InAt.below (d:InAt w xb tb F span score k f) (hb:Below w.heap.size w w'):InAt w' xb tb F span score k f:=d.move hb.size (fun b h _=>hb.block b h)
theorem InAt.lim (d:InAt w xb tb F span score k f) {b:Nat} (h:F b):b<w.heap.size:=by obtain ⟨v,ms,d⟩:=d.out;exact d.lim b h
theorem InIn.form (d:InIn w xb tb v ms F span score k f):∃ p cap,v = .slice p k cap/\∀ e b,ms[e]?=some b->∃ g,p=some ⟨g,0,none⟩/\w.cell? ⟨g,e,none⟩=some (.map (some b)):=by
 have hl:=d.len;have ho:=d.own;rcases Nat.eq_zero_or_pos k with h0 | h0
 ·have:ms = []:=List.length_eq_zero_iff.1 (by omega);subst this;subst h0;rcases ho.2 with ⟨rfl,_⟩ | ⟨g,cap,cur,hv,_⟩
  ·exact ⟨none,0,rfl,fun e b h=>by simp at h⟩
  ·exact ⟨_,cap,hv,fun e b h=>by simp at h⟩
 ·obtain ⟨g,cap,rfl,_,_⟩:=ho.form h0;refine ⟨some ⟨g,0,none⟩,cap,rfl,fun e b hx=>⟨g,rfl,?_⟩⟩;have:=ho.cells (g:=g) rfl e (.map (some b)) (by simp[hx]);rw[addr_add] at this;exact this
theorem InIn.next {V3 V4:World} {g cap mb:Nat} {pf:ByteArray->ByteArray} (d:InIn w xb tb v ms F span score k f) (hb:Below w.heap.size w w') (hmb:w.heap.size<=mb) (hm:MapIs w' mb 90000 pf)
  (ho:V3.ownsRow w.heap.size 205 1 (.slice (some ⟨g,0,none⟩) (k+1) cap) (k+1) ((ms.map (fun b=>Value.map (some b))) ++ [.map (some mb)])\/V3.ownsRow 0 205 1 (.slice (some ⟨g,0,none⟩) (k+1) cap) (k+1) ((ms.map (fun b=>Value.map (some b))) ++ [.map (some mb)]))
  (hg:w'.grownBy V3 v.ownBlock) (hat:v.ownBlock=some g\/w'.heap.size<=g) (hV4:V4=V3.setCell ⟨xb,3,none⟩ (.slice (some ⟨g,0,none⟩) (k+1) cap)) :
  InIn V4 xb tb (.slice (some ⟨g,0,none⟩) (k+1) cap) (ms ++ [mb]) (fun b=>F b\/(w.heap.size<=b/\b<V3.heap.size)) span score (k+1) (fnext f k pf)/\Kp F w V4:=by
 have ho':V3.ownsRow 0 205 1 (.slice (some ⟨g,0,none⟩) (k+1) cap) (k+1) ((ms.map (fun b=>Value.map (some b))) ++ [.map (some mb)]):=by
  rcases ho with ho | ho
  ·exact own_base ho (Nat.zero_le _)
  ·exact ho
 have hxne:v.ownBlock≠some xb:=fun e=>(d.vne e).1 rfl
 have hgx:g≠xb:=by
  rcases hat with h | h
  ·exact (d.vne h).1
  ·have:=d.lt;have:=hb.size;omega
 have hx3:V3.heap[xb]?=some (.cells #[.pointer (some ⟨tb,0,none⟩),.int .i64 (span:Int),.int .i64 (score:Int),v] 167):=by rw[hg.block xb (Nat.lt_of_lt_of_le d.lt hb.size) (fun e=>hxne e.symm),hb.block xb d.lt];exact d.cells
 have hk4:∀ b,b≠xb->V4.heap[b]?=V3.heap[b]?:=fun b hne=>by rw[hV4];exact Below.heap_setCell _ _ _ _ hne
 have hs4:V4.heap.size=V3.heap.size:=by rw[hV4];simp[World.setCell]
 have hsz:=hg.size;have hbz:=hb.size;have hmlt:=hm.lt;refine ⟨⟨?_,by simp[d.len],?_,?_,Or.inl d.fx,?_,?_,?_⟩,?_⟩
 ·rw[hV4];simp[World.setCell,Array.getElem?_modify,hx3]
 ·rw[List.map_append];exact own_keep ho' (fun b hb'=>hk4 b (by simp[Value.ownBlock] at hb';omega))
 ·intro e b h;have hmv:v.ownBlock≠some mb:=fun e=>by have:=own_lt d.own e;omega
  by_cases he:e<ms.length
  ·rw[List.getElem?_append_left he] at h;have hmm:=d.maps e b h;have hF:fnext f k pf e=f e:=(by funext x;unfold fnext;rw[if_neg (by have:=d.len;omega)]);rw[hF];refine hmm.keep ?_;rw[hk4 b ?_,hg.block b (Nat.lt_of_lt_of_le hmm.lt hbz) (fun e'=>(d.vne e'.symm).2 (List.mem_of_getElem? h)),hb.block b hmm.lt];rintro rfl;exact hmm.tag _ _ _ d.cells
  ·have he':e=ms.length:=(by have:=(List.getElem?_eq_some_iff.1 h).1;simp at this;omega);subst he';have:b=mb:=(by simpa using h.symm);subst this;have hF:fnext f k pf ms.length=pf:=(by funext x;unfold fnext;rw[if_pos d.len]);rw[hF];refine hm.keep ?_;rw[hk4 b (by have:=d.lt;omega),hg.block b hmlt (fun e'=>hmv e'.symm)]
 ·intro b hb';simp[Value.ownBlock] at hb';subst hb';rcases hat with h | h
  ·exact Or.inl (d.fv _ h)
  ·exact Or.inr ⟨by omega,(ho'.lt g rfl).2⟩
 ·intro b hb';rcases List.mem_append.1 hb' with h | h
  ·exact Or.inl (d.fm b h)
  ·have:b=mb:=(by simpa using h);exact Or.inr ⟨by omega,by omega⟩
 ·intro b hb';rw[hs4];rcases hb' with h | h
  ·have:=d.lim b h;omega
  ·exact h.2
 ·refine ⟨?_,?_,?_,by omega,fun b hlt hn=>?_⟩
  ·rw[hV4];exact hg.os.trans hb.os
  ·rw[hV4];exact hg.tape.trans hb.tape
  ·rw[hV4];exact hg.output.trans hb.output
  ·rw[hk4 b (fun e=>hn (e ▸ d.fx)),hg.block b (by omega) (fun e=>hn (d.fv b e.symm)),hb.block b hlt]
end
end InA
end Go.Proofs.YtmolafjalaeoaaaGreatDoor
