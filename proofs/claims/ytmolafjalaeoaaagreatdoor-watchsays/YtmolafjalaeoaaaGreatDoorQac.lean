/-
  FrmM FrmA FrmB
-/
import Derived.Test.YtmolafjalaeoaaaGreatDoorProg
import Derived.WalkKit
import Derived.WalkSpells
import Derived.WalkLawsBesides
import Derived.Deep.QuietTactic
import Derived.BigQuiet
set_option maxRecDepth 100000
set_option maxHeartbeats 8000000
namespace Go.Proofs.YtmolafjalaeoaaaGreatDoor
open Tryz
namespace FrmM
structure Rd where
 a:Int
 s:Int
 g:Int
 t:ByteArray
structure Fr where
 ty:Int
 rs:List Rd
 wm:Int
def btw (n lo hi:Int):Bool:=decide (lo<=n)&&decide (n<=hi)
theorem btw_true {n lo hi:Int}:btw n lo hi=true↔lo<=n/\n<=hi:=by simp[btw]
def rdOk (r:Rd):Bool:=btw r.a 0 3&&btw r.s 0 255&&btw r.g 0 255&&decide (r.t.size=8)
def fault (f:Fr):Nat:=
 if btw f.ty 1 3=false then 1
 else if (f.ty≠1/\0<f.rs.length)\/(f.ty≠3/\f.wm≠0) then 3
 else if btw f.wm 0 255=false then 1
 else if 4<f.rs.length then 2
 else if f.rs.all rdOk=true then 0 else 1
structure Ok (f:Fr):Prop where
 ty : 1<=f.ty/\f.ty<=3
 rs:f.ty≠1->f.rs = []
 wm:f.ty≠3->f.wm=0
 wb : 0<=f.wm/\f.wm<=255
 len:f.rs.length<=4
 all:∀ r ∈ f.rs,(0<=r.a/\r.a<=3)/\(0<=r.s/\r.s<=255)/\(0<=r.g/\r.g<=255)/\r.t.size=8
theorem rdOk_true {r:Rd}:rdOk r=true↔(0<=r.a/\r.a<=3)/\(0<=r.s/\r.s<=255)/\(0<=r.g/\r.g<=255)/\r.t.size=8:=by simp[rdOk,btw_true,and_assoc]
theorem fault_zero {f:Fr}:fault f=0↔Ok f:=by
 unfold fault;constructor
 ·intro h;split at h
  ·omega
  rename_i h1;split at h
  ·omega
  rename_i h2;split at h
  ·omega
  rename_i h3;split at h
  ·omega
  rename_i h4;split at h
  ·rename_i h5;refine ⟨btw_true.1 (by simpa using h1),fun e=>?_,fun e=>?_,btw_true.1 (by simpa using h3),by omega,fun r hr=>rdOk_true.1 (List.all_eq_true.1 h5 r hr)⟩
   ·apply Decidable.byContradiction;intro hn;exact h2 (Or.inl ⟨e,List.length_pos_iff.2 hn⟩)
   ·apply Decidable.byContradiction;intro hn;exact h2 (Or.inr ⟨e,hn⟩)
  ·omega
 ·intro h;rw[if_neg (by rw[btw_true.2 h.ty];simp),if_neg,if_neg (by rw[btw_true.2 h.wb];simp),if_neg (by have:=h.len;omega),if_pos (List.all_eq_true.2 fun r hr=>rdOk_true.2 (h.all r hr))];rintro (⟨a,b⟩ | ⟨a,b⟩)
  ·rw[h.rs a] at b;simp at b
  ·exact b (h.wm a)
def u8 (n:Int):UInt8:=UInt8.ofNat (n%256).toNat
theorem u8_toNat (n:Int):((u8 n).toNat:Int)=n%256:=by unfold u8;rw[UInt8.toNat_ofNat'];omega
theorem u8_small {n:Int} (h0 : 0<=n) (h1:n<=255):((u8 n).toNat:Int)=n:=by rw[u8_toNat];omega
def encR (r:Rd):List UInt8:=u8 r.a::u8 r.s::u8 r.g::r.t.data.toList
def encRs (rs:List Rd):List UInt8:=rs.flatMap encR
def body (f:Fr):List UInt8:=encRs f.rs++(if f.ty=3 then [u8 f.wm] else [])
def head (f:Fr):List UInt8:=165::u8 (body f).length::u8 f.ty::body f
def sumL (l:List UInt8):Nat:=(l.map UInt8.toNat).sum
def clo (l:List UInt8):UInt8:=UInt8.ofNat (255-sumL l%256)
def enc (f:Fr):List UInt8:=head f ++ [clo (head f)]
theorem encR_len {r:Rd} (h:r.t.size=8):(encR r).length=11:=by
 have:r.t.data.toList.length=8:=by simpa using h
 simp[encR,this]
theorem encRs_len {rs:List Rd} (h:∀ r ∈ rs,r.t.size=8):(encRs rs).length=11*rs.length:=by
 induction rs with
 | nil=>rfl
 | cons r rs ih=>
  have e:encRs (r::rs)=encR r++encRs rs:=rfl;rw[e,List.length_append,encR_len (h r (by simp)),ih (fun r hr=>h r (by simp[hr])),List.length_cons];omega
theorem encRs_drop {rs:List Rd} (h:∀ r ∈ rs,r.t.size=8) (k:Nat):(encRs rs).drop (11*k)=encRs (rs.drop k):=by
 induction k generalizing rs with
 | zero=>rfl
 | succ k ih=>
  cases rs with
  | nil=>simp[encRs]
  | cons r rs=>
   have e:encRs (r::rs)=encR r++encRs rs:=rfl;rw[e,show 11*(k+1)=(encR r).length+11*k by rw[encR_len (h r (by simp))];omega,List.drop_append,List.drop_eq_nil_of_le (by omega)];simp only[List.nil_append,List.drop_succ_cons];rw[show (encR r).length+11*k-(encR r).length=11*k by omega];exact ih (fun r hr=>h r (by simp[hr]))
theorem Ok.tags {f:Fr} (h:Ok f):∀ r ∈ f.rs,r.t.size=8:=fun r hr=>(h.all r hr).2.2.2
theorem body_len {f:Fr} (h:Ok f):(body f).length=11*f.rs.length+(if f.ty=3 then 1 else 0):=by unfold body;rw[List.length_append,encRs_len h.tags];split<;>rfl
theorem body_le {f:Fr} (h:Ok f):(body f).length<=44:=by
 rw[body_len h];have:=h.len;split
 ·rename_i e;have:f.rs = []:=h.rs (by omega);simp[this]
 ·omega
theorem enc_len (f:Fr):(enc f).length=4+(body f).length:=by simp[enc,head];omega
def rdOf (l:List UInt8):Rd:=⟨(l.getD 0 0).toNat,(l.getD 1 0).toNat,(l.getD 2 0).toNat,⟨((l.drop 3).take 8).toArray⟩⟩
def rdAt (l:List UInt8) (k:Nat):Rd:=rdOf (l.drop (11*k))
def gReads (l:List UInt8):List Rd:=(List.range (l.length/11)).map (rdAt l)
theorem rdOf_enc {r:Rd} (h:(0<=r.a/\r.a<=3)/\(0<=r.s/\r.s<=255)/\(0<=r.g/\r.g<=255)/\r.t.size=8) (l:List UInt8):rdOf (encR r++l)=r:=by
 obtain ⟨ha,hs,hg,ht⟩:=h;have hl:r.t.data.toList.length=8:=by simpa using ht
 unfold rdOf encR;obtain ⟨a,s,g,⟨⟨t⟩⟩⟩:=r;simp only[List.cons_append,List.getD_cons_zero,List.getD_cons_succ,List.drop_succ_cons,List.drop_zero] at *;rw[u8_small ha.1 (by omega),u8_small hs.1 hs.2,u8_small hg.1 hg.2,List.take_append_of_le_length (by omega),List.take_of_length_le (by omega)]
theorem gReads_enc {rs:List Rd} (h:∀ r ∈ rs,(0<=r.a/\r.a<=3)/\(0<=r.s/\r.s<=255)/\(0<=r.g/\r.g<=255)/\r.t.size=8):gReads (encRs rs)=rs:=by
 have h8:∀ r ∈ rs,r.t.size=8:=fun r hr=>(h r hr).2.2.2;unfold gReads;rw[encRs_len h8,Nat.mul_div_cancel_left _ (by omega)];apply List.ext_getElem
 ·simp
 ·intro k h1 h2;simp only[List.getElem_map,List.getElem_range];unfold rdAt;rw[encRs_drop h8,List.drop_eq_getElem_cons h2];exact rdOf_enc (h _ (List.getElem_mem h2)) _
def guess (b:List UInt8):Fr:=
 ⟨(b.getD 2 0).toNat,if (b.getD 2 0).toNat=1 then gReads ((b.drop 3).take (b.length-4)) else [],
  if (b.getD 2 0).toNat=3/\(b.drop 3).take (b.length-4)≠[] then (b.getD 3 0).toNat else 0⟩
def guessR (b:List UInt8):Fr:=
 ⟨(b.getD 2 0).toNat,if (b.getD 2 0).toNat=1 then gReads ((b.drop 3).take (b.length-4)) else [],
  if (b.getD 2 0).toNat=3/\b.length=5 then (b.getD 3 0).toNat else 0⟩
theorem enc_body (f:Fr):((enc f).drop 3).take ((enc f).length-4)=body f:=by rw[enc_len,show 4+(body f).length-4=(body f).length by omega];have e:(enc f).drop 3=body f ++ [clo (head f)]:=rfl;rw[e,List.take_append_of_le_length (Nat.le_refl _),List.take_of_length_le (Nat.le_refl _)]
theorem enc_ty {f:Fr} (h:Ok f):(((enc f).getD 2 0).toNat:Int)=f.ty:=by have e:(enc f).getD 2 0=u8 f.ty:=rfl;have:=h.ty;rw[e,u8_small (by omega) (by omega)]
theorem enc_wm {f:Fr} (h:Ok f) (h3:f.ty=3):(((enc f).getD 3 0).toNat:Int)=f.wm/\(body f).length=1:=by
 have hrs:f.rs = []:=h.rs (by omega);have hb:body f = [u8 f.wm]:=by simp[body,encRs,hrs,h3]
 have e:(enc f).getD 3 0=u8 f.wm:=by show ((body f ++ [clo (head f)]).getD 0 0) = _;rw[hb];rfl
 rw[e,u8_small h.wb.1 h.wb.2,hb];exact ⟨rfl,rfl⟩
theorem reads_enc {f:Fr} (h:Ok f):(if ((enc f).getD 2 0).toNat=1 then gReads (body f) else [])=f.rs:=by
 have ht:=enc_ty h;split
 ·have h1:f.ty=1:=by omega
  have hb:body f=encRs f.rs:=by simp[body,h1]
  rw[hb,gReads_enc h.all]
 ·exact (h.rs (by omega)).symm
theorem guess_enc {f:Fr} (h:Ok f):guess (enc f)=f:=by
 have ht:=enc_ty h;have hr:=reads_enc h;unfold guess;rw[enc_body,hr,ht]
 have hw:(if ((enc f).getD 2 0).toNat=3/\body f≠[] then (((enc f).getD 3 0).toNat:Int) else 0)=f.wm:=by
  split
  ·rename_i h3;exact (enc_wm h (by omega)).1
  ·rename_i h3;symm;apply h.wm;intro e3;refine h3 ⟨by omega,fun e=>?_⟩;have:=(enc_wm h e3).2;rw[e] at this;simp at this
 rw[hw]
theorem guessR_enc {f:Fr} (h:Ok f):guessR (enc f)=f:=by
 have ht:=enc_ty h;have hr:=reads_enc h;unfold guessR;rw[enc_body,hr,ht]
 have hw:(if ((enc f).getD 2 0).toNat=3/\(enc f).length=5 then (((enc f).getD 3 0).toNat:Int) else 0)=f.wm:=by
  split
  ·rename_i h3;exact (enc_wm h (by omega)).1
  ·rename_i h3;symm;apply h.wm;intro e3;refine h3 ⟨by omega,?_⟩;have:=(enc_wm h e3).2;rw[enc_len];omega
 rw[hw]
def span (s:List UInt8):Nat:=if s.length<2\/s.getD 0 0≠165\/44<(s.getD 1 0).toNat then 0 else 4+(s.getD 1 0).toNat
theorem span_enc {f:Fr} (h:Ok f) (t:List UInt8):span (enc f++t)=(enc f).length:=by
 have hb:=body_le h;have e1:(enc f++t).getD 1 0=u8 (body f).length:=rfl;have e0:(enc f++t).getD 0 0=165:=rfl;have e2:=u8_small (n:=((body f).length:Int)) (by omega) (by omega);unfold span;rw[e0,e1,if_neg]
 ·rw[enc_len];omega
 ·rintro (h | h | h)
  ·simp[enc_len] at h;omega
  ·exact h rfl
  ·omega
def front (s:List UInt8):Option Fr:=
 if span s=0\/s.length<span s then none
 else if fault (guess (s.take (span s)))=0/\enc (guess (s.take (span s)))=s.take (span s) then some (guess (s.take (span s))) else none
def frontR (s:List UInt8):Option Fr:=
 if span s=0\/s.length<span s then none
 else if fault (guessR (s.take (span s)))=0/\enc (guessR (s.take (span s)))=s.take (span s) then some (guessR (s.take (span s))) else none
theorem front_enc {f:Fr} (h:Ok f) (t:List UInt8):front (enc f++t)=some f:=by
 unfold front;rw[span_enc h,List.take_left',guess_enc h,if_neg,if_pos ⟨fault_zero.2 h,rfl⟩]
 ·rw[enc_len,List.length_append,enc_len];omega
 ·rfl
theorem frontR_enc {f:Fr} (h:Ok f) (t:List UInt8):frontR (enc f++t)=some f:=by
 unfold frontR;rw[span_enc h,List.take_left',guessR_enc h,if_neg,if_pos ⟨fault_zero.2 h,rfl⟩]
 ·rw[enc_len,List.length_append,enc_len];omega
 ·rfl
theorem front_some {s:List UInt8} {f:Fr} (h:front s=some f):Ok f/\∃ t,s=enc f++t:=by
 unfold front at h;split at h
 ·cases h
 ·split at h
  ·rename_i h2;cases h;refine ⟨fault_zero.1 h2.1,s.drop (span s),?_⟩;rw[h2.2,List.take_append_drop]
  ·cases h
theorem frontR_some {s:List UInt8} {f:Fr} (h:frontR s=some f):Ok f/\∃ t,s=enc f++t:=by
 unfold frontR at h;split at h
 ·cases h
 ·split at h
  ·rename_i h2;cases h;refine ⟨fault_zero.1 h2.1,s.drop (span s),?_⟩;rw[h2.2,List.take_append_drop]
  ·cases h
theorem frontR_eq (s:List UInt8):frontR s=front s:=by
 cases h:front s with
 | some f=>
  obtain ⟨ho,t,rfl⟩:=front_some h;exact frontR_enc ho t
 | none=>
  cases h2:frontR s with
  | none=>rfl
  | some f=>
   obtain ⟨ho,t,rfl⟩:=frontR_some h2;rw[front_enc ho t] at h;cases h
def begins (s:List UInt8):Bool:=(decide (s.length=1)&&s.getD 0 0 == 165)||decide (s.length<span s)
def feedN:Nat->List UInt8->List Fr×Nat×List UInt8
 | 0,_=>([],0,[])
 | n+1,s=>
  if s = [] then ([],0,[])
  else match front s with
   | some f=>(f::(feedN n (s.drop (enc f).length)).1,(feedN n (s.drop (enc f).length)).2.1,(feedN n (s.drop (enc f).length)).2.2)
   | none=>if begins s=true then ([],0,s) else ((feedN n (s.drop 1)).1,(feedN n (s.drop 1)).2.1+1,(feedN n (s.drop 1)).2.2)
def feed (s:List UInt8):List Fr×Nat×List UInt8:=feedN s.length s
theorem feedN_more (n:Nat):∀ (m:Nat) (s:List UInt8),s.length<=n->s.length<=m->feedN n s=feedN m s:=by
 induction n with
 | zero=>
  intro m s h1 h2;obtain rfl:s = []:=List.length_eq_zero_iff.1 (by omega);cases m with
  | zero=>rfl
  | succ m=>simp[feedN]
 | succ n ih=>
  intro m s h1 h2;by_cases hs:s = []
  ·subst hs;cases m<;>simp[feedN]
  ·have hp:=List.length_pos_iff.2 hs;cases m with
   | zero=>omega
   | succ m=>
    have e1:∀ f:Fr,feedN n (s.drop (enc f).length)=feedN m (s.drop (enc f).length):=fun f=>ih m _ (by rw[List.length_drop,enc_len];omega) (by rw[List.length_drop,enc_len];omega);have e2:feedN n (s.drop 1)=feedN m (s.drop 1):=ih m _ (by rw[List.length_drop];omega) (by rw[List.length_drop];omega);simp only[feedN,e1,e2]
theorem feed_nil:feed []=([],0,[]):=rfl
theorem feed_step {s:List UInt8} (hs:s≠[]):∃ n,feed s=feedN (n+1) s/\(∀ f:Fr,feedN n (s.drop (enc f).length)=feed (s.drop (enc f).length))/\feedN n (s.drop 1)=feed (s.drop 1):=by
 have hp:=List.length_pos_iff.2 hs;refine ⟨s.length-1,?_,fun f=>?_,?_⟩
 ·show feedN s.length s = _;rw[show s.length-1+1=s.length by omega]
 ·exact feedN_more _ _ _ (by rw[List.length_drop,enc_len];omega) (Nat.le_refl _)
 ·exact feedN_more _ _ _ (by rw[List.length_drop];omega) (Nat.le_refl _)
theorem feed_frame {s:List UInt8} {f:Fr} (h:front s=some f):feed s=(f::(feed (s.drop (enc f).length)).1,(feed (s.drop (enc f).length)).2.1,(feed (s.drop (enc f).length)).2.2):=by
 have hs:s≠[]:=by rintro rfl;obtain ⟨_,t,e⟩:=front_some h;have:=congrArg List.length e;rw[List.length_append,enc_len] at this;simp at this;omega
 obtain ⟨n,e1,e2,_⟩:=feed_step hs;rw[e1,feedN,if_neg hs];simp only[h,e2]
theorem feed_wait {s:List UInt8} (hs:s≠[]) (h:front s=none) (hb:begins s=true):feed s=([],0,s):=by obtain ⟨n,e1,_,_⟩:=feed_step hs;rw[e1,feedN,if_neg hs];simp only[h,hb,if_true]
theorem feed_lose {s:List UInt8} (hs:s≠[]) (h:front s=none) (hb:begins s=false):feed s=((feed (s.drop 1)).1,(feed (s.drop 1)).2.1+1,(feed (s.drop 1)).2.2):=by obtain ⟨n,e1,_,e3⟩:=feed_step hs;rw[e1,feedN,if_neg hs];simp only[h,hb,Bool.false_eq_true,if_false,e3]
theorem begins_append {s t:List UInt8} (hs:s≠[]) (hb:begins s=false):begins (s++t)=false:=by
 cases hx:begins (s++t) with
 | false=>rfl
 | true=>
  rw[<- hb];symm
  match s,hs with
  | [x],_=>
   unfold begins at hx ⊢;cases t with
   | nil=>simpa using hx
   | cons y t=>
    simp only[List.cons_append,List.nil_append,List.length_cons,List.getD_cons_zero,Bool.or_eq_true,Bool.and_eq_true,decide_eq_true_eq] at hx;rcases hx with hx | hx
    ·omega
    ·have hx0:x=165:=by
      unfold span at hx;split at hx
      ·omega
      ·rename_i h;simp only[List.getD_cons_zero] at h;apply Decidable.byContradiction;intro hn;exact h (Or.inr (Or.inl hn))
     simp[hx0]
  | x::y::s,_=>
   have e:span (x::y::s++t)=span (x::y::s):=(by have e1:(x::y::s++t).getD 0 0=x:=rfl;have e2:(x::y::s++t).getD 1 0=y:=rfl;have e3:(x::y::s).getD 0 0=x:=rfl;have e4:(x::y::s).getD 1 0=y:=rfl;have e5:¬ (x::y::s++t).length<2:=(by simp);have e6:¬ (x::y::s).length<2:=(by simp);unfold span;rw[e1,e2,e3,e4];simp only[e5,e6]);unfold begins at hx ⊢;rw[e] at hx;simp only[List.cons_append,List.length_cons,List.length_append,List.getD_cons_zero,Bool.or_eq_true,Bool.and_eq_true,decide_eq_true_eq] at hx ⊢;rcases hx with hx | hx
   ·omega
   ·right;omega
theorem front_append {s t:List UInt8} (hs:s≠[]) (h:front s=none) (hb:begins s=false):front (s++t)=none:=by
 cases hx:front (s++t) with
 | none=>rfl
 | some f=>
  exfalso;obtain ⟨ho,u,e⟩:=front_some hx;rcases Nat.lt_or_ge s.length (enc f).length with hl | hl
  ·have hsp:=span_enc ho [];rw[List.append_nil] at hsp;have hpre:s=(enc f).take s.length:=by have:=congrArg (List.take s.length) e;rw[List.take_left,List.take_append_of_le_length (by omega)] at this;exact this
   have:begins s=true:=by
    unfold begins
    match s,hs with
    | [x],_=>
     have hx0:x=165:=(by have : [x] = [165]:=hpre;simpa using this);simp[hx0]
    | x::y::s,_=>
     have hx:x=165/\y=u8 (body f).length:=by
      have e3:x::y::s=(165::u8 (body f).length::(u8 f.ty::body f ++ [clo (head f)])).take (s.length+1+1):=hpre;rw[List.take_succ_cons,List.take_succ_cons] at e3;injection e3 with e4 e5
      injection e5 with e5 e6
      exact ⟨e4,e5⟩
     obtain ⟨rfl,rfl⟩:=hx;have hb:=body_le ho;have e2:=u8_small (n:=((body f).length:Int)) (by omega) (by omega)
     have es:span (165::u8 (body f).length::s)=4+(body f).length:=by
      unfold span;rw[if_neg]
      ·simp only[List.getD_cons_zero,List.getD_cons_succ];omega
      ·simp only[List.getD_cons_zero,List.getD_cons_succ,List.length_cons];rintro (h | h | h)
       ·omega
       ·exact h rfl
       ·omega
     rw[es];rw[enc_len] at hl;simp only[Bool.or_eq_true,decide_eq_true_eq];right;exact hl
   rw[this] at hb;cases hb
  ·have hpre:s=enc f++s.drop (enc f).length:=(by have:=congrArg (List.take (enc f).length) e;rw[List.take_left,List.take_append_of_le_length hl] at this;have h2:s.take (enc f).length++s.drop (enc f).length=s:=List.take_append_drop _ _;rw[this] at h2;exact h2.symm);rw[hpre,front_enc ho] at h;cases h
theorem feed_cut (n:Nat):∀ (s t:List UInt8),s.length<=n->feed (s++t)=((feed s).1++(feed ((feed s).2.2++t)).1,(feed s).2.1+(feed ((feed s).2.2++t)).2.1,(feed ((feed s).2.2++t)).2.2):=by
 induction n with
 | zero=>
  intro s t h;obtain rfl:s = []:=List.length_eq_zero_iff.1 (by omega);rw[feed_nil];simp
 | succ n ih=>
  intro s t hn;by_cases hs:s = []
  ·subst hs;rw[feed_nil];simp
  have hp:=List.length_pos_iff.2 hs;cases hf:front s with
  | some f=>
   obtain ⟨ho,u,rfl⟩:=front_some hf;have h2:front (enc f++u++t)=some f:=(by rw[List.append_assoc];exact front_enc ho _);have hl:u.length<=n:=(by rw[List.length_append,enc_len] at hn;omega);rw[feed_frame h2,feed_frame hf];simp only[List.append_assoc,List.drop_left];rw[ih u t hl];simp
  | none=>
   cases hb:begins s with
   | true=>
    rw[feed_wait hs hf hb];simp
   | false=>
    have h1:=front_append (t:=t) hs hf hb;have h2:=begins_append (t:=t) hs hb;have hl:(s.drop 1).length<=n:=(by rw[List.length_drop];omega);rw[feed_lose (by simp[hs]) h1 h2,feed_lose hs hf hb];simp only;have e:(s++t).drop 1=s.drop 1++t:=(by rw[List.drop_append_of_le_length (by omega)]);rw[e,ih _ t hl];simp;omega
def bytesOfAll (fs:List Fr):Nat:=(fs.map fun f=>(enc f).length).sum
theorem feed_facts (n:Nat):∀ s:List UInt8,s.length<=n->bytesOfAll (feed s).1+(feed s).2.1+(feed s).2.2.length=s.length/\(∀ f ∈ (feed s).1,Ok f)/\(feed s).1.length<=s.length:=by
 induction n with
 | zero=>
  intro s h;obtain rfl:s = []:=List.length_eq_zero_iff.1 (by omega);rw[feed_nil];simp[bytesOfAll]
 | succ n ih=>
  intro s hn;by_cases hs:s = []
  ·subst hs;rw[feed_nil];simp[bytesOfAll]
  have hp:=List.length_pos_iff.2 hs;cases hf:front s with
  | some f=>
   obtain ⟨ho,u,rfl⟩:=front_some hf;have hl:u.length<=n:=(by rw[List.length_append,enc_len] at hn;omega);rw[feed_frame hf];simp only[List.drop_left];obtain ⟨h1,h2,h3⟩:=ih u hl;refine ⟨?_,?_,?_⟩
   ·simp only[bytesOfAll,List.map_cons,List.sum_cons,List.length_append] at h1 ⊢;omega
   ·intro g hg;rcases List.mem_cons.1 hg with rfl | hg
    ·exact ho
    ·exact h2 g hg
   ·rw[List.length_append,enc_len,List.length_cons];omega
  | none=>
   cases hb:begins s with
   | true=>rw[feed_wait hs hf hb];simp[bytesOfAll]
   | false=>
    have hl:(s.drop 1).length<=n:=(by rw[List.length_drop];omega);obtain ⟨h1,h2,h3⟩:=ih _ hl;rw[List.length_drop] at h1 h3;rw[feed_lose hs hf hb];exact ⟨by simp only;omega,h2,by simp only;omega⟩
theorem feed_sum (s:List UInt8):bytesOfAll (feed s).1+(feed s).2.1+(feed s).2.2.length=s.length:=(feed_facts s.length s (Nat.le_refl _)).1
theorem feed_ok (s:List UInt8):∀ f ∈ (feed s).1,Ok f:=(feed_facts s.length s (Nat.le_refl _)).2.1
theorem feed_len (s:List UInt8):(feed s).1.length<=s.length:=(feed_facts s.length s (Nat.le_refl _)).2.2
theorem feed_whole (fs:List Fr) (h:∀ f ∈ fs,Ok f):feed (fs.flatMap enc)=(fs,0,[]):=by
 induction fs with
 | nil=>exact feed_nil
 | cons f fs ih=>
  have e:(f::fs).flatMap enc=enc f++fs.flatMap enc:=rfl;rw[e,feed_frame (front_enc (h f (by simp)) _),List.drop_left,ih (fun g hg=>h g (by simp[hg]))]
end FrmM
namespace FrmA
open Go.RowKit FrmM
theorem keepCell {B:Nat} {w w':World} {a:Addr} {v:Value} (hb:Below B w w') (ha:a.block<B) (h:w.cell? a=some v):w'.cell? a=some v:=by rw[hb.cell ha];exact h
structure RdAt (w:World) (b o:Nat) (r:Rd):Prop where
 c0:w.cell? ⟨b,o,none⟩=some (.int .i64 r.a)
 c1:w.cell? ⟨b,o+1,none⟩=some (.int .i64 r.s)
 c2:w.cell? ⟨b,o+1+1,none⟩=some (.int .i64 r.g)
 c3:w.cell? ⟨b,o+1+1+1,none⟩=some (.string r.t)
theorem RdAt.keep {w w':World} {b o:Nat} {r:Rd} (h:RdAt w b o r) (e:w'.heap[b]?=w.heap[b]?):RdAt w' b o r where
 c0:=by rw[World.cell?_of_block (w:=w) e];exact h.c0
 c1:=by rw[World.cell?_of_block (w:=w) e];exact h.c1
 c2:=by rw[World.cell?_of_block (w:=w) e];exact h.c2
 c3:=by rw[World.cell?_of_block (w:=w) e];exact h.c3
structure ReadsOn (w:World) (p:Option Addr) (rs:List Rd):Prop where
 tags:∀ r ∈ rs,r.t.size<=maxLen
 at_:rs≠[]->∃ b o,p=some ⟨b,o,none⟩/\b<w.heap.size/\∀ k r,rs[k]?=some r->RdAt w b (o+k*4) r
theorem ReadsOn.below {B:Nat} {w w':World} {p:Option Addr} {rs:List Rd} (h:ReadsOn w p rs) (hb:Below B w w') (hB:w.heap.size<=B):ReadsOn w' p rs where
 tags:=h.tags
 at_:=fun hne=>by obtain ⟨b,o,rfl,hlt,hc⟩:=h.at_ hne;exact ⟨b,o,rfl,Nat.lt_of_lt_of_le hlt hb.size,fun k r hr=>(hc k r hr).keep (hb.block b (by omega))⟩
theorem between_any (n lo hi:Int) (w:World) :
  Calls prog 170 #[.int .i64 n,.int .i64 lo,.int .i64 hi] w fun e w'=>e = .returned (.bool (btw n lo hi))/\w'=w:=by
 by_cases h1:lo<=n
 ·by_cases h2:n<=hi
  ·have hb:btw n lo hi=true:=(by simp[btw,h1,h2]);rw[hb];clear hb;go_enter func170,ntmps170;go_wp2;go_ret;exact ⟨rfl,rfl⟩
  ·have hb:btw n lo hi=false:=(by simp[btw];omega);rw[hb];clear hb;go_enter func170,ntmps170;go_wp2;go_ret;exact ⟨by simp,rfl⟩
 ·have hb:btw n lo hi=false:=by simp[btw];omega
  rw[hb];clear hb;have h1':decide (lo<=n)=false:=by simpa using h1
  go_enter func170,ntmps170;go_wp2;go_ret;exact ⟨rfl,rfl⟩
theorem isRead_any (r:Rd) (w:World) (ht:r.t.size<=maxLen) :
  Calls prog 171 #[.agg #[.int .i64 r.a,.int .i64 r.s,.int .i64 r.g,.string r.t]] w fun e w'=>e = .returned (.bool (rdOk r))/\Below w.heap.size w w':=by
 obtain ⟨R,hR⟩:∃ R,R=rdOk r:=⟨_,rfl⟩;have HR:Hid (R=rdOk r):=hR;rw[<- hR];clear hR;obtain ⟨a,s,g,t⟩:=r;have ht':t.size<=maxLen:=ht;clear ht;cases h1:btw a 0 3
 case false=>go_enter func171,ntmps171;go_wp2_with (go_at_call 170;refine (between_any _ _ _ _).mono ?_;rintro e w' ⟨rfl,rfl⟩);go_ret;exact ⟨by rw[HR.out];simp[rdOk,h1],(Below.refl _ _).alloc (Nat.le_refl _) _⟩
 cases h2:btw s 0 255
 case false=>go_enter func171,ntmps171;go_wp2_with (go_at_call 170;refine (between_any _ _ _ _).mono ?_;rintro e w' ⟨rfl,rfl⟩);go_ret;exact ⟨by rw[HR.out];simp[rdOk,h2],(Below.refl _ _).alloc (Nat.le_refl _) _⟩
 cases h3:btw g 0 255
 case false=>go_enter func171,ntmps171;go_wp2_with (go_at_call 170;refine (between_any _ _ _ _).mono ?_;rintro e w' ⟨rfl,rfl⟩);go_ret;exact ⟨by rw[HR.out];simp[rdOk,h3],(Below.refl _ _).alloc (Nat.le_refl _) _⟩
 go_enter func171,ntmps171;go_wp2_with (go_at_call 170;refine (between_any _ _ _ _).mono ?_;rintro e w' ⟨rfl,rfl⟩);go_ret;refine ⟨?_,(Below.refl _ _).alloc (Nat.le_refl _) _⟩;rw[HR.out];simp[rdOk,h1,h2,h3];rw[Bool.eq_iff_iff];simp;omega
end FrmA
namespace FrmA
open Go.RowKit FrmM
def errV (n:Nat):Value:=if n=0 then .nilIface else .iface 105 (.int .i64 n)
theorem check_ty (T W:Int) (rs:List Rd) (p:Option Addr) (cap:Nat) (w:World) (h:btw T 1 3=false) :
  Calls prog 142 #[.agg #[.int .i64 T,.slice p rs.length cap,.int .i64 W]] w fun e w'=>e = .returned (.iface 105 (.int .i64 1))/\Below w.heap.size w w':=by
 go_enter func142,ntmps142;go_wp2_with (go_at_call 170;refine (between_any _ _ _ _).mono ?_;rintro e w' ⟨rfl,rfl⟩);go_ret;exact ⟨rfl,(Below.refl _ _).alloc (Nat.le_refl _) _⟩
theorem check_shape1 (W:Int) (n:Nat) (p:Option Addr) (cap:Nat) (w:World) (h:W≠0) :
  Calls prog 142 #[.agg #[.int .i64 1,.slice p n cap,.int .i64 W]] w fun e w'=>e = .returned (.iface 105 (.int .i64 3))/\Below w.heap.size w w':=by
 have b1:btw 1 1 3=true:=rfl;have hW:(W == 0)=false:=by simpa using h
 go_enter func142,ntmps142;go_wp2_with (go_at_call 170;refine (between_any _ _ _ _).mono ?_;rintro e w' ⟨rfl,rfl⟩);go_ret;exact ⟨rfl,(Below.refl _ _).alloc (Nat.le_refl _) _⟩
theorem check_shape2 (W:Int) (p:Option Addr) (cap:Nat) (w:World) (h:W≠0) :
  Calls prog 142 #[.agg #[.int .i64 2,.slice p 0 cap,.int .i64 W]] w fun e w'=>e = .returned (.iface 105 (.int .i64 3))/\Below w.heap.size w w':=by
 have b1:btw 2 1 3=true:=rfl;have hW:(W == 0)=false:=by simpa using h
 go_enter func142,ntmps142;go_wp2_with (go_at_call 170;refine (between_any _ _ _ _).mono ?_;rintro e w' ⟨rfl,rfl⟩);go_ret;exact ⟨rfl,(Below.refl _ _).alloc (Nat.le_refl _) _⟩
theorem check_shapeN (T W:Int) (n:Nat) (p:Option Addr) (cap:Nat) (w:World) (h:T=2\/T=3) (hn : 0<n) :
  Calls prog 142 #[.agg #[.int .i64 T,.slice p n cap,.int .i64 W]] w fun e w'=>e = .returned (.iface 105 (.int .i64 3))/\Below w.heap.size w w':=by
 have b1:btw T 1 3=true:=by rcases h with rfl | rfl<;>rfl
 have hT:(T == 1)=false:=by rcases h with rfl | rfl<;>rfl
 clear h;go_enter func142,ntmps142;go_wp2_with (go_at_call 170;refine (between_any _ _ _ _).mono ?_;rintro e w' ⟨rfl,rfl⟩);go_ret;exact ⟨rfl,(Below.refl _ _).alloc (Nat.le_refl _) _⟩
theorem check_warm (W:Int) (p:Option Addr) (cap:Nat) (w:World) (h:btw W 0 255=false) :
  Calls prog 142 #[.agg #[.int .i64 3,.slice p 0 cap,.int .i64 W]] w fun e w'=>e = .returned (.iface 105 (.int .i64 1))/\Below w.heap.size w w':=by
 have b1:btw 3 1 3=true:=rfl;go_enter func142,ntmps142;go_wp2_with (go_at_call 170;refine (between_any _ _ _ _).mono ?_;rintro e w' ⟨rfl,rfl⟩);go_ret;exact ⟨rfl,(Below.refl _ _).alloc (Nat.le_refl _) _⟩
theorem check_many (n:Nat) (p:Option Addr) (cap:Nat) (w:World) (h : 4<n) :
  Calls prog 142 #[.agg #[.int .i64 1,.slice p n cap,.int .i64 0]] w fun e w'=>e = .returned (.iface 105 (.int .i64 2))/\Below w.heap.size w w':=by
 have b1:btw 1 1 3=true:=rfl;have b2:btw 0 0 255=true:=rfl;have hI:(4:Int)<n:=by omega
 go_enter func142,ntmps142;go_wp2_with (go_at_call 170;refine (between_any _ _ _ _).mono ?_;rintro e w' ⟨rfl,rfl⟩);go_ret;exact ⟨rfl,(Below.refl _ _).alloc (Nat.le_refl _) _⟩
theorem check_none (T W:Int) (p:Option Addr) (cap:Nat) (w:World) (h:T=2/\W=0\/T=3/\btw W 0 255=true) :
  Calls prog 142 #[.agg #[.int .i64 T,.slice p 0 cap,.int .i64 W]] w fun e w'=>e = .returned .nilIface/\Below w.heap.size w w':=by
 have b1:btw T 1 3=true:=by rcases h with ⟨rfl,_⟩ | ⟨rfl,_⟩<;>rfl
 have hT:(T == 1)=false:=by rcases h with ⟨rfl,_⟩ | ⟨rfl,_⟩<;>rfl
 have b2:btw W 0 255=true:=by rcases h with ⟨_,rfl⟩ | ⟨_,h⟩;rfl;exact h
 rcases h with ⟨rfl,rfl⟩ | ⟨rfl,h⟩
 ·go_enter func142,ntmps142;go_wp2_with (go_at_call 170;refine (between_any _ _ _ _).mono ?_;rintro e w' ⟨rfl,rfl⟩);go_loopw [4,43] (fun _ i V=>i = .int .i64 0/\V=w.alloc (.cells #[.int .i64 2,.slice p 0 cap,.int .i64 0] 93)) (fun _ _ _=>0)
  case atStart=>exact ⟨rfl,rfl⟩
  case round=>obtain ⟨rfl,rfl⟩:=hrel;go_wp2;go_ret;exact ⟨rfl,(Below.refl _ _).alloc (Nat.le_refl _) _⟩
 ·go_enter func142,ntmps142;go_wp2_with (go_at_call 170;refine (between_any _ _ _ _).mono ?_;rintro e w' ⟨rfl,rfl⟩);go_loopw [4,43] (fun _ i V=>i = .int .i64 0/\V=w.alloc (.cells #[.int .i64 3,.slice p 0 cap,.int .i64 W] 93)) (fun _ _ _=>0)
  case atStart=>exact ⟨rfl,rfl⟩
  case round=>obtain ⟨rfl,rfl⟩:=hrel;go_wp2;go_ret;exact ⟨rfl,(Below.refl _ _).alloc (Nat.le_refl _) _⟩
theorem check_reads (rs:List Rd) (p:Option Addr) (cap:Nat) (w:World) (h:rs.length<=4) (hr:ReadsOn w p rs) :
  Calls prog 142 #[.agg #[.int .i64 1,.slice p rs.length cap,.int .i64 0]] w fun e w'=>e = .returned (errV (if rs.all rdOk=true then 0 else 1))/\Below w.heap.size w w':=by
 have HR:Hid (ReadsOn w p rs):=hr;clear hr;obtain ⟨R,hR⟩:∃ R,R=errV (if rs.all rdOk=true then 0 else 1):=⟨_,rfl⟩;have HRR:Hid (R=errV (if rs.all rdOk=true then 0 else 1)):=hR;rw[<- hR];clear hR;have b1:btw 1 1 3=true:=rfl;have b2:btw 0 0 255=true:=rfl;obtain ⟨n,hn⟩:∃ n,n=rs.length:=⟨_,rfl⟩;rw[<- hn] at h ⊢;have HN:Hid (n=rs.length):=hn;have hI:¬ (4:Int)<n:=by omega
 clear hn;go_enter func142,ntmps142;go_wp2_with (go_at_call 170;refine (between_any _ _ _ _).mono ?_;rintro e w' ⟨rfl,rfl⟩);go_loopw [4,43] (fun _ i V=>∃ k:Nat,k<=n/\i = .int .i64 k/\Below (w.heap.size+1) (w.alloc (.cells #[.int .i64 1,.slice p n cap,.int .i64 0] 93)) V/\(rs.take k).all rdOk=true) (fun _ i _=>n-(intOf i).toNat)
 case atStart=>exact ⟨0,Nat.zero_le _,rfl,Below.refl _ _,rfl⟩
 case round=>
  obtain ⟨k,hk,rfl,hbl,hall⟩:=hrel;by_cases hlt:k<n
  ·have hkI:(k:Int)<n:=(by omega);have hk':k<rs.length:=(by rw[<- HN.out];exact hlt);obtain ⟨b,o,rfl,hb,hc⟩:=HR.out.at_ (by intro e;rw[e] at hk';simp at hk');have hrd:=(hc k _ (List.getElem?_eq_getElem hk')).keep ((hbl.block b (by omega)).trans (Below.heap_alloc w _ b hb));have ht:=HR.out.tags _ (List.getElem_mem hk');obtain ⟨c0,c1,c2,c3⟩:=hrd;have HT:Hid (rs[k].t.size<=maxLen):=ht;have HB:Hid (Below w.heap.size w wr):=((Below.refl _ w).alloc (Nat.le_refl _) _).trans (hbl.mono (by omega));have HBL:Hid (Below (w.heap.size+1) (w.alloc (.cells #[.int .i64 1,.slice (some ⟨b,o,none⟩) n cap,.int .i64 0] 93)) wr):=hbl;have hsz:w.heap.size+1<=wr.heap.size:=(by have:=hbl.size;simpa using this);have HA:Hid ((rs.take k).all rdOk=true):=hall;have HK:Hid (rs.take (k+1)=rs.take k ++ [rs[k]]):=List.take_succ_eq_append_getElem hk';have HD:Hid (rs.all rdOk=true->rdOk rs[k]=true):=fun h=>List.all_eq_true.1 h _ (List.getElem_mem hk');clear hbl hc ht hall hb;go_wp2_with fail;refine (isRead_any _ _ HT.out).mono ?_;rintro e w1 ⟨rfl,hb1⟩;have HB1:Hid (Below (wr.alloc (.cells #[.int .i64 rs[k].a,.int .i64 rs[k].s,.int .i64 rs[k].g,.string rs[k].t] 90)).heap.size (wr.alloc (.cells #[.int .i64 rs[k].a,.int .i64 rs[k].s,.int .i64 rs[k].g,.string rs[k].t] 90)) w1):=hb1;clear hb1 c0 c1 c2 c3;cases hok:rdOk rs[k]
   ·go_wp2;go_ret;refine ⟨?_,?_⟩
    ·rw[HRR.out,if_neg (fun h=>by have:=HD.out h;rw[hok] at this;cases this)];rfl
    ·exact (HB.out.alloc (by omega) _).trans (HB1.out.mono (by simp;omega))
   ·go_wp2;go_roundw
    case rel=>refine ⟨k+1,by omega,by go_num,(HBL.out.alloc (by omega) _).trans (HB1.out.mono (by simp;omega)),?_⟩;rw[HK.out,List.all_append,HA.out];simp[hok]
    case measure=>simp[intOf];omega
  ·obtain rfl:k=n:=(by omega);have HA:Hid ((rs.take k).all rdOk=true):=hall;have HB:Hid (Below w.heap.size w wr):=((Below.refl _ w).alloc (Nat.le_refl _) _).trans (hbl.mono (by omega));clear hbl hall;go_wp2;go_ret;refine ⟨?_,HB.out⟩;have:=HA.out;rw[HN.out,List.take_length] at this;rw[HRR.out,if_pos this];rfl
theorem errV_pos {n:Nat} (h:n≠0):errV n = .iface 105 (.int .i64 n):=by unfold errV;rw[if_neg h]
theorem check_any (f:Fr) (p:Option Addr) (cap:Nat) (w:World) (hr:ReadsOn w p f.rs) :
  Calls prog 142 #[.agg #[.int .i64 f.ty,.slice p f.rs.length cap,.int .i64 f.wm]] w fun e w'=>e = .returned (errV (fault f))/\Below w.heap.size w w':=by
 obtain ⟨T,rs,W⟩:=f;simp only at hr ⊢;unfold fault;simp only;cases h1:btw T 1 3 with
 | false=>
  rw[if_pos rfl];exact check_ty T W rs p cap w h1
 | true=>
  rw[if_neg (by simp)];have h1':=btw_true.1 h1;rcases (show T=1\/T=2\/T=3 by omega) with rfl | rfl | rfl
  ·by_cases hW:W=0
   ·subst hW;rw[if_neg (by simp),if_neg (by decide)];by_cases h4 : 4<rs.length
    ·rw[if_pos h4];exact check_many rs.length p cap w h4
    ·rw[if_neg h4];exact check_reads rs p cap w (by omega) hr
   ·rw[if_pos (Or.inr ⟨by decide,hW⟩)];exact check_shape1 W rs.length p cap w hW
  ·by_cases hn : 0<rs.length
   ·rw[if_pos (Or.inl ⟨by decide,hn⟩)];exact check_shapeN 2 W rs.length p cap w (Or.inl rfl) hn
   ·obtain rfl:rs = []:=List.length_eq_zero_iff.1 (by omega);by_cases hW:W=0
    ·subst hW;rw[if_neg (by simp),if_neg (by decide),if_neg (by simp),if_pos List.all_nil];exact check_none 2 0 p cap w (Or.inl ⟨rfl,rfl⟩)
    ·rw[if_pos (Or.inr ⟨by decide,hW⟩)];exact check_shape2 W p cap w hW
  ·by_cases hn : 0<rs.length
   ·rw[if_pos (Or.inl ⟨by decide,hn⟩)];exact check_shapeN 3 W rs.length p cap w (Or.inr rfl) hn
   ·obtain rfl:rs = []:=List.length_eq_zero_iff.1 (by omega);rw[if_neg (by simp)];cases hW:btw W 0 255 with
    | false=>
     rw[if_pos rfl];exact check_warm W p cap w hW
    | true=>
     rw[if_neg (by simp),if_neg (by simp),if_pos List.all_nil];exact check_none 3 W p cap w (Or.inr ⟨rfl,hW⟩)
end FrmA
end Go.Proofs.YtmolafjalaeoaaaGreatDoor
