/-
  TkS TkT InR
-/
import Derived.Test.YtmolafjalaeoaaaGreatDoorQbd
import Derived.Sort.KeysCollected
import Derived.Sort.OwnSorted
import Derived.RangeFuncNested
import Derived.RangeFuncBound
import Derived.RangeFuncCalls
import Derived.RangeFuncLeaves
import Derived.Shelf.Abstract
import Derived.Shelf.RegionOpen
import Derived.OwnWalkIn
import Derived.TacticsInMore
import Derived.LoopNIn
import Derived.LoopIn
import Derived.Test.YtmolafjalaeoaaaGreatDoorQbb
set_option maxRecDepth 100000
set_option maxHeartbeats 8000000
namespace Go.Proofs.YtmolafjalaeoaaaGreatDoor
open Tryz
namespace TkA
open Go.RowKit TkM TkW Go.Maps
theorem sortS (v:Value) (ss:List (List UInt8)) (w:World) (base:Nat) (h:w.ownsRow base 9 1 v ss.length (ss.map encStr)) (hl:ss.length<=100000) :
  Calls prog 113 #[v] w fun e w'=>e = .returned (.tuple #[])/\w'.ownsRow base 9 1 v ss.length ((ss.mergeSort leB).map encStr)/\w.grownBy w' v.ownBlock:=by
 have hown:=h;rcases h.2 with ⟨rfl,h0⟩ | ⟨g,cap,cur,rfl,hg,hb,h1,h2,h3,h4⟩
 ·have hx:ss = []:=List.length_eq_zero_iff.1 h0;subst hx;refine (slices_Sort_string_none none 0 w).mono ?_;rintro e w' ⟨rfl,rfl⟩;have e:([]:List (List UInt8)).mergeSort leB = []:=by simp
  rw[e];exact ⟨rfl,hown,⟨rfl,rfl,rfl,Nat.le_refl _,fun _ _ _=>rfl⟩⟩
 ·refine (slices_Sort_string g 0 cap ss w (holds_of_block hb (by simpa using h4)) (Array.getElem?_eq_some_iff.1 hb).1 (by omega)).mono ?_;rintro e w' ⟨rfl,n,os,rfl⟩;exact ⟨rfl,ownsRow_sorted (List.length_mergeSort _) hg hb h1 h2 h3,grownBy_sorted _⟩
section
variable {w : World} {tb : Nat} {who : Nat → Nat × ByteArray × Nat} {W need n r : Nat} {ep : Nat → List Sg}
theorem tags_any (d:TrAt w tb who W need n r ep) (hr:r<=90000) :
  Calls prog 112 #[.pointer (some ⟨tb,0,none⟩)] w fun e w'=>e = .returned (.func (.func 138) #[] #[.pointer (some ⟨w.heap.size,0,none⟩)])/\∃ (v:Value) (ss:List (List UInt8)),w'.cell? ⟨w.heap.size,0,none⟩=some v/\w'.ownsRow w.heap.size 9 1 v ss.length (ss.map encStr)/\ss.length<=90000/\ss.Nodup/\(∀ g:ByteArray,g.data.toList ∈ ss↔∃ e,seenG g (ep e)=true)/\Below w.heap.size w w'/\w.heap.size<w'.heap.size:=by
 obtain ⟨i9,hi9,hz9,hs9,hb9⟩:=info_parts info9;obtain ⟨mb,m,D,tr,sp,d⟩:=d.out;have HD:Hid (TrIn w tb mb m D tr sp who W need n r ep):=d;have hmr:=d.room;have hmlt:=d.mlt;have hD1:∀ o,TrIn (w.alloc o) tb mb m D tr sp who W need n r ep:=fun o=>d.below ((Below.refl _ w).alloc (Nat.le_refl _) o);have c3:∀ o,(w.alloc o).cell? ⟨tb,3,none⟩=some (.map (some mb)):=fun o=>(hD1 o).c3;have hown:∀ o,(w.alloc o).ownsMap prog 9 heldV mb m D:=fun o=>(hD1 o).own;have HB0:Hid (∀ o,Below w.heap.size w (w.alloc o)):=fun o=>(Below.refl _ w).alloc (Nat.le_refl _) o;clear d hD1;go_enter func112,ntmps112;go_wp2_with (first | (at_range;refine wpList_range_own _ rfl _ 162 rfl 9 192 law9 underlying162 _ mb m D rfl (hown _) ?_;intro w0 hrg0 hg0 hs0));go_frame;have HC0:Hid (w0.heap[w.heap.size]?=some (.cells #[.slice none 0 0] 63)):=(hg0.block _ (by simp) (by simp)).trans (Go.heap_alloc_new w _);have HBB:Hid (Below w.heap.size w w0):=(HB0.out _).trans ⟨hg0.os,hg0.tape,hg0.output,hg0.size,fun k hk=>hg0.block k (by simp;omega) (by simp)⟩;rw[World.size_alloc] at hrg0 hs0 ⊢;obtain ⟨RB,hRB⟩:∃ RB,RB=w.heap.size+1:=⟨_,rfl⟩;rw[<- hRB] at hrg0 hs0 ⊢;have HRB:Hid (RB=w.heap.size+1):=hRB;have hRBw:w.heap.size<RB:=by omega
 clear hRB c3 hown;go_loopw [4] (fun _ V=>∃ left cn ss v,V.ranges prog 9 heldV mb RB m D left cn/\Collected D left ss/\V.heap[w.heap.size]?=some (.cells #[v] 63)/\V.ownsRow (w.heap.size+1) 9 1 v ss.length (ss.map encStr)/\ss.length+cn<=Maps.size D/\Below w.heap.size w V) (fun _ V=>V.rangeLeft mb RB)
 case atStart=>exact ⟨_,_,[],.slice none 0 0,hrg0,Collected.start D,HC0.out,World.ownsRow_nil _ _ _ _,by simp,HBB.out⟩
 case round=>
  obtain ⟨left,cn,ss,v,hrg,hC,hbx,hrow,hlen,hbl⟩:=hrel;have hsz:=hrg.owns.size_le;have HC:Hid (Collected D left ss):=hC;have HBX:Hid (wr.heap[w.heap.size]?=some (.cells #[v] 63)):=hbx;have HROW:Hid (wr.ownsRow (w.heap.size+1) 9 1 v ss.length (ss.map encStr)):=hrow;have HBL:Hid (Below w.heap.size w wr):=hbl;have HRGO:Hid (wr.ranges prog 9 heldV mb RB m D left cn):=hrg;have hBs:w.heap.size<wr.heap.size:=(Array.getElem?_eq_some_iff.1 hbx).1;clear hC hbx hrow hbl hrg0 hg0 hs0 HC0 HBB;go_wp2_with (first | (at_next;refine wpList_next_ranges (α:=List UInt8) (β:=Value) _ rfl _ rfl 9 law9 heldV encStr (fun v=>v) (fun key kl hk=>(by obtain ⟨x,hx,_⟩:=Maps.keyOf_str underlying9 hk;exact ⟨x,hx⟩)) (fun v y _=>⟨v,rfl⟩) mb RB m _ _ _ rfl hrg ?_ ?_))
  ·intro hc0 hl0;have hperm:=HC.out.perm HRGO.out.owns law9 underlying9 hl0;have k0:wr.cell? ⟨w.heap.size,0,none⟩=some v:=(by simp[World.cell?,HBX.out]);have HND:Hid (ss.Nodup):=HC.out.1
   have HMEM:Hid (∀ g:ByteArray,g.data.toList ∈ ss↔∃ e,seenG g (ep e)=true):=fun g=>by
    rw[HC.out.2,hl0];simp only[and_true];rw[<- HD.out.told g];constructor
    ·intro h;cases ht:tr g with
     | some b=>rfl
     | none=>
      have:=has_false_of_atKey (D:=D) (k:=.string g.data.toList) (fun z=>by rw[HD.out.key g z,ht];rfl);rw[h] at this;cases this
    ·intro h;obtain ⟨b,hb⟩:=Option.isSome_iff_exists.1 h;exact has_true_of_atKey (y:=.held (.map (some b))) (fun z=>by rw[HD.out.key g z,hb];rfl)
   have hl9:ss.length<=90000:=(by omega);clear hrg hc0 hl0 hperm HC HRGO;go_wp2_with fail;refine (sortS v ss wr (w.heap.size+1) HROW.out (by omega)).mono ?_;rintro e w2 ⟨rfl,ho2,hg2⟩;have hne:some w.heap.size≠v.ownBlock:=row_ne_low HROW.out (by omega);have HX2:Hid (w2.heap[w.heap.size]?=some (.cells #[v] 63)):=(hg2.block _ hBs hne).trans HBX.out;have HO2:Hid (w2.ownsRow w.heap.size 9 1 v (ss.mergeSort leB).length ((ss.mergeSort leB).map encStr)):=(by show World.ownsRow _ _ _ _ _ _ _;rw[List.length_mergeSort];exact own_base ho2 (by omega));have HB2:Hid (Below w.heap.size w w2):=HBL.out.trans ⟨hg2.os,hg2.tape,hg2.output,hg2.size,fun k hk=>hg2.block k (by omega) (row_ne_low HROW.out (by omega))⟩;have hs2:w.heap.size<w2.heap.size:=(by have:=hg2.size;omega);clear ho2 hg2 hne k0;go_wp2;go_ret;refine ⟨rfl,v,ss.mergeSort leB,by simp[World.cell?,HX2.out],HO2.out,by rw[List.length_mergeSort];exact hl9,(List.mergeSort_perm ss leB).nodup_iff.2 HND.out,fun g=>?_,HB2.out,hs2⟩;rw[(List.mergeSort_perm ss leB).mem_iff];exact HMEM.out g
  ·intro x c kl yd yp w2 cnt2 hkey hlk hv hat hrg2 hlt hg2 hs2 hen;obtain ⟨x',ex,rfl,_⟩:=Maps.keyOf_str underlying9 hkey;obtain rfl:x=x':=encStr_inj ex;have hbx2:w2.heap[w.heap.size]?=some (.cells #[v] 63):=(hg2.block _ hBs (fun e=>by simp at e;omega)).trans HBX.out;have hrow2:w2.ownsRow (w.heap.size+1) 9 1 v ss.length (ss.map encStr):=own_keep HROW.out (fun b hb=>hg2.block b (own_lt HROW.out hb) (fun e=>row_ne_iter HROW.out HRGO.out (by rw[hb];exact e.symm)));obtain ⟨xb,hxb⟩:∃ xb,encStr x = .string xb:=⟨_,rfl⟩;have HXB:Hid (encStr x = .string xb):=hxb;have hpo:=hrow2.alloc (.cells #[.string xb] 9);rw[hxb] at hen ⊢;have k0:∀ o,(w2.alloc o).cell? ⟨w.heap.size,0,none⟩=some v:=fun o=>(by have h1:(w2.alloc o).heap[w.heap.size]?=some (.cells #[v] 63):=(Below.heap_alloc w2 o _ (by omega)).trans hbx2;simp[World.cell?,h1]);have k0':w2.cell? ⟨w.heap.size,0,none⟩=some v:=(by simp[World.cell?,hbx2]);have HBX2:Hid (w2.heap[w.heap.size]?=some (.cells #[v] 63)):=hbx2;have HROW2:Hid (w2.ownsRow (w.heap.size+1) 9 1 v ss.length (ss.map encStr)):=hrow2;have HRG2:Hid (w2.ranges prog 9 heldV mb RB m D (fun z=>left z && !z.sameKey (.string x)) cnt2):=hrg2;have HCS:Hid (Collected D (fun z=>left z && !z.sameKey (.string x)) (ss ++ [x])):=HC.out.step hlk hat;have HBL2:Hid (Below w.heap.size w w2):=HBL.out.trans ⟨hg2.os,hg2.tape,hg2.output,hg2.size,fun k hk=>hg2.block k (by omega) (fun e=>by simp at e;omega)⟩;have HLT:Hid (cnt2<cn):=hlt;have hs2':w.heap.size<w2.heap.size:=(by omega);clear hkey hlk hv hat hrg2 hlt hg2 hs2 hrow2 hbx2 hrg HC HROW HBX HBL ex hxb;go_wp2_with (at_builtin;refine wpList_append_lies _ rfl _ _ 63 rfl (w.heap.size+1) 9 i9 (.string ⟨#[]⟩) 1 16 underlying63 hi9 hz9 hs9 hb9 rfl (by decide) _ _ _ rfl hpo ⟨w2.heap.size,0,none⟩ 1 1 [.string xb] rfl rfl ?q1 ?q2 (by omega) ?q3 ?q4 ?q5 (w2.heap.size+1) ?q6 ?_)
   try case q1=>
    intro j u hj
    match j,hj with
    | 0,hj=>simp at hj;subst hj;simp[Addr.add]
   try case q2=>first | rfl | (intro u hu;simp at hu;subst hu;rfl)
   try case q3=>unfold maxLen;omega
   try case q4=>omega
   try case q5=>simp;omega
   try case q6=>simp
   intro g3 cv3 V3 hown3 hgrow3 hat3 hlt3;have hne3:some w.heap.size≠v.ownBlock:=row_ne_low HROW2.out (by omega);have hX3:V3.heap[w.heap.size]?=some (.cells #[v] 63):=(hgrow3.block _ (by simp;omega) hne3).trans ((Below.heap_alloc w2 _ _ (by omega)).trans HBX2.out);have k3:V3.cell? ⟨w.heap.size,0,none⟩=some v:=(by simp[World.cell?,hX3]);have f3:V3.frozen? ⟨w.heap.size,0,none⟩=false:=(by simp[World.frozen?,hX3]);have HX4:Hid ((V3.setCell ⟨w.heap.size,0,none⟩ (.slice (some ⟨g3,0,none⟩) (ss.length+1) cv3)).heap[w.heap.size]?=some (.cells #[.slice (some ⟨g3,0,none⟩) (ss.length+1) cv3] 63)):=(by show _ = _;simp[World.setCell,Array.getElem?_modify,hX3]);have HG3:Hid (w2.grownBy V3 v.ownBlock):=(World.grownBy_alloc w2 _ _).trans hgrow3;have HO3:Hid (V3.ownsRow (w.heap.size+1) 9 1 (.slice (some ⟨g3,0,none⟩) (ss.length+1) cv3) (ss.length+1) ((ss ++ [x]).map encStr)):=(by have:(ss ++ [x]).map encStr=ss.map encStr ++ [.string xb]:=(by rw[List.map_append,<- HXB.out];rfl);show World.ownsRow _ _ _ _ _ _ _;rw[this];exact hown3);have hgne:g3≠w.heap.size:=(by have:=(hown3.lt g3 rfl).1;omega);clear hown3 hgrow3 hat3 hlt3 hX3 hne3 hpo k0 k0' hen;go_wp2;have hset:V3.grownBy (V3.setCell ⟨w.heap.size,0,none⟩ (.slice (some ⟨g3,0,none⟩) (ss.length+1) cv3)) (some w.heap.size):=⟨rfl,rfl,rfl,by simp[World.setCell],fun b _ hn=>Below.heap_setCell _ _ _ _ (fun e=>hn (by rw[e]))⟩;have hrgA:=HRG2.out.kept HG3.out (row_ne_low HROW2.out (by omega)) (row_ne_iter HROW2.out HRG2.out);have hrgN:=hrgA.kept hset (fun e=>by simp at e;omega) (fun e=>by simp at e;omega);refine ⟨⟨_,_,ss ++ [x],.slice (some ⟨g3,0,none⟩) (ss.length+1) cv3,hrgN,HCS.out,HX4.out,?_,?_,?_⟩,?_⟩
   ·rw[List.length_append];exact own_keep HO3.out (fun b hb=>hset.block b (own_lt HO3.out hb) (fun e=>by simp[Value.ownBlock] at hb;simp at e;omega))
   ·have:=HLT.out;simp;omega
   ·have h1:Below w.heap.size w V3:=HBL2.out.trans ⟨HG3.out.os,HG3.out.tape,HG3.out.output,HG3.out.size,fun k hk=>HG3.out.block k (by omega) (row_ne_low HROW2.out (by omega))⟩;exact h1.setCell (p:=⟨w.heap.size,0,none⟩) (Nat.le_refl _) _
   ·rw[hrgN.left_eq,HRGO.out.left_eq];exact HLT.out
end
end TkA
namespace TkA
open Go.RowKit TkM TkW Go.Maps Go.Shelf
attribute [local go_sem] Oper.semAt_some
def KpB (S:Nat->Prop) (A B:World):Prop:=∀ b,S b->B.heap[b]?=A.heap[b]?
theorem kpB_t {S:Nat->Prop} {A B C:World} (h:KpB S A B) (k:KpB S B C):KpB S A C:=fun b hb=>(k b hb).trans (h b hb)
theorem kpB_b {S:Nat->Prop} {w:World} (hS:∀ b,S b->b<w.heap.size) (W:World) (l:Nat) (o o':Obj) (hl:w.heap.size<=l) (_:W.heap[l]?=some o) (_:o.isCells=false) (_:o.isWalk=false):KpB S W (W.putObj l o'):=fun b hb=>World.putObj_heap_other (fun e=>by have:=hS b hb;omega)
section
variable {A : ByteArray → Prop}
structure TgOn (W:World) (Bs:Nat) (p:Option Addr) (xs:List { x:ByteArray // A x }) (cap:Nat):Prop where
 box:W.cell? ⟨Bs,0,none⟩=some (.slice p xs.length cap)
 at_:∀ j x,xs[j]?=some x->∃ b,p=some ⟨b,0,none⟩/\W.cell? ⟨b,j,none⟩=some (.string x.1)
theorem tseq_in (n:Nat) (hn : 1<=n) (l Bs:Nat) (p:Option Addr) (cap:Nat) (xs:List { x:ByteArray // A x }) (S:Nat->Prop) (hS2:∀ b o,p=some ⟨b,o,none⟩->S b) (hl:xs.length<=90000) (J Jx:List { x:ByteArray // A x }->World->Prop)
  (hY:∀ pre x W1,J pre W1->pre.length<xs.length->YieldAt Fence.wide (n-1) prog l #[.string x.1] W1 fun e W'=>(e = .returned (.bool true)/\J (pre ++ [x]) W'/\KpB S W1 W')\/(e = .returned (.bool false)/\Jx (pre ++ [x]) W'))
  (W:World) (hT:TgOn W Bs p xs cap) (h0:J [] W) :
  CallsIn Fence.wide n prog 138 #[.func (.yield l) #[] #[],.pointer (some ⟨Bs,0,none⟩)] W fun e W'=>(∃ v,e = .returned v)/\((∃ ys,ys=xs/\J ys W')\/(∃ pre,pre <+: xs/\Jx pre W')):=by
 have hbox:=hT.box;have HT:Hid (TgOn W Bs p xs cap):=hT;obtain ⟨N,hN⟩:∃ N,N=xs.length:=⟨_,rfl⟩;have HN:Hid (N=xs.length):=hN;have HS2:Hid (∀ b o,p=some ⟨b,o,none⟩->S b):=hS2;have HJ0:Hid (J [] W):=h0;have HY:Hid (∀ pre x W1,J pre W1->pre.length<xs.length->YieldAt Fence.wide (n-1) prog l #[.string x.1] W1 fun e W'=>(e = .returned (.bool true)/\J (pre ++ [x]) W'/\KpB S W1 W')\/(e = .returned (.bool false)/\Jx (pre ++ [x]) W')):=hY;rw[<- hN] at hbox hl;have hNI:(N:Int)<=90000:=by omega
 clear hT hN hS2 h0 hY;refine callsIn_of_wp func138 rfl trivial ?_ rfl;simp only[ntmps138,List.size_toArray,List.length_cons,List.length_nil,Nat.reduceAdd,Nat.reduceSub,Array.replicate_succ,Array.replicate_zero,List.push_toArray,List.append_toArray,List.nil_append,List.cons_append];gi_wp2;gi_loopw [4,7] (fun _ i wr=>∃ k:Nat,k<=N/\i = .int .i64 (k:Int)/\J (xs.take k) wr/\KpB S W wr) (fun _ i _=>N-(intOf i).toNat)
 case atStart=>exact ⟨0,Nat.zero_le _,rfl,HJ0.out,fun _ _=>rfl⟩
 case round=>
  obtain ⟨k,hk,rfl,hJ,hkp⟩:=hrel;have HJ:Hid (J (xs.take k) wr):=hJ;have HKP:Hid (KpB S W wr):=hkp;clear hJ hkp;by_cases hlt:k<N
  ·have hkI:(k:Int)<N:=(by omega);have hk':k<xs.length:=(by rw[<- HN.out];exact hlt);obtain ⟨b,hpe,hc⟩:=HT.out.at_ k _ (List.getElem?_eq_getElem hk');have hc':wr.cell? ⟨b,k,none⟩=some (.string xs[k].1):=(by rw[World.cell?_of_block (HKP.out b (HS2.out b 0 hpe))];exact hc);have HTK:Hid (xs.take k ++ [xs[k]]=xs.take (k+1)):=(by show _ = _;rw[List.take_add_one,List.getElem?_eq_getElem hk'];rfl);obtain ⟨fn,tmps,assign,body,hy,hR⟩:=HY.out (xs.take k) xs[k] wr HJ.out (by rw[List.length_take];omega);generalize xs[k]=x at *;obtain ⟨x,hx⟩:=x;simp only at hc' hy hR;subst hpe;clear hc;gi_wp2;refine hR.mono ?_;rintro e W3 (⟨rfl,hJ3,hk3⟩ | ⟨rfl,hJx3⟩)
   ·have HJ3:Hid (J (xs.take (k+1)) W3):=(by rw[<- HTK.out];exact hJ3);have HK3:Hid (KpB S W W3):=kpB_t HKP.out hk3;clear hJ3 hk3;gi_wp2;go_roundw
    case rel=>exact ⟨k+1,by omega,by go_num,HJ3.out,HK3.out⟩
    case measure=>simp[intOf];omega
   ·have HJ3:Hid (Jx (xs.take (k+1)) W3):=(by rw[<- HTK.out];exact hJx3);clear hJx3;gi_wp2;refine bodyPost_ret (results_none rfl _ _ _) rfl ?_;exact ⟨⟨_,rfl⟩,.inr ⟨_,List.take_prefix _ _,HJ3.out⟩⟩
  ·have hkk:k=N:=(by omega);subst hkk;have hII:¬ (k:Int)<k:=(by omega);gi_wp2;go_end0;refine ⟨⟨_,rfl⟩,.inl ?_⟩;have:=HJ.out;rw[HN.out,List.take_length] at this;exact this
theorem TgOn.keep {W W':World} {Bs:Nat} {p:Option Addr} {xs:List { x:ByteArray // A x }} {cap:Nat} {S:Nat->Prop} (h:TgOn W Bs p xs cap) (hS1:S Bs) (hS2:∀ b o,p=some ⟨b,o,none⟩->S b) (hk:KpB S W W'):TgOn W' Bs p xs cap where
 box:=by rw[World.cell?_of_block (hk Bs hS1)];exact h.box
 at_:=fun j x hx=>by obtain ⟨b,hp,hc⟩:=h.at_ j x hx;exact ⟨b,hp,by rw[World.cell?_of_block (hk b (hS2 b 0 hp))];exact hc⟩
theorem tseq_stops (n:Nat) (hn : 1<=n) (w:World) (Bs:Nat) (p:Option Addr) (cap:Nat) (xs:List { x:ByteArray // A x }) (S:Nat->Prop) (hS1:S Bs) (hS2:∀ b o,p=some ⟨b,o,none⟩->S b) (hl:xs.length<=90000) (hlt:∀ b,S b->b<w.heap.size) (hT:TgOn w Bs p xs cap) :
  SeqStopsK Fence.wide n prog 138 #[.pointer (some ⟨Bs,0,none⟩)] (fun x : { x:ByteArray // A x }=>#[Value.string x.1]) (KpB S) (fun ys=>ys=xs) (fun pre=>pre <+: xs) xs.length w:=fun l J Jx W hW _ _ hY h0=>
 tseq_in n hn l Bs p cap xs S hS2 hl J Jx hY W (hT.keep hS1 hS2 (fun b hb=>hW.block b (hlt b hb))) h0
end
end TkA
namespace InA
open Go.RowKit
section
variable {P : Program} {ops : Array Oper} {Q : Exit → Act → World → Prop} {l n : Nat}
theorem op_round {i:Nat} {K:Act->World->Prop} {a:Act} {w:World} (hd:∀ (i:Nat) (o:Oper),ops[i]?=some o->∀ c,o.op≠.defer c) (hL:¬ LetsOut Q) (h:wpOp P ops Q i K a w):wpOpIn (Fence.wide.inRound l) n P ops Q i K a w:=by
 unfold wpOp at h;unfold wpOpIn;cases ho:ops[i]? with
 | none=>rw[ho] at h;exact h
 | some o=>
  rw[ho] at h;simp only at h ⊢;by_cases hw:Region.wanted o (yielded ops a.tmps)=true
  ·rw[if_pos hw] at h;rw[if_pos hw];rcases h with h | h
   ·refine ⟨fun _ _=>trivial,?_⟩;rw[Oper.semAt_plain (Fence.wide.inRound l) a.eval o (hd i o ho)];unfold Oper.wp at h;generalize (execOp a.eval o).run P w=r at *;cases r with
    | ok x w'=>
     cases x<;>simp only[Oper.upon,Oper.uponIn] at h ⊢<;>first
      | exact h
      | exact h.elim
      | exact ⟨fun hh=>(by cases hh),CallsIn.inRound l (callsIn_wide.2 h)⟩
      | exact ⟨fun hh=>(by cases hh),fun c cs _=>by obtain ⟨v,w'',r,s⟩:=h c cs;exact ⟨v,w'',r,stepsIn_wide.2 s⟩⟩
    | halt x w'=>cases x<;>simp only[Oper.upon,Oper.uponIn] at h ⊢<;>exact h
   ·exact absurd h.2 hL
  ·rw[if_neg hw] at h;rw[if_neg hw];exact ⟨fun _ _=>trivial,h⟩
theorem any_round (hd:∀ (i:Nat) (o:Oper),ops[i]?=some o->∀ c,o.op≠.defer c) (hL:¬ LetsOut Q) {md:Region.Mode}:∀ (fuel:Nat) (listed:Array Bool) (a:Act) (w:World),wpAny P md ops Q fuel listed a w->wpAnyIn (Fence.wide.inRound l) n P md ops Q fuel listed a w
 | 0,_,_,_,h=>h
 | fuel+1,_,_,_,h=>⟨h.1,fun i hi=>wpOpIn_mono (fun a' w' h'=>any_round hd hL fuel _ a' w' h') (op_round hd hL (h.2 i hi))⟩
theorem region_round {S:World->Prop} {id:Nat} {a:Act} {w:World} (hm:P.follows .mixedOrders=true) (hd:∀ (i:Nat) (o:Oper),ops[i]?=some o->∀ c,o.op≠.defer c) (hL:¬ LetsOut Q) (hS:S w.drew)
  (h:S w.drew->wpAnyH P .any ops Q S ops.size (Array.replicate ops.size false) a w.drew):(Code.region id ops true).wpIn (Fence.wide.inRound l) n P Q a w:=
 wpIn_region_any hm (any_round hd hL _ _ _ _ (wpAny_of_held _ _ _ _ (h hS)))
end
end InA
end Go.Proofs.YtmolafjalaeoaaaGreatDoor
