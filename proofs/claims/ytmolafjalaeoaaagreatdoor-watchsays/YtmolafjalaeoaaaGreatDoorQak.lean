/-
  TkF TkG TkH
-/
import Derived.Test.YtmolafjalaeoaaaGreatDoorQaj
import Derived.Deep.MidRow
set_option maxRecDepth 100000
set_option maxHeartbeats 8000000
namespace Go.Proofs.YtmolafjalaeoaaaGreatDoor
open Tryz
namespace TkA
open Go.RowKit TkM TkW Go.Maps
def tv (c:Nat->Nat) (s:Nat->Int) (i:Nat):Value:=if i%2=0 then .int .i64 (c (i/2):Int) else .int .i64 (s (i/2))
theorem tv_even (c:Nat->Nat) (s:Nat->Int) (p:Nat):tv c s (p*2) = .int .i64 (c p:Int):=by unfold tv;rw[if_pos (by omega),Nat.mul_div_cancel _ (by omega)]
theorem tv_odd (c:Nat->Nat) (s:Nat->Int) (p:Nat):tv c s (p*2+1) = .int .i64 (s p):=by unfold tv;rw[if_neg (by omega),show (p*2+1)/2=p by omega]
theorem row_add {V:World} {C:Nat} {c:Nat->Nat} {s:Nat->Int} {p:Nat} {v v1 v2:Int} (h:V.rowIs C 196 16 (tv c s)) (h1:v1=(c p:Int)+1) (h2:v2=s p+v) :
  ((V.setCell ⟨C,p*2,none⟩ (.int .i64 v1)).setCell ⟨C,p*2+1,none⟩ (.int .i64 v2)).rowIs C 196 16 (tv (fun q=>c q+if q=p then 1 else 0) (fun q=>s q+if q=p then v else 0)):=by
 refine ((h.set _ _).set _ _).congr (fun i hi=>?_);subst h1 h2;by_cases e2:i=p*2+1
 ·rw[if_pos e2,e2,tv_odd,if_pos rfl]
 ·rw[if_neg e2];by_cases e1:i=p*2
  ·rw[if_pos e1,e1,tv_even,if_pos rfl];congr 1
  ·rw[if_neg e1];unfold tv;have hne:i/2≠p:=(by omega);simp only[if_neg hne];simp
theorem row_tal {V:World} {C:Nat} {c:Nat->Nat} {s:Nat->Int} (h:V.rowIs C 196 16 (tv c s)):V.heap[C]?=some (.cells (tal c s) 196):=by
 obtain ⟨a,hb,hn,hc⟩:=h;rw[hb];congr 2;apply Array.ext_getElem?;intro i;by_cases hi:i<16
 ·rw[hc i hi];have h':i=0\/i=1\/i=2\/i=3\/i=4\/i=5\/i=6\/i=7\/i=8\/i=9\/i=10\/i=11\/i=12\/i=13\/i=14\/i=15:=by omega
  rcases h' with rfl | rfl | rfl | rfl | rfl | rfl | rfl | rfl | rfl | rfl | rfl | rfl | rfl | rfl | rfl | rfl<;>rfl
 ·rw[Array.getElem?_eq_none (by omega),Array.getElem?_eq_none (by show 16<=i;omega)]
theorem tv_congr {c c':Nat->Nat} {s s':Nat->Int} (h1:∀ q,c q=c' q) (h2:∀ q,s q=s' q) {i:Nat}:tv c s i=tv c' s' i:=by unfold tv;rw[h1,h2]
theorem two_sets (w:World) (C i k:Nat) (u v:Value):w.grownBy ((w.setCell ⟨C,i,none⟩ u).setCell ⟨C,k,none⟩ v) (some C):=by refine ⟨rfl,rfl,rfl,by simp[World.setCell],fun b _ hn=>?_⟩;have hne:b≠C:=fun e=>hn (by rw[e]);rw[Below.heap_setCell _ _ _ _ hne,Below.heap_setCell _ _ _ _ hne]
theorem grown_below {a b:World} {C B:Nat} (h:a.grownBy b (some C)) (hB:B<=C) (hs:B<=a.heap.size):Below B a b:=
 ⟨h.os,h.tape,h.output,h.size,fun k hk=>h.block k (by omega) (fun e=>by simp at e;omega)⟩
theorem setCells_below (b:Nat):∀ (vs:List Value) (o:Nat) (w:World) (B:Nat),B<=b->Below B w (w.setCells b o vs)
 | [],_,w,_,_=>Below.refl _ w
 | v::r,o,w,B,hB=>by rw[World.setCells];exact ((Below.refl _ w).setCell (p:=⟨b,o,none⟩) hB v).trans (setCells_below b r (o+1) _ B hB)
theorem results_mid {P:Program} {fn:Func} {p:Tmp} {ty:TypeId} (h:fn.results = #[.cell p ty]) (tmps:Array Value) (w:World) (g:Nat) (A:Array Value) (hp:tmps.getD p undef = .pointer (some ⟨g,0,none⟩)) (hl:(loadVar ty ⟨g,0,none⟩).run P w = .ok (.agg A) w):(results fn tmps).run P w = .ok (.agg A) w:=by
 have hp':tmps[p]?.getD undef = .pointer (some ⟨g,0,none⟩):=by simpa using hp
 simp[results,h,hp',asAddr,hl]
theorem cntS (g:ByteArray) (p:Int) (ep:Nat->List Sg) (L j:Nat):cnt g p ep L (j+1)=cnt g p ep L j+(if seenAt g p (ep (L+j))=true then 1 else 0):=rfl
theorem smS (g:ByteArray) (p:Int) (ep:Nat->List Sg) (L j:Nat):sm g p ep L (j+1)=sm g p ep L j+sumAt g p (ep (L+j)):=rfl
theorem max_lo {W e:Nat}:max 0 ((e:Int)-W+1)=((lo W e:Nat):Int):=by unfold lo;omega
theorem zero16:∀ i,i<(#[.int .i64 0,.int .i64 0,.int .i64 0,.int .i64 0,.int .i64 0,.int .i64 0,.int .i64 0,.int .i64 0,.int .i64 0,.int .i64 0,.int .i64 0,.int .i64 0,.int .i64 0,.int .i64 0,.int .i64 0,.int .i64 0]:Array Value).size->(#[.int .i64 0,.int .i64 0,.int .i64 0,.int .i64 0,.int .i64 0,.int .i64 0,.int .i64 0,.int .i64 0,.int .i64 0,.int .i64 0,.int .i64 0,.int .i64 0,.int .i64 0,.int .i64 0,.int .i64 0,.int .i64 0]:Array Value)[i]?=some ((fun _=>Value.int .i64 0) i):=by
 intro i hi;have hi:i<16:=hi;have h':i=0\/i=1\/i=2\/i=3\/i=4\/i=5\/i=6\/i=7\/i=8\/i=9\/i=10\/i=11\/i=12\/i=13\/i=14\/i=15:=by omega
 rcases h' with rfl | rfl | rfl | rfl | rfl | rfl | rfl | rfl | rfl | rfl | rfl | rfl | rfl | rfl | rfl | rfl<;>rfl
section
variable {w : World} {tb : Nat} {who : Nat → Nat × ByteArray × Nat} {W need n r : Nat} {ep : Nat → List Sg}
theorem count_any (g:ByteArray) (e:Nat) {mb m T:Nat} {D:DataW Value} {tr:ByteArray->Option Nat} {sp:ByteArray->Nat->Option Nat} (d:TrIn w tb mb m D tr sp who W need n r ep) (hT:tr g=some T) (hW:W<=8) (he:e<=1000) :
  Calls prog 99 #[.pointer (some ⟨tb,0,none⟩),.map (some T),.int .i64 (e:Int)] w fun x w'=>x = .returned (.agg (tal (cW g ep W e) (sW g ep W e)))/\Below w.heap.size w w':=by
 have HD:Hid (TrIn w tb mb m D tr sp who W need n r ep):=d;have hb2:∀ o o':Obj,Below w.heap.size w ((w.alloc o).alloc o'):=fun o o'=>((Below.refl _ w).alloc (Nat.le_refl _) o).alloc (by simp) o';have HB2:Hid (∀ o o':Obj,Below w.heap.size w ((w.alloc o).alloc o')):=hb2;have c0:∀ o o':Obj,((w.alloc o).alloc o').cell? ⟨tb,0,none⟩=some (.int .i64 (W:Int)):=fun o o'=>by rw[(hb2 o o').cell d.lt];exact d.c0
 clear d hb2;have hWI:(W:Int)<=8:=by omega
 have heI:(e:Int)<=1000:=by omega
 have hml:=@max_lo W e;go_enter func99,ntmps99;go_wp2;clear c0;obtain ⟨V0,hV0⟩:∃ V0,V0=((w.alloc (.cells #[.int .i64 0,.int .i64 0,.int .i64 0,.int .i64 0,.int .i64 0,.int .i64 0,.int .i64 0,.int .i64 0,.int .i64 0,.int .i64 0,.int .i64 0,.int .i64 0,.int .i64 0,.int .i64 0,.int .i64 0,.int .i64 0] 196)).alloc (.cells #[.int .i64 0,.int .i64 0,.int .i64 0,.int .i64 0,.int .i64 0,.int .i64 0,.int .i64 0,.int .i64 0,.int .i64 0,.int .i64 0,.int .i64 0,.int .i64 0,.int .i64 0,.int .i64 0,.int .i64 0,.int .i64 0] 196)):=⟨_,rfl⟩;have HV0:Hid (Below w.heap.size w V0):=by rw[hV0];exact HB2.out _ _
 have HR0:Hid (V0.rowIs w.heap.size 196 16 (fun _=>.int .i64 0)/\V0.rowIs (w.heap.size+1) 196 16 (tv (fun _=>0) (fun _=>0))):=by rw[hV0];refine ⟨(World.rowIs_alloc w _ 196 (fun _=>.int .i64 0) zero16).alloc _,?_⟩;have:=World.rowIs_alloc (w.alloc (.cells #[.int .i64 0,.int .i64 0,.int .i64 0,.int .i64 0,.int .i64 0,.int .i64 0,.int .i64 0,.int .i64 0,.int .i64 0,.int .i64 0,.int .i64 0,.int .i64 0,.int .i64 0,.int .i64 0,.int .i64 0,.int .i64 0] 196)) _ 196 (fun _=>.int .i64 0) zero16;rw[World.size_alloc] at this;exact this.congr (fun i _=>by unfold tv;split<;>rfl)
 rw[<- hV0];clear hV0 HB2;obtain ⟨L,hL⟩:∃ L,L=lo W e:=⟨_,rfl⟩;have hL1:L<=e+1:=by rw[hL];unfold lo;omega
 have HL:Hid (L=lo W e):=hL;rw[<- hL] at hml ⊢;clear hL;go_loopw [8,9,10] (fun v _ _ V=>∃ j:Nat,j<=e+1-L/\v = .int .i64 ((L+j:Nat):Int)/\V.rowIs w.heap.size 196 16 (fun _=>.int .i64 0)/\V.rowIs (w.heap.size+1) 196 16 (tv (fun p=>cnt g (p:Int) ep L j) (fun p=>sm g (p:Int) ep L j))/\Below w.heap.size w V) (fun v _ _ _=>e+1-(intOf v).toNat)
 case atStart=>exact ⟨0,Nat.zero_le _,rfl,HR0.out.1,HR0.out.2,HV0.out⟩
 case round=>
  clear HR0 HV0;obtain ⟨j,hj,rfl,hr0,hr1,hbl⟩:=hrel;by_cases hlt:L+j<=e
  case neg=>have hjj:j=e+1-L:=(by omega);have hI:¬ ((L+j:Nat):Int)<=e:=(by omega);subst hjj;have HBL:Hid (Below w.heap.size w wr):=hbl;have hbl':=hbl;have e1:(fun p:Nat=>cnt g (p:Int) ep L (e+1-L))=cW g ep W e:=(by funext p;unfold cW;rw[<- HL.out]);have e2:(fun p:Nat=>sm g (p:Int) ep L (e+1-L))=sW g ep W e:=(by funext p;unfold sW;rw[<- HL.out]);rw[e1,e2] at hr1;obtain ⟨c,hc⟩:∃ c,c=cW g ep W e:=⟨_,rfl⟩;obtain ⟨s,hs⟩:∃ s,s=sW g ep W e:=⟨_,rfl⟩;rw[<- hc,<- hs] at hr1;have HC:Hid (tal c s=tal (cW g ep W e) (sW g ep W e)):=(by rw[hc,hs];exact rfl);clear hc hs;clear e1 e2 hbl;have hra:wr.rangeAt (w.heap.size+1) 0 (tal c s).toList:=fun i v hv=>(by have hb1:=row_tal hr1;simp only[World.cell?,hb1,Nat.zero_add];simpa using hv);have hth:wr.there w.heap.size 0 16:=fun i hi=>(by rw[Nat.zero_add,hr0.cell hi];exact ⟨rfl,hr0.frozen i⟩);have h1:(tal c s).all (·.oneCell')=true:=(by simp[tal,Value.oneCell']);have hsz:(tal c s).size=16:=rfl;have HF:Hid (Below w.heap.size w (wr.setCells w.heap.size 0 (tal c s).toList)/\(wr.setCells w.heap.size 0 (tal c s).toList).rangeAt w.heap.size 0 (tal c s).toList):=(by refine ⟨hbl'.trans (setCells_below _ _ _ _ _ (Nat.le_refl _)),World.rangeAt_setCells_same wr w.heap.size 0 (tal c s).toList ?_⟩;exact hth);have hlv:(loadVar 196 ⟨w.heap.size,0,none⟩).run prog (wr.setCells w.heap.size 0 (tal c s).toList) = .ok (.agg (tal c s).toList.toArray) (wr.setCells w.heap.size 0 (tal c s).toList):=run_loadVar_mid _ _ _ 196 _ _ HF.out.2 underlying196 rfl (by kernel_rfl);rw[Array.toArray_toList] at hlv;have hi:(prog.info? 196).map (·.size)=some (tal c s).size:=(by kernel_rfl);have hi':(prog.info? 196).map (·.size)=some (tal c s).toList.length:=(by kernel_rfl);rw[<- hsz] at hth;clear hr0 hr1 hsz;generalize tal c s=A at *;go_wp2_with (first | (refine wpList_load_mid rfl 196 (.tmp 7) rfl (w.heap.size+1) 0 rfl A.toList _ hra underlying196 rfl hi' ?_) | (refine wpList_store_mid rfl 196 (.tmp 6) (.tmp 48) rfl w.heap.size 0 A rfl rfl hth hi h1 ?_));refine bodyPost_ret (v:=.agg A) ?_ rfl ⟨congrArg (fun a=>Ending.returned (.agg a)) HC.out,HF.out.1⟩;exact results_mid (P:=prog) (fn:=f99) (p:=6) (ty:=196) rfl _ _ w.heap.size A rfl hlv
  case pos=>
   have hI:((L+j:Nat):Int)<=e:=(by omega);obtain ⟨E,hE⟩:∃ E,E=L+j:=⟨_,rfl⟩;rw[<- hE] at hI ⊢;have HE:Hid (E=L+j):=hE;have hE9:E<=1000:=(by omega);have hj':j<e+1-L:=(by omega);clear hE hlt hj;have HR0:Hid (wr.rowIs w.heap.size 196 16 (fun _=>.int .i64 0)):=hr0;have HR1:Hid (wr.rowIs (w.heap.size+1) 196 16 (tv (fun p=>cnt g (p:Int) ep L j) (fun p=>sm g (p:Int) ep L j))):=hr1;have HBL:Hid (Below w.heap.size w wr):=hbl;have hd:=HD.out.below hbl;obtain ⟨mT,DT,t1,t2,t3⟩:=hd.trl g T hT;cases hS:sp g E with
   | none=>
    have hrun:(Instr.lookup 192 (.map (some T)) (.int .i64 (E:Int)) false).run prog wr = .ok (.map none) wr:=held_run t1 law3 underlying192 zero142 (key3 (by omega) (by omega)) (fun zd=>by rw[t3,hS]);have hrg:=run_range_nilMap (P:=prog) wr 235 3 2 underlying235;have hnx:=run_next_nilMap (P:=prog) wr 0 0 0 #[];have HSE:Hid (seenG g (ep E)=false):=(by show _ = _;rw[<- hd.tolde,hS];rfl);clear t1 t2 t3 hr0 hr1 hbl hd;go_wp2;go_loopw [9,10] (fun _ _ V=>V=wr.alloc (.mapIter none 0 #[] 0)) (fun _ _ _=>0)
    case atStart=>rfl
    case round=>
     subst hrel;go_wp2;refine ⟨⟨j+1,by omega,by rw[HE.out];congr 1,HR0.out.alloc _,(HR1.out.alloc _).congr (fun i _=>?_),HBL.out.alloc HBL.out.size _⟩,by simp[intOf];omega⟩
     have e1:∀ p:Int,seenAt g p (ep (L+j))=false:=fun p=>by
      cases h:seenAt g p (ep (L+j))
      ·rfl
      ·have:=seenAt_seen h;rw[<- HE.out,HSE.out] at this;cases this
     have e2:∀ p:Int,sumAt g p (ep (L+j))=0:=fun p=>sumAt_none (e1 p);unfold tv;simp only[cntS,smS,e1,e2];simp
   | some S=>
    have hrun:(Instr.lookup 192 (.map (some T)) (.int .i64 (E:Int)) false).run prog wr = .ok (.map (some S)) wr:=held_run t1 law3 underlying192 zero142 (key3 (by omega) (by omega)) (fun zd=>by rw[t3,hS]);obtain ⟨mS,DS,s1,s2,s3⟩:=hd.spl g E S hS;have HOK:Hid (∀ p:Int,seenAt g p (ep E)=true->0<=p/\p<=7):=fun p hp=>(by obtain ⟨x,h1,_,h3⟩:=seenAt_iff.1 hp;rw[<- h3];exact (okS_iff.1 (hd.ok E x h1)).1);have HSB:Hid (∀ p:Int,0<=sumAt g p (ep E)/\sumAt g p (ep E)<=1530000):=fun p=>(by have h1:=sumAt_bound g p (ep E) (fun x hx=>(okS_iff.1 (hd.ok E x hx)).2);have h2:=hd.len E;omega);have HSM:Hid (∀ p:Int,0<=sm g p ep L j/\sm g p ep L j<=1530000*(j:Int)):=fun p=>sm_bound g p ep L hd.len (fun e x hx=>(okS_iff.1 (hd.ok e x hx)).2) j;have HS3:Hid (∀ (p:Int) (zd:DataW Value),DS.atKey (.int .i64 p) zd=spot g (ep E) p zd):=s3;have HSC:Hid (S≠w.heap.size/\S≠w.heap.size+1):=(by have h1:=HD.out.lim S (HD.out.fs hS);exact ⟨by omega,by omega⟩);have hj8:j<=8:=(by have:=HL.out;unfold lo at this;omega);have hsz:w.heap.size+1<wr.heap.size:=hr1.lt;clear t1 t2 t3 hr0 hr1 hbl hd s3;obtain ⟨RB,hRB⟩:∃ RB,RB=wr.heap.size:=⟨_,rfl⟩;have hRBw:w.heap.size+1<RB:=(by omega);go_wp2_with (first | (at_range;refine wpList_range_own _ rfl _ 235 rfl 3 2 law3 underlying235 _ S mS DS rfl s1 ?_;intro w0 hrg0 hg0 hs0));go_frame;rw[<- hRB] at hrg0 hs0 ⊢;go_loopw [9,10] (fun _ _ V=>∃ left cn,V.ranges prog 3 (plainElem prog 2) S RB mS DS left cn/\V.rowIs w.heap.size 196 16 (fun _=>.int .i64 0)/\V.rowIs (w.heap.size+1) 196 16 (tv (fun p=>cnt g (p:Int) ep L j+if seenAt g (p:Int) (ep E)=true/\left (.int .i64 (p:Int))=false then 1 else 0) (fun p=>sm g (p:Int) ep L j+if seenAt g (p:Int) (ep E)=true/\left (.int .i64 (p:Int))=false then sumAt g (p:Int) (ep E) else 0))/\Below w.heap.size w V) (fun _ _ V=>V.rangeLeft S RB)
    case atStart=>
     refine ⟨_,_,hrg0,HR0.out.of_block (hg0.block _ (by omega) (by simp)),(HR1.out.of_block (hg0.block _ (by omega) (by simp))).congr (fun i _=>?_),HBL.out.trans ?_⟩
     ·have hh:∀ p:Nat,¬ (seenAt g (p:Int) (ep E)=true/\has DS (.int .i64 (p:Int))=false):=fun p h=>(by have h1:has DS (.int .i64 (p:Int))=true:=has_true_of_atKey (y:=.lit (.int .i64 (sumAt g (p:Int) (ep E)))) (fun z=>by rw[HS3.out];unfold spot;rw[if_pos h.1]);rw[h.2] at h1;cases h1);unfold tv;simp only[hh];simp
     ·exact ⟨hg0.os,hg0.tape,hg0.output,hg0.size,fun k hk=>hg0.block k (by omega) (by simp)⟩
    case round=>
     obtain ⟨left,cn,hrg,hr0,hr1,hbl⟩:=hrel;have HR0':Hid (wr.rowIs w.heap.size 196 16 (fun _=>.int .i64 0)):=hr0;have HBL':Hid (Below w.heap.size w wr):=hbl;clear hrg0 hg0 hs0 hrun s1 hRB HR0 HR1 HBL hbl hr0;go_wp2_with (first | (at_next;refine wpList_next_ranges_ii _ rfl _ rfl 3 2 .i64 .i64 law3 underlying3 underlying2 S RB mS _ _ _ rfl hrg ?_ ?_))
     ·intro hc0 hl0
      have HR1':Hid (wr.rowIs (w.heap.size+1) 196 16 (tv (fun p=>cnt g (p:Int) ep L (j+1)) (fun p=>sm g (p:Int) ep L (j+1)))):=by
       refine hr1.congr (fun i _=>?_);unfold tv;simp only[cntS,smS,<- HE.out,hl0,and_true]
       have hz:∀ p:Int,(if seenAt g p (ep E)=true then sumAt g p (ep E) else 0)=sumAt g p (ep E):=fun p=>by
        cases h:seenAt g p (ep E)
        ·rw[sumAt_none h];simp
        ·simp
       simp only[hz]
      clear hr1 hrg hc0 hl0;go_wp2;refine ⟨⟨j+1,by omega,by rw[HE.out];congr 1,HR0'.out,HR1'.out,HBL'.out⟩,by simp[intOf];omega⟩
     ·intro x c w1 cnt1 hwx hwc hlx hat hrg1 hlt hg1 hs1 hen
      have hsx:seenAt g x (ep E)=true/\c=sumAt g x (ep E):=by
       cases h:seenAt g x (ep E)
       ·have h1:=hat .nil;rw[HS3.out] at h1;unfold spot at h1;rw[h] at h1;simp at h1
       ·have h1:=hat .nil;rw[HS3.out] at h1;unfold spot at h1;rw[h] at h1;simp at h1;exact ⟨rfl,h1.symm⟩
      obtain ⟨hx0,hx7⟩:=HOK.out x hsx.1;obtain ⟨p,rfl⟩:∃ p:Nat,x=(p:Int):=⟨x.toNat,by omega⟩;have hp8:p<8:=(by omega);have HSX:Hid (seenAt g (p:Int) (ep E)=true/\c=sumAt g (p:Int) (ep E)):=hsx;have hc0 : 0<=c:=(by rw[hsx.2];exact (HSB.out _).1);have hc1:c<=1530000:=(by rw[hsx.2];exact (HSB.out _).2);have hr1':w1.rowIs (w.heap.size+1) 196 16 (tv (fun p=>cnt g (p:Int) ep L j+if seenAt g (p:Int) (ep E)=true/\left (.int .i64 (p:Int))=false then 1 else 0) (fun p=>sm g (p:Int) ep L j+if seenAt g (p:Int) (ep E)=true/\left (.int .i64 (p:Int))=false then sumAt g (p:Int) (ep E) else 0)):=hr1.of_block (hg1.block _ hr1.lt (fun e=>by simp at e;omega));have hnl:¬ (seenAt g (p:Int) (ep E)=true/\left (.int .i64 (p:Int))=false):=fun h=>(by rw[hlx] at h;cases h.2);obtain ⟨C,hC⟩:∃ C,C=w.heap.size+1:=⟨_,rfl⟩;have k0:=hr1'.cell (i:=p*2) (by omega);have k1:=hr1'.cell (i:=p*2+1) (by omega);rw[tv_even,if_neg hnl,Nat.add_zero] at k0;rw[tv_odd,if_neg hnl,Int.add_zero] at k1;have f0:=hr1'.frozen (p*2);have f1:=hr1'.frozen (p*2+1);obtain ⟨cc,hcc⟩:∃ cc,cc=cnt g (p:Int) ep L j:=⟨_,rfl⟩;obtain ⟨sc,hsc⟩:∃ sc,sc=sm g (p:Int) ep L j:=⟨_,rfl⟩;have hcc8:(cc:Int)<=8:=(by have:=cnt_le g (p:Int) ep L j;omega);have hsc0 : 0<=sc:=(by rw[hsc];exact (HSM.out _).1);have hsc1:sc<=12240000:=(by have:=(HSM.out (p:Int)).2;omega);rw[<- hcc] at k0;rw[<- hsc] at k1;have HCC:Hid (cc=cnt g (p:Int) ep L j/\sc=sm g (p:Int) ep L j):=⟨hcc,hsc⟩;have HRR:Hid (w1.rowIs (w.heap.size+1) 196 16 (tv (fun p=>cnt g (p:Int) ep L j+if seenAt g (p:Int) (ep E)=true/\left (.int .i64 (p:Int))=false then 1 else 0) (fun p=>sm g (p:Int) ep L j+if seenAt g (p:Int) (ep E)=true/\left (.int .i64 (p:Int))=false then sumAt g (p:Int) (ep E) else 0))):=hr1';have HG1:Hid (wr.grownBy w1 (some RB)):=hg1;have HRG:Hid (w1.ranges prog 3 (plainElem prog 2) S RB mS DS (fun z=>left z && !z.sameKey (.int .i64 (p:Int))) cnt1):=hrg1;have HNL:Hid (¬ (seenAt g (p:Int) (ep E)=true/\left (.int .i64 (p:Int))=false)):=hnl;have HLT:Hid (cnt1<cn):=hlt;have HRGO:Hid (wr.ranges prog 3 (plainElem prog 2) S RB mS DS left cn):=hrg;have hpI:(p:Int)<8:=(by omega);have HLX:Hid (left (.int .i64 (p:Int))=true):=hlx;clear hwx hwc hat hrg1 hlt hg1 hs1 hsx hr1 hr1' hnl hcc hsc hrg hlx hC;go_wp2;have hgs:w1.grownBy ((w1.setCell ⟨w.heap.size+1,p*2,none⟩ (.int .i64 ((cc:Int)+1))).setCell ⟨w.heap.size+1,p*2+1,none⟩ (.int .i64 (sc+c))) (some (w.heap.size+1)):=two_sets w1 _ _ _ _ _;have hrgN:=HRG.out.kept hgs (fun e=>HSC.out.2 (by simpa using e)) (fun e=>by simp at e;omega);refine ⟨⟨_,_,hrgN,(HR0'.out.of_block (HG1.out.block _ HR0'.out.lt (fun e=>by simp at e;omega))).of_block (hgs.block _ ?_ (fun e=>by simp at e)),(row_add (v:=sumAt g (p:Int) (ep E)) HRR.out ?_ ?_).congr (fun i _=>?_),(HBL'.out.trans (grown_below HG1.out (by omega) HBL'.out.size)).trans (grown_below hgs (by omega) (Nat.le_trans HBL'.out.size HG1.out.size))⟩,?_⟩
      ·have:=HR0'.out.lt;have:=HG1.out.size;omega
      ·show _=(((cnt g (p:Int) ep L j+if seenAt g (p:Int) (ep E)=true/\left (.int .i64 (p:Int))=false then 1 else 0:Nat)):Int)+1;rw[if_neg HNL.out,HCC.out.1];simp
      ·show _=(sm g (p:Int) ep L j+if seenAt g (p:Int) (ep E)=true/\left (.int .i64 (p:Int))=false then sumAt g (p:Int) (ep E) else 0) + _;rw[if_neg HNL.out,HCC.out.2,HSX.out.2];simp
      ·refine tv_congr (fun q=>?_) (fun q=>?_)
       ·by_cases hq:q=p
        ·subst hq;simp[HSX.out.1,HLX.out,Lit.sameKey]
        ·have hk:(Lit.int .i64 (q:Int)).sameKey (.int .i64 (p:Int))=false:=(by simp[Lit.sameKey];omega);simp only[if_neg hq,hk];simp
       ·by_cases hq:q=p
        ·subst hq;simp[HSX.out.1,HLX.out,Lit.sameKey]
        ·have hk:(Lit.int .i64 (q:Int)).sameKey (.int .i64 (p:Int))=false:=(by simp[Lit.sameKey];omega);simp only[if_neg hq,hk];simp
      ·rw[hrgN.left_eq,HRGO.out.left_eq];exact HLT.out
end
end TkA
namespace TkA
open Go.RowKit TkM TkW Go.Maps
def wv (n:Nat) (t:Bool) (e:Int) (v:Int):Int×Nat:=if 0<=e/\e<(n:Int) then (if t=true then (v,0) else (0,5)) else (0,1)
section
variable {w : World} {tb : Nat} {who : Nat → Nat × ByteArray × Nat} {W need n r : Nat} {ep : Nat → List Sg}
theorem where_out (g:ByteArray) (e:Int) (d:TrAt w tb who W need n r ep) (hn:n<=1000) (he:¬ (0<=e/\e<(n:Int))) :
  Calls prog 65 #[.pointer (some ⟨tb,0,none⟩),.string g,.int .i64 e] w fun x w'=>x = .returned (.tuple #[.int .i64 0,.iface 105 (.int .i64 1)])/\w'=w:=by
 obtain ⟨mb,m,D,tr,sp,d⟩:=d.out;have c2:=d.c2;have hnI:(n:Int)<=1000:=by omega
 have b1:btw e 0 ((n:Int)-1)=false:=by simp[btw];omega
 clear d he;go_enter func65,ntmps65;go_wp2_with fail;refine (between_is b1 _).mono ?_;rintro x w' ⟨rfl,rfl⟩;go_wp2;go_ret2;exact ⟨rfl,rfl⟩
theorem where_none (g:ByteArray) (e:Nat) (d:TrAt w tb who W need n r ep) (hn:n<=1000) (he:e<n) (hg:g.size<=100000) (ht:¬ ∃ e,seenG g (ep e)=true) :
  Calls prog 65 #[.pointer (some ⟨tb,0,none⟩),.string g,.int .i64 (e:Int)] w fun x w'=>x = .returned (.tuple #[.int .i64 0,.iface 105 (.int .i64 5)])/\w'=w:=by
 obtain ⟨mb,m,D,tr,sp,d⟩:=d.out;have c2:=d.c2;have c3:=d.c3;have hnI:(n:Int)<=1000:=by omega
 have b1:btw (e:Int) 0 ((n:Int)-1)=true:=by simp[btw];omega
 have hT:tr g=none:=by
  cases h:tr g with
  | none=>rfl
  | some b=>exact absurd ((d.told g).1 (by rw[h];rfl)) ht
 have hrun:(Instr.lookup 162 (.map (some mb)) (.string g) false).run prog w = .ok (.map none) w:=held_run d.own law9 underlying162 zero125 (key9 (g:=g) (by unfold maxLen;omega)) (fun zd=>by rw[d.key g,hT]);have q1:=eqn125;clear d he ht hT;go_enter func65,ntmps65;go_wp2_with fail;refine (between_is b1 _).mono ?_;rintro x w' ⟨rfl,rfl⟩;go_wp2;go_ret2;exact ⟨rfl,rfl⟩
theorem where_told (g:ByteArray) (e:Nat) (d:TrAt w tb who W need n r ep) (hW:W<=8) (hn:n<=1000) (he:e<n) (hg:g.size<=100000) (ht:∃ e,seenG g (ep e)=true) :
  Calls prog 65 #[.pointer (some ⟨tb,0,none⟩),.string g,.int .i64 (e:Int)] w fun x w'=>x = .returned (.tuple #[.int .i64 (whr g ep W need e),.nilIface])/\Below w.heap.size w w':=by
 have HD:Hid (TrAt w tb who W need n r ep):=d;obtain ⟨mb,m,D,tr,sp,d⟩:=d.out;have c2:=d.c2;have c3:=d.c3;have hnI:(n:Int)<=1000:=by omega
 have b1:btw (e:Int) 0 ((n:Int)-1)=true:=by simp[btw];omega
 obtain ⟨T,hT⟩:∃ T,tr g=some T:=Option.isSome_iff_exists.1 ((d.told g).2 ht);have hrun:(Instr.lookup 162 (.map (some mb)) (.string g) false).run prog w = .ok (.map (some T)) w:=held_run d.own law9 underlying162 zero125 (key9 (g:=g) (by unfold maxLen;omega)) (fun zd=>by rw[d.key g,hT]);have q1:=eql125 T;have HC:Hid (Calls prog 99 #[.pointer (some ⟨tb,0,none⟩),.map (some T),.int .i64 (e:Int)] w fun x w'=>x = .returned (.agg (tal (cW g ep W e) (sW g ep W e)))/\Below w.heap.size w w'):=count_any g e d hT hW (by omega);clear d he ht hT;unfold whr;generalize cW g ep W e=c at HC ⊢;generalize sW g ep W e=s at HC ⊢;go_enter func65,ntmps65;go_wp2_with fail;refine (between_is b1 _).mono ?_;rintro x w' ⟨rfl,rfl⟩;go_wp2_with fail;refine HC.out.mono ?_;rintro x w1 ⟨rfl,hb1⟩;have HB1:Hid (Below w'.heap.size w' w1):=hb1;clear hb1 hrun c2 c3 q1 HC;go_wp2_with fail;refine (best_any c s (HD.out.below HB1.out)).mono ?_;rintro x w2 ⟨rfl,hb2⟩;have HB2:Hid (Below w'.heap.size w' w2):=HB1.out.trans (hb2.mono HB1.out.size);clear hb2;go_wp2;go_ret2;exact ⟨rfl,HB2.out⟩
theorem where_any (g:ByteArray) (e:Int) {t:Bool} (d:TrAt w tb who W need n r ep) (hW:W<=8) (hn:n<=1000) (hg:g.size<=100000) (ht:t=true↔∃ e,seenG g (ep e)=true) :
  Calls prog 65 #[.pointer (some ⟨tb,0,none⟩),.string g,.int .i64 e] w fun x w'=>x = .returned (.tuple #[.int .i64 (wv n t e (whr g ep W need e.toNat)).1,errV (wv n t e (whr g ep W need e.toNat)).2])/\Below w.heap.size w w':=by
 unfold wv;by_cases he : 0<=e/\e<(n:Int)
 ·rw[if_pos he];obtain ⟨k,rfl⟩:∃ k:Nat,e=(k:Int):=⟨e.toNat,by omega⟩;rw[Int.toNat_natCast];cases t with
  | true=>exact where_told g k d hW hn (by omega) hg (ht.1 rfl)
  | false=>
   refine (where_none g k d hn (by omega) hg (fun h=>by have:=ht.2 h;cases this)).mono ?_;rintro x w' ⟨rfl,rfl⟩;exact ⟨rfl,Below.refl _ _⟩
 ·rw[if_neg he];refine (where_out g e d hn he).mono ?_;rintro x w' ⟨rfl,rfl⟩;exact ⟨rfl,Below.refl _ _⟩
def isA (n:Nat) (t:Bool) (p e v:Int):Bool:=decide ((wv n t e v).2=0)&&decide (0<=p)&&decide ((wv n t e v).1=p)
theorem isAt_any (g:ByteArray) (p e:Int) {t:Bool} (d:TrAt w tb who W need n r ep) (hW:W<=8) (hn:n<=1000) (hg:g.size<=100000) (ht:t=true↔∃ e,seenG g (ep e)=true) :
  Calls prog 140 #[.pointer (some ⟨tb,0,none⟩),.string g,.int .i64 p,.int .i64 e] w fun x w'=>x = .returned (.bool (isA n t p e (whr g ep W need e.toNat)))/\Below w.heap.size w w':=by
 have HC:Hid (Calls prog 65 #[.pointer (some ⟨tb,0,none⟩),.string g,.int .i64 e] w fun x w'=>x = .returned (.tuple #[.int .i64 (wv n t e (whr g ep W need e.toNat)).1,errV (wv n t e (whr g ep W need e.toNat)).2])/\Below w.heap.size w w'):=where_any g e d hW hn hg ht;clear d ht;unfold isA;generalize wv n t e (whr g ep W need e.toNat)=a at *;obtain ⟨q,k⟩:=a;simp only at *;by_cases hk:k=0
 ·subst hk;rw[show errV 0 = .nilIface from rfl] at HC;by_cases hp : 0<=p
  ·have hp':decide (0<=p)=true:=(by simpa using hp);have he:decide (q=p)=(q == p):=(by rw[Bool.eq_iff_iff];simp);rw[hp',he];simp only[decide_true,Bool.true_and];clear hp' he;go_enter func140,ntmps140;go_wp2_with fail;refine HC.out.mono ?_;rintro x w1 ⟨rfl,hb1⟩;have HB1:Hid (Below w.heap.size w w1):=hb1;clear hb1;go_wp2;go_ret;exact ⟨rfl,HB1.out⟩
  ·have hp':decide (0<=p)=false:=(by simpa using hp);rw[hp'];simp only[Bool.and_false,Bool.false_and];clear hp;go_enter func140,ntmps140;go_wp2_with fail;refine HC.out.mono ?_;rintro x w1 ⟨rfl,hb1⟩;have HB1:Hid (Below w.heap.size w w1):=hb1;clear hb1;go_wp2;go_ret;exact ⟨rfl,HB1.out⟩
 ·rw[errV_pos hk] at HC;have hk':decide (k=0)=false:=by simpa using hk
  rw[hk'];simp only[Bool.false_and];clear hk';go_enter func140,ntmps140;go_wp2_with fail;refine HC.out.mono ?_;rintro x w1 ⟨rfl,hb1⟩;have HB1:Hid (Below w.heap.size w w1):=hb1;clear hb1;go_wp2;go_ret;exact ⟨rfl,HB1.out⟩
def comesB (n:Nat) (t:Bool) (p e:Int) (f:Int->Int):Bool:=isA n t p e (f e) && !isA n t p (e-1) (f (e-1))
theorem comes_any (g:ByteArray) (p e:Int) {t:Bool} (d:TrAt w tb who W need n r ep) (hW:W<=8) (hn:n<=1000) (hg:g.size<=100000) (ht:t=true↔∃ e,seenG g (ep e)=true) (he0 : -1000<=e) (he1:e<=1000) :
  Calls prog 115 #[.pointer (some ⟨tb,0,none⟩),.string g,.int .i64 p,.int .i64 e] w fun x w'=>x = .returned (.bool (comesB n t p e (fun e=>whr g ep W need e.toNat)))/\Below w.heap.size w w':=by
 have HC:Hid (Calls prog 140 #[.pointer (some ⟨tb,0,none⟩),.string g,.int .i64 p,.int .i64 e] w fun x w'=>x = .returned (.bool (isA n t p e (whr g ep W need e.toNat)))/\Below w.heap.size w w'):=isAt_any g p e d hW hn hg ht;have HC2:Hid (∀ V:World,Below w.heap.size w V->Calls prog 140 #[.pointer (some ⟨tb,0,none⟩),.string g,.int .i64 p,.int .i64 (e-1)] V fun x w'=>x = .returned (.bool (isA n t p (e-1) (whr g ep W need (e-1).toNat)))/\Below V.heap.size V w'):=fun V hb=>isAt_any g p (e-1) (d.below hb) hW hn hg ht;clear d ht;unfold comesB;generalize isA n t p e (whr g ep W need e.toNat)=a at *;generalize isA n t p (e-1) (whr g ep W need (e-1).toNat)=b at *;cases a with
 | false=>
  simp only[Bool.false_and];go_enter func115,ntmps115;go_wp2_with fail;refine HC.out.mono ?_;rintro x w1 ⟨rfl,hb1⟩;have HB1:Hid (Below w.heap.size w w1):=hb1;clear hb1;go_wp2;go_ret;exact ⟨rfl,HB1.out⟩
 | true=>
  simp only[Bool.true_and];go_enter func115,ntmps115;go_wp2_with fail;refine HC.out.mono ?_;rintro x w1 ⟨rfl,hb1⟩;have HB1:Hid (Below w.heap.size w w1):=hb1;clear hb1;go_wp2_with fail;refine (HC2.out _ HB1.out).mono ?_;rintro x w2 ⟨rfl,hb2⟩;have HB2:Hid (Below w.heap.size w w2):=HB1.out.trans (hb2.mono HB1.out.size);clear hb2;go_wp2;go_ret;exact ⟨rfl,HB2.out⟩
end
end TkA
namespace TkA
open Go.RowKit TkM TkW Go.Maps
def epc (ep:Nat->List Sg) (n:Nat) (l:List Sg) (e:Nat):List Sg:=if e=n then l else ep e
theorem epc_step {ep:Nat->List Sg} {n:Nat} {l:List Sg} {k:Nat} {x:Sg} (hx:l[k]?=some x):ep1 (epc ep n (l.take k)) n x=epc ep n (l.take (k+1)):=by
 funext e;unfold ep1 epc;by_cases h:e=n
 ·rw[if_pos h,if_pos h,if_pos rfl,List.take_add_one,hx];rfl
 ·rw[if_neg h,if_neg h,if_neg h]
theorem epc_nil {ep:Nat->List Sg} {n:Nat} (h:ep n = []) (l:List Sg):epc ep n (l.take 0)=ep:=by
 funext e;unfold epc;by_cases he:e=n
 ·rw[if_pos he,he,h];rfl
 ·rw[if_neg he]
section
variable {w : World} {tb : Nat} {who : Nat → Nat × ByteArray × Nat} {W need n r : Nat} {ep : Nat → List Sg}
theorem tell_ok0 (l:List Sg) (p:Option Addr) (cap:Nat) (d:TrAt w tb who W need n r ep) (hl:l.length<=6000) (hs:SgsOn w p l) (hap:l≠[]->∀ b o,p=some ⟨b,o,none⟩->¬ of who b) (hok:∀ x,x ∈ l->okS x=true) (hg:∀ x,x ∈ l->x.g.size<=100000) (hn:n<=1000) (hr:r<=90000) (he:ep n = []) :
  Calls prog 76 #[.pointer (some ⟨tb,0,none⟩),.slice p l.length cap] w fun e w'=>e = .returned .nilIface/\∃ who',TrAt w' tb who' W need (n+1) (r+l.length) (epc ep n l)/\Kp (of who) w w'/\∀ b,of who' b->of who b\/w.heap.size<=b:=by
 obtain ⟨N,hN⟩:∃ N,N=l.length:=⟨_,rfl⟩;have HN:Hid (N=l.length):=hN;rw[<- hN] at hl ⊢;have HD:Hid (TrAt w tb who W need n r ep):=d;have HS:Hid (SgsOn w p l):=hs;have HAP:Hid (l≠[]->∀ b o,p=some ⟨b,o,none⟩->¬ of who b):=hap;have HOK:Hid (∀ x,x ∈ l->okS x=true):=hok;have HG:Hid (∀ x,x ∈ l->x.g.size<=100000):=hg;have HE:Hid (ep n = []):=he;have hNI:(N:Int)<=6000:=by omega
 clear hN d hs hap hok hg he;go_enter func76,ntmps76;go_wp2;go_loopw [6,11] (fun _ i V=>∃ k:Nat,k<=N/\i = .int .i64 (k:Int)/\Below w.heap.size w V) (fun _ i _=>N-(intOf i).toNat)
 case atStart=>exact ⟨0,Nat.zero_le _,rfl,Below.refl _ _⟩
 case round=>
  obtain ⟨k,hk,rfl,hbl⟩:=hrel;by_cases hlt:k<N
  case pos=>
   have hkI:(k:Int)<N:=(by omega);have hk':k<l.length:=(by rw[<- HN.out];exact hlt);have hne:l≠[]:=(by intro e;rw[e] at hk';simp at hk');obtain ⟨b,o,rfl,hb,hc⟩:=HS.out.at_ hne;have hx:=HOK.out _ (List.getElem_mem hk');obtain ⟨a0,a1,a2,a3⟩:=(hc k _ (List.getElem?_eq_getElem hk')).keep (hbl.block b hb);generalize l[k]=x at *;obtain ⟨xp,xs,xt,xg⟩:=x;simp only at a0 a1 a2 a3 hx;obtain ⟨⟨h0,h1⟩,h2,h3⟩:=okS_iff.1 hx;simp only at h0 h1 h2 h3;have b1:btw xp 0 7=true:=(by simp[btw];omega);have b2:btw xs 0 255=true:=(by simp[btw];omega);have HB:Hid (Below w.heap.size w wr):=hbl;clear hc hbl hx h0 h1 h2 h3;go_wp2_with fail;refine (between_is b1 _).mono ?_;rintro e w' ⟨rfl,rfl⟩;go_wp2_with fail;refine (between_is b2 _).mono ?_;rintro e w' ⟨rfl,rfl⟩;go_wp2;go_roundw
   case rel=>exact ⟨k+1,by omega,by go_num,HB.out.alloc HB.out.size _⟩
   case measure=>simp[intOf];omega
  case neg=>
   have hkk:k=N:=(by omega);subst hkk;have HB:Hid (Below w.heap.size w wr):=hbl;have hI:¬ (k:Int)<k:=(by omega);clear hbl hlt;obtain ⟨V1,hV1⟩:∃ V1,V1=wr:=⟨_,rfl⟩;rw[<- hV1] at HB ⊢;clear hV1;go_wp2;clear hI;go_loopw [8,29] (fun _ i V=>∃ (j:Nat) (who':Nat->Nat×ByteArray×Nat),j<=k/\i = .int .i64 (j:Int)/\TrAt V tb who' W need n (r+j) (epc ep n (l.take j))/\Kp (of who) w V/\∀ b,of who' b->of who b\/w.heap.size<=b) (fun _ i _=>k-(intOf i).toNat)
   case atStart=>exact ⟨0,who,Nat.zero_le _,rfl,by rw[epc_nil HE.out];exact HD.out.below HB.out,below_kp HB.out _,fun b h=>Or.inl h⟩
   case round=>
    obtain ⟨j,who',hj,rfl,hd,hkp,hsub⟩:=hrel;by_cases hlt:j<k
    case pos=>
     have hjI:(j:Int)<k:=(by omega);have hj':j<l.length:=(by rw[<- HN.out];exact hlt);have hne:l≠[]:=(by intro e;rw[e] at hj';simp at hj');obtain ⟨b,o,rfl,hb,hc⟩:=HS.out.at_ hne;have hx:=HOK.out _ (List.getElem_mem hj');have hg:=HG.out _ (List.getElem_mem hj');have hst:=epc_step (ep:=ep) (n:=n) (List.getElem?_eq_getElem hj');obtain ⟨a0,a1,a2,a3⟩:=(hc j _ (List.getElem?_eq_getElem hj')).keep (hkp.block b hb (HAP.out hne b o rfl));generalize l[j]=x at *;obtain ⟨xp,xs,xt,xg⟩:=x;simp only at a0 a1 a2 a3;have hlen:(epc ep n (l.take j) n).length<6000:=by unfold epc;rw[if_pos rfl,List.length_take];omega
     have HK:Hid (∀ o,Calls prog 108 #[.pointer (some ⟨tb,0,none⟩),.agg #[.int .i64 xp,.int .i64 xs,.int .i64 xt,.string xg]] (wr.alloc o) fun e w'=>e = .returned (.tuple #[])/\∃ who2,TrAt w' tb who2 W need n (r+(j+1)) (epc ep n (l.take (j+1)))/\Kp (of who) w w'/\∀ b,of who2 b->of who b\/w.heap.size<=b):=by
      intro ob;have hb1:Below wr.heap.size wr (wr.alloc ob):=(Below.refl _ wr).alloc (Nat.le_refl _) ob;refine (keep_any ⟨xp,xs,xt,xg⟩ (hd.below hb1) hx hg (by omega) (by omega) hlen).mono ?_;rintro e w' ⟨rfl,who2,h1,h2,h3⟩;rw[hst] at h1;have hz:=hkp.size;refine ⟨rfl,who2,h1,(hkp.trans (below_kp hb1 _)).then h2 (fun i hi h=>(hsub i h).resolve_right (by omega)),fun b hb=>?_⟩;rcases h3 b hb with h | h
      ·exact hsub b h
      ·right;have:=hb1.size;omega
     clear hc hd hkp hsub hx hst hlen;go_wp2_with fail;refine (HK.out _).mono ?_;rintro e w2 ⟨rfl,hex⟩;have HX:Hid (∃ who2,TrAt w2 tb who2 W need n (r+(j+1)) (epc ep n (l.take (j+1)))/\Kp (of who) w w2/\∀ b,of who2 b->of who b\/w.heap.size<=b):=hex;clear hex;go_wp2;go_roundw
     case rel=>obtain ⟨who2,h1,h2,h3⟩:=HX.out;exact ⟨j+1,who2,by omega,by go_num,h1,h2,h3⟩
     case measure=>simp[intOf];omega
    case neg=>have hjj:j=k:=(by omega);subst hjj;have hI:¬ (j:Int)<j:=(by omega);obtain ⟨mb,m,D,tr,sp,d⟩:=hd.out;have c2:=d.c2;have f2:=d.fz 2;have htk:l.take j=l:=(by rw[HN.out];exact List.take_length);rw[htk] at d;have HF:Hid (∃ who',TrAt (wr.setCell ⟨tb,2,none⟩ (.int .i64 ((n:Int)+1))) tb who' W need (n+1) (r+j) (epc ep n l)/\Kp (of who) w (wr.setCell ⟨tb,2,none⟩ (.int .i64 ((n:Int)+1)))/\∀ b,of who' b->of who b\/w.heap.size<=b):=(by refine ⟨who',⟨mb,m,D,tr,sp,d.next (by simp)⟩,hkp.trans (set_kp _ _ _ ?_),hsub⟩;exact (hsub tb d.ft).resolve_right (by have:=HD.out.lt;omega));have hnI:(n:Int)<=1000:=(by omega);clear d hd hkp hsub hlt htk;go_wp2;go_ret;exact ⟨rfl,HF.out⟩
end
end TkA
end Go.Proofs.YtmolafjalaeoaaaGreatDoor
