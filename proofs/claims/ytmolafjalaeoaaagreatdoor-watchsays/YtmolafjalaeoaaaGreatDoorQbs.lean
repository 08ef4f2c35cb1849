/-
  WeB
-/
import Derived.Test.YtmolafjalaeoaaaGreatDoorQbr
set_option maxRecDepth 100000
set_option maxHeartbeats 8000000
namespace Go.Proofs.YtmolafjalaeoaaaGreatDoor
open Go.Proofs.Tryz
namespace WeA
open Go.RowKit TkW WaM WaW WeW Go.Maps
open Tk0
open TkM (Sg epOf)
open TkA (RfAt sbeq_true sbeq_false)
open RuM (Rl)
structure AD (V V':World) (bx:Nat) (o:Obj) (rb:Nat) (ow:Nat->Nat) (c:Cf) (rs:List Rl) (s:St) (k q:Nat) (L:List ByteArray) (all':List Sg):Prop where
 out:∃ p ow',Da V' rb ow' c rs { s with all:=all' } k q L p/\Wp V V' ow ow'
 box:V'.heap[bx]?=some o
section
variable {w w' w0 : World} {rb : Nat} {ow : Nat → Nat} {c : Cf} {rs : List Rl} {s s' : St} {k q : Nat} {L : List ByteArray} {p : Dp}
theorem Da.learnt {U V:World} {g cap:Nat} {t:ByteArray} (h:Da w rb ow c rs s k q L p) (hU:Below w.heap.size w U) (ho:V.ownsRow 0 9 1 (.slice (some ⟨g,0,none⟩) (L.length+1) cap) (L.length+1) (L.map Value.string ++ [.string t])) (hV:U.grownBy V p.kv.ownBlock) (hat:p.kv.ownBlock=some g\/g=U.heap.size) (hR:V.heap[rb]?=some (.cells (dcs c s p) 67)) (hL:kn s.all=L ++ [t]) :
  DTo w (V.setCell ⟨rb,40,none⟩ (.slice (some ⟨g,0,none⟩) (L.length+1) cap)) rb ow c rs s k q:=by
 have hs1:=hU.size;have hs2:=hV.size;have hsz:(V.setCell ⟨rb,40,none⟩ (.slice (some ⟨g,0,none⟩) (L.length+1) cap)).heap.size=V.heap.size:=by simp[World.setCell]
 have hg:g<V.heap.size:=own_lt ho rfl;have hrb:=h.lt
 have hgr:g≠rb:=by
  rcases hat with hat | hat
  ·intro e;have:=h.okn g hat;rw[e,h.ob] at this;omega
  ·omega
 have hmv:∀ b n,ow b=n->n≠0->n≠1->n≠4->(V.setCell ⟨rb,40,none⟩ (.slice (some ⟨g,0,none⟩) (L.length+1) cap)).heap[b]?=w.heap[b]?:=fun b n hb h0 h1 h4=>by
  have hlt:=h.lim b (by rw[hb];exact h0);have hbr:b≠rb:=fun e=>by rw[e,h.ob] at hb;exact h1 hb.symm
  have e2:V.heap[b]?=U.heap[b]?:=hV.block b (by omega) (fun e=>h4 (hb.symm.trans (h.okn b e.symm)));rw[Below.heap_setCell _ _ _ _ hbr,e2];exact hU.block b hlt
 have hold:∀ b n,ow b=n->n≠0->WaB.own3 ow w V 4 b=n:=fun b n hb h0=>by rw[WaB.own3_old (h.lim b (by rw[hb];exact h0))];exact hb
 refine ⟨WaB.own3 ow w V 4,⟨{ p with kv:=.slice (some ⟨g,0,none⟩) (L.length+1) cap },?_,hold _ _ h.ob (by decide),fun b hb=>by rw[hsz];exact WaB.own3_lim h.lim (by omega) hb,?_,?_,?_,?_,?_,?_,?_⟩,?_⟩
 ·rw[EqA.cells_set hR,dcs_set (dcv_kv c s p _)]
 ·exact own_keep h.rul (fun b hb=>hmv b 2 (h.orl b hb) (by decide) (by decide) (by decide))
 ·exact fun b hb=>hold b 2 (h.orl b hb) (by decide)
 ·exact own_keep h.dsk (fun b hb=>hmv b 3 (h.odk b hb) (by decide) (by decide) (by decide))
 ·exact fun b hb=>hold b 3 (h.odk b hb) (by decide)
 ·rw[hL,List.length_append,List.map_append]
  exact own_keep ho (fun b hb=>by
   simp[Value.ownBlock] at hb;subst hb;exact Below.heap_setCell _ _ _ _ hgr)
 ·intro b hb;simp[Value.ownBlock] at hb;subst hb;rcases hat with hat | hat
  ·exact hold _ 4 (h.okn _ hat) (by decide)
  ·unfold WaB.own3;rw[if_pos ⟨by omega,hg⟩]
 ·obtain ⟨F,h1,h2⟩:=h.trk;exact ⟨F,h1.move (by omega) (fun b _ hF=>hmv b 5 (h2 b hF) (by decide) (by decide) (by decide)),fun b hF=>hold b 5 (h2 b hF) (by decide)⟩
 ·refine ⟨((below_kp hU _).trans (grown_kp hV (fun b hb=>?_))).trans (set_kp _ _ _ ?_),fun b hb=>WaB.own3_new hb⟩
  ·show ow b≠0;rw[h.okn b hb];decide
  ·show ow rb≠0;rw[h.ob];decide
theorem rread_any (x:FrmM.Rd) (r:Nat) (h:DaK w rb ow c rs s k q) (hf:Sf c s) (hk:k=s.cl c) (hr:r<4) (ha : 0<=x.a/\x.a<=3) (hs : 0<=x.s/\x.s<=255) (hg : 0<=x.g/\x.g<=255) (ht:x.t.size=8) (hu:s.sum+1<=6000) :
  Calls prog 48 #[.pointer (some ⟨rb,0,none⟩),.int .i64 (r:Int),.agg #[.int .i64 x.a,.int .i64 x.s,.int .i64 x.g,.string x.t]] w fun e w'=>e = .returned (.tuple #[])/\DTo w w' rb ow c rs (s.read c r x) k q:=by
 obtain ⟨xa,xs,xg,xt⟩:=x;simp only at ha hs hg ht ⊢;obtain ⟨a,rfl⟩:∃ a:Nat,xa=(a:Int):=⟨xa.toNat,by omega⟩;have ha4:a<4:=by omega
 have hrI:(r:Int)<4:=by omega
 have haI:(a:Int)<4:=by omega
 obtain ⟨pl,hpl⟩:∃ pl,pl=c.pl r a:=⟨_,rfl⟩;have hpb : -1<=pl/\pl<=7:=by rw[hpl];exact hf.cok.pl r a hr ha4
 have hnow:=hf.tim;have hcnt:s.cnt+1<=6000:=by have:=hu;unfold St.sum at this;omega
 have HF:Hid (Sf c s):=hf;have HH:Hid (DaK w rb ow c rs s k q):=h;obtain ⟨X,hX⟩:∃ X,X=w.alloc (.cells #[.int .i64 (a:Int),.int .i64 xs,.int .i64 xg,.string xt] 90):=⟨_,rfl⟩;have hbX:Below w.heap.size w X:=by rw[hX];exact (Below.refl _ _).alloc (Nat.le_refl _) _
 have HBX:Hid (Below w.heap.size w X):=hbX;have hXs:X.heap.size=w.heap.size+1:=by rw[hX];simp
 have hbx:X.heap[w.heap.size]?=some (.cells #[.int .i64 (a:Int),.int .i64 xs,.int .i64 xg,.string xt] 90):=by rw[hX];exact Go.heap_alloc_new w _
 have HBOX:Hid (∀ V,Below X.heap.size X V->V.heap[w.heap.size]?=some (.cells #[.int .i64 (a:Int),.int .i64 xs,.int .i64 xg,.string xt] 90)):=fun V hV=>by rw[hV.block w.heap.size (by omega)];exact hbx
 have hD:=h.below hbX;obtain ⟨p,hD⟩:=hD.out;have HD:Hid (Da X rb ow c rs s k q (kn s.all) p):=hD;obtain ⟨kq,kcap,hkv,hkc⟩:=WbA.strs_form hD.knw;obtain ⟨N,hN⟩:∃ N,N=(kn s.all).length:=⟨_,rfl⟩;have HN:Hid (N=(kn s.all).length):=hN;have hN12:N<=12:=by rw[hN];exact hf.few
 obtain ⟨K,hKK⟩:∃ K,K=kn s.all:=⟨_,rfl⟩;have HKK:Hid (K=kn s.all):=hKK;rw[<- hN] at hkv;rw[<- hKK] at hkc;have HNK:Hid (N=K.length):=by show _ = _;rw[hN,hKK]
 have HKC:Hid (∀ j y,K[j]?=some y->∃ g,kq=some ⟨g,0,none⟩/\X.cell? ⟨g,j,none⟩=some (.string y)):=hkc;have hrbX:rb<X.heap.size:=hD.lt;have d40:X.cell? ⟨rb,40,none⟩=some (.slice kq N kcap):=by rw[hD.cell (by omega)];show some p.kv = _;rw[hkv]
 have dpl:X.cell? ⟨rb,6+r*4+a,none⟩=some (.int .i64 pl):=by rw[hD.cell (by omega),dcv_pl c s p hr ha4,hpl]
 have HDC:Hid (∀ V,Below X.heap.size X V->V.cell? ⟨rb,40,none⟩=some (.slice kq N kcap)/\V.cell? ⟨rb,6+r*4+a,none⟩=some (.int .i64 pl)/\V.cell? ⟨w.heap.size,0,none⟩=some (.int .i64 (a:Int))/\V.cell? ⟨w.heap.size,3,none⟩=some (.string xt)):=fun V hV=>⟨by rw[hV.cell hrbX];exact d40,by rw[hV.cell hrbX];exact dpl,by simp[World.cell?,HBOX.out V hV],by simp[World.cell?,HBOX.out V hV]⟩;have HPL:Hid (pl=c.pl r a):=hpl;have HKd:Hid (∀ V:World,Calls prog 87 #[.string xt] V fun e w'=>e = .returned (.int .i64 (InA.knd xt:Int))/\Below V.heap.size V w'):=fun V=>InA.kind_any xt V (by omega);have HKEQ:Hid (k=s.cl c):=hk;clear h hf hD hkv hkc hN hKK d40 dpl hbX hbx hpl hu hk;go_enter func48,ntmps48;go_wp2;rw[<- hX];clear hX;go_loopw [6,7] (fun kv i V=>∃ (j dq:Nat) (kb:Bool),j<=N/\i = .int .i64 (j:Int)/\kv = .bool kb/\(kb=hasT (K.take j) xt)/\V=X.drewN dq) (fun _ i _=>N-(intOf i).toNat)
 case atStart=>exact ⟨0,0,false,Nat.zero_le _,rfl,rfl,rfl,rfl⟩
 case round=>
  obtain ⟨j,dq,kb,hj,rfl,rfl,hkb,rfl⟩:=hrel;have HKB:Hid (kb=hasT (K.take j) xt):=hkb;clear hkb;obtain ⟨e40,epl,eb0,eb3⟩:=HDC.out X (Below.refl _ X);by_cases hlt:j<N
  case neg=>
   have hII:¬ (j:Int)<N:=(by omega);have hKT:kb=hasT K xt:=(by have h1:=HKB.out;rw[List.take_of_length_le (by rw[<- HNK.out];omega)] at h1;exact h1);have HKT:Hid (kb=hasT (kn s.all) xt):=(by show _ = _;rw[hKT,HKK.out]);clear hKT HKB;go_wp2;go_quiet (fail);go_wp2_with fail;refine (HKd.out _).mono ?_;rintro e V1 ⟨rfl,hb1⟩;have HB1:Hid (Below X.heap.size X V1):=⟨hb1.os,hb1.tape,hb1.output,hb1.size,hb1.block⟩;have HBW:Hid (Below w.heap.size w V1):=HBX.out.trans (HB1.out.mono HBX.out.size);have HD1:Hid (Da V1 rb ow c rs s k q (kn s.all) p):=HD.out.below HB1.out;clear hb1 e40 epl eb0 eb3;obtain ⟨e40,epl,eb0,eb3⟩:=HDC.out V1 HB1.out;obtain ⟨kd,hkd⟩:∃ kd,kd=InA.knd xt:=⟨_,rfl⟩;have HKD:Hid (kd=InA.knd xt):=hkd;rw[<- hkd];clear hkd;by_cases hk0:kd=0
   case pos=>have hz:((kd:Int) == 0)=true:=(by rw[hk0];rfl);have HRD:Hid (s.read c r ⟨(a:Int),xs,xg,xt⟩ = { s with bad:=s.bad+1 }):=(by show _ = _;unfold St.read;rw[if_pos (by rw[<- HKD.out];exact hk0)]);have c42:V1.cell? ⟨rb,42,none⟩=some (.int .i64 (s.bad:Int)):=HD1.out.cell (by omega);have f42:=HD1.out.fz 42;have hbd:s.bad<=6000:=(by unfold St.cnt at hcnt;omega);have HFI:Hid (DTo w (V1.setCell ⟨rb,42,none⟩ (.int .i64 ((s.bad:Int)+1))) rb ow c rs (s.read c r ⟨(a:Int),xs,xg,xt⟩) k q):=(by rw[HRD.out];exact DTo.from_below HBW.out (DTo.count ⟨p,HD1.out⟩ (fun p j hj=>dcv_bad c s p (s.bad+1) j hj) rfl));clear hk0;go_wp2;go_end0;exact ⟨rfl,HFI.out⟩
   case neg=>
   have hz:((kd:Int) == 0)=false:=(by rw[beq_eq_false_iff_ne];omega);have HKN:Hid (¬ InA.knd xt=0):=(by rw[<- HKD.out];exact hk0);by_cases hp1:pl = -1
   case pos=>have hz2:pl<0:=(by omega);have HRD:Hid (s.read c r ⟨(a:Int),xs,xg,xt⟩ = { s with nowh:=s.nowh+1 }):=(by show _ = _;unfold St.read;rw[if_neg HKN.out,if_pos (by simp only[Int.toNat_natCast];rw[<- HPL.out];exact hp1)]);have c43:V1.cell? ⟨rb,43,none⟩=some (.int .i64 (s.nowh:Int)):=HD1.out.cell (by omega);have f43:=HD1.out.fz 43;have hbd:s.nowh<=6000:=(by unfold St.cnt at hcnt;omega);have HFI:Hid (DTo w (V1.setCell ⟨rb,43,none⟩ (.int .i64 ((s.nowh:Int)+1))) rb ow c rs (s.read c r ⟨(a:Int),xs,xg,xt⟩) k q):=(by rw[HRD.out];exact DTo.from_below HBW.out (DTo.count ⟨p,HD1.out⟩ (fun p j hj=>dcv_nowh c s p (s.nowh+1) j hj) rfl));clear hk0 hp1;go_wp2;go_end0;exact ⟨rfl,HFI.out⟩
   case neg=>
   have hz2:¬ pl<0:=(by omega);have HP1:Hid (¬ c.pl r a = -1):=(by rw[<- HPL.out];exact hp1);by_cases hfull:kb=false/\N=12
   case pos=>obtain ⟨rfl,hN2⟩:=hfull;have hz3:((N:Int) == 12)=true:=(by rw[hN2];rfl);have HRD:Hid (s.read c r ⟨(a:Int),xs,xg,xt⟩ = { s with full:=s.full+1 }):=(by show _ = _;unfold St.read;rw[if_neg HKN.out,if_neg (by simp only[Int.toNat_natCast];exact HP1.out),if_pos ⟨HKT.out.symm,by rw[<- HN.out];omega⟩]);have c45:V1.cell? ⟨rb,45,none⟩=some (.int .i64 (s.full:Int)):=HD1.out.cell (by omega);have f45:=HD1.out.fz 45;have hbd:s.full<=6000:=(by unfold St.cnt at hcnt;omega);have HFI:Hid (DTo w (V1.setCell ⟨rb,45,none⟩ (.int .i64 ((s.full:Int)+1))) rb ow c rs (s.read c r ⟨(a:Int),xs,xg,xt⟩) k q):=(by rw[HRD.out];exact DTo.from_below HBW.out (DTo.count ⟨p,HD1.out⟩ (fun p j hj=>dcv_full c s p (s.full+1) j hj) rfl));clear hk0 hp1 hN2;go_wp2;go_end0;exact ⟨rfl,HFI.out⟩
   case neg=>
   have HNF:Hid (¬ (hasT (kn s.all) xt=false/\12<=(kn s.all).length)):=fun h=>hfull ⟨by rw[HKT.out];exact h.1,by have:=h.2;rw[<- HN.out] at this;omega⟩;have hz3:kb=false->((N:Int) == 12)=false:=fun h=>(by rw[beq_eq_false_iff_ne];intro e;exact hfull ⟨h,by omega⟩);have c37:V1.cell? ⟨rb,37,none⟩=some (.int .i64 (s.now:Int)):=HD1.out.cell (by omega);have hwr:IntKind.i64.wrap ((s.now:Int)-xg)=(s.now:Int)-xg:=(by simp[IntKind.wrap,IntKind.bits,IntKind.signed];omega);obtain ⟨y,hy⟩:∃ y:Sg,y=⟨pl,xs,(s.now:Int)-xg,xt⟩:=⟨_,rfl⟩;have HY:Hid (sight c r s ⟨(a:Int),xs,xg,xt⟩=y):=(by show _ = _;rw[hy];unfold sight;simp only[Int.toNat_natCast];rw[<- HPL.out]);obtain ⟨fA,hfA⟩:∃ fA,fA=EpM.addF c.len c.late s.now y:=⟨_,rfl⟩;have HBV:Hid (∀ V,V.heap=V1.heap->V.os=V1.os->V.tape=V1.tape->V.output=V1.output->Below V1.heap.size V1 V):=fun V h1 h2 h3 h4=>⟨h2,h3,h4,by rw[h1];exact Nat.le_refl _,fun b _=>by rw[h1]⟩
   have HADD:Hid (∀ dd,Calls prog 88 #[.pointer (some ⟨rb,35,none⟩),.agg #[.int .i64 pl,.int .i64 xs,.int .i64 ((s.now:Int)-xg),.string xt]] (V1.drewN dd) fun e w'=>e = .returned (.int .i64 (fA:Int))/\AD (V1.drewN dd) w' w.heap.size (.cells #[.int .i64 (a:Int),.int .i64 xs,.int .i64 xg,.string xt] 90) rb ow c rs s k q (kn s.all) (if fA=0 then s.all ++ [y] else s.all)):=fun dd=>by
    have hbd:Below V1.heap.size V1 (V1.drewN dd):=below_drewN (Below.refl _ V1) dd;have Dd:Da (V1.drewN dd) rb ow c rs s k q (kn s.all) p:=HD1.out.below hbd;have hrbw:rb<w.heap.size:=(by obtain ⟨_,h⟩:=HH.out.out;exact h.lt);have hlim:∀ b,ow b≠0->b<w.heap.size:=(by obtain ⟨_,h⟩:=HH.out.out;exact h.lim);have hl0:=HF.out.cok.l0;have hall:s.all.length<=100000:=by unfold St.cnt at hcnt;omega
    have hadd:=EqA.radd_any y ⟨_,Dd.ref⟩ (by omega) HF.out.cok.l1 HF.out.cok.t1 hnow hall (fun b hb=>by
     rcases hb with rfl | hb
     ·exact Dd.lt
     ·exact Dd.lim b (by rw[hb];decide)) (by rw[hy];show xt.size<=_;unfold maxLen;omega)
    rw[<- hfA] at hadd;rw[hy] at hadd;simp only at hadd;refine hadd.mono ?_;rintro e w' ⟨rfl,hrf,hkp⟩;rw[<- hy] at hrf
    have hE:Ep c { s with all:=if fA=0 then s.all ++ [y] else s.all,now:=s.now } k=Ep c s k:=by
     by_cases h0:fA=0
     ·simp only[if_pos h0];refine Ep_snocSight c s y k ?_;rw[h0] at hfA;rw[HKEQ.out];unfold EpM.addF at hfA;split at hfA
      ·split at hfA
       ·omega
       ·unfold St.cl;omega
      ·omega
     ·simp only[if_neg h0]
    obtain ⟨v,hDa⟩:=Dd.desk hrf hkp hE;refine ⟨rfl,⟨⟨_,_,hDa,WaB.Wp.own3_of hkp (fun b hb=>?_)⟩,?_⟩⟩
    ·rcases hb with rfl | hb
     ·rw[HD1.out.ob];decide
     ·rw[hb];decide
    ·have hVs:w.heap.size<V1.heap.size:=by have:=HB1.out.size;omega
     rw[hkp.block w.heap.size hVs (fun hh=>by
      rcases hh with hh | hh
      ·omega
      ·have:=hlim w.heap.size (by rw[hh];decide);omega)]
     exact HBOX.out V1 HB1.out
   have x1:V1.cell? ⟨w.heap.size,1,none⟩=some (.int .i64 xs):=(by simp[World.cell?,HBOX.out V1 HB1.out]);have x2:V1.cell? ⟨w.heap.size,2,none⟩=some (.int .i64 xg):=(by simp[World.cell?,HBOX.out V1 HB1.out]);have HFA:Hid (fA=EpM.addF c.len c.late s.now y):=hfA;have HYG:Hid (y.g=xt):=(by show _ = _;rw[hy]);clear hy hfA hfull HDC
   -- TAIL
   have hbd:s.late<=6000:=(by unfold St.cnt at hcnt;omega);have HAD4:Hid (∀ V' all',AD (V1.drewN 1) V' w.heap.size (.cells #[.int .i64 (a:Int),.int .i64 xs,.int .i64 xg,.string xt] 90) rb ow c rs s k q (kn s.all) all'->V'.cell? ⟨w.heap.size,1,none⟩=some (.int .i64 xs)/\V'.cell? ⟨w.heap.size,2,none⟩=some (.int .i64 xg)/\V'.cell? ⟨w.heap.size,3,none⟩=some (.string xt)/\V'.cell? ⟨rb,37,none⟩=some (.int .i64 (s.now:Int))):=fun V' all' h=>(by refine ⟨by simp[World.cell?,h.box],by simp[World.cell?,h.box],by simp[World.cell?,h.box],?_⟩;obtain ⟨p',ow',hd,_⟩:=h.out;exact hd.cell (by omega));by_cases h0:fA=0
   case neg=>
    have HRD:Hid (s.read c r ⟨(a:Int),xs,xg,xt⟩ = { s with late:=s.late+1 }):=(by show _ = _;unfold St.read;rw[if_neg HKN.out,if_neg (by simp only[Int.toNat_natCast];exact HP1.out),if_neg HNF.out,if_pos (by rw[HY.out,<- HFA.out];exact h0)]);rw[if_neg h0] at HADD;have i1:(0:Int)<(fA:Int):=(by omega);have i2:decide ((0:Int)<(fA:Int))=true:=(by simpa using i1);clear h0 HFA;cases kb with
    | true=>
     go_upto_region 13 with fail;go_region_held3 (fun U=>U.cell? ⟨w.heap.size,1,none⟩=some (.int .i64 xs)/\U.cell? ⟨w.heap.size,2,none⟩=some (.int .i64 xg)/\U.cell? ⟨w.heap.size,3,none⟩=some (.string xt)/\U.cell? ⟨rb,37,none⟩=some (.int .i64 (s.now:Int))) (go_keep) (first | (go_at_call 88;refine (HADD.out 1).mono ?_;rintro e w3 ⟨rfl,had⟩;obtain ⟨t1,t2,t3,t4⟩:=HAD4.out _ _ had;have HAD:Hid (AD (V1.drewN 1) w3 w.heap.size (.cells #[.int .i64 (a:Int),.int .i64 xs,.int .i64 xg,.string xt] 90) rb ow c rs s k q (kn s.all) (s.all)):=had;clear had))
     all_goals
      have c44:w3.cell? ⟨rb,44,none⟩=some (.int .i64 (s.late:Int)):=(by obtain ⟨p',ow',hd,_⟩:=HAD.out.out;exact hd.cell (by omega));have f44:w3.frozen? ⟨rb,44,none⟩=false:=(by obtain ⟨p',ow',hd,_⟩:=HAD.out.out;exact hd.fz 44);have HFI:Hid (DTo w (w3.setCell ⟨rb,44,none⟩ (.int .i64 ((s.late:Int)+1))) rb ow c rs (s.read c r ⟨(a:Int),xs,xg,xt⟩) k q):=(by rw[HRD.out];obtain ⟨p',ow',hd,hwp⟩:=HAD.out.out;exact DTo.from_wp ((Wp.below (below_drewN HBW.out 1) ow).trans hwp) (DTo.count ⟨p',hd⟩ (fun p j hj=>dcv_late c s p (s.late+1) j hj) rfl));clear t1 t2 t3 t4 c37 x1 x2 eb3 eb0 epl e40;go_wp2;go_end0;exact ⟨rfl,HFI.out⟩
    | false=>
     have hz4:=hz3 rfl;go_upto_region 13 with fail
     go_region_held3 (fun U=>U.cell? ⟨w.heap.size,1,none⟩=some (.int .i64 xs)/\U.cell? ⟨w.heap.size,2,none⟩=some (.int .i64 xg)/\U.cell? ⟨w.heap.size,3,none⟩=some (.string xt)/\U.cell? ⟨rb,37,none⟩=some (.int .i64 (s.now:Int))) (go_keep) (first | (go_at_call 88;refine (HADD.out 1).mono ?_;rintro e w3 ⟨rfl,had⟩;obtain ⟨t1,t2,t3,t4⟩:=HAD4.out _ _ had;have HAD:Hid (AD (V1.drewN 1) w3 w.heap.size (.cells #[.int .i64 (a:Int),.int .i64 xs,.int .i64 xg,.string xt] 90) rb ow c rs s k q (kn s.all) (s.all)):=had;clear had))
     all_goals
      have c44:w3.cell? ⟨rb,44,none⟩=some (.int .i64 (s.late:Int)):=(by obtain ⟨p',ow',hd,_⟩:=HAD.out.out;exact hd.cell (by omega));have f44:w3.frozen? ⟨rb,44,none⟩=false:=(by obtain ⟨p',ow',hd,_⟩:=HAD.out.out;exact hd.fz 44);have HFI:Hid (DTo w (w3.setCell ⟨rb,44,none⟩ (.int .i64 ((s.late:Int)+1))) rb ow c rs (s.read c r ⟨(a:Int),xs,xg,xt⟩) k q):=(by rw[HRD.out];obtain ⟨p',ow',hd,hwp⟩:=HAD.out.out;exact DTo.from_wp ((Wp.below (below_drewN HBW.out 1) ow).trans hwp) (DTo.count ⟨p',hd⟩ (fun p j hj=>dcv_late c s p (s.late+1) j hj) rfl));clear t1 t2 t3 t4 c37 x1 x2 eb3 eb0 epl e40;go_wp2;go_end0;exact ⟨rfl,HFI.out⟩
   case pos=>
    have HRD:Hid (s.read c r ⟨(a:Int),xs,xg,xt⟩ = { s with all:=s.all ++ [y] }):=(by show _ = _;unfold St.read;rw[if_neg HKN.out,if_neg (by simp only[Int.toNat_natCast];exact HP1.out),if_neg HNF.out,if_neg (by rw[HY.out,<- HFA.out,h0];simp),HY.out]);rw[if_pos h0] at HADD;subst h0;clear HFA;cases kb with
    | true=>
     have HKS:Hid (kn (s.all ++ [y])=kn s.all):=(by show _ = _;rw[kn_snoc,HYG.out];unfold addT;rw[if_pos HKT.out.symm]);go_upto_region 13 with fail;go_region_held3 (fun U=>U.cell? ⟨w.heap.size,1,none⟩=some (.int .i64 xs)/\U.cell? ⟨w.heap.size,2,none⟩=some (.int .i64 xg)/\U.cell? ⟨w.heap.size,3,none⟩=some (.string xt)/\U.cell? ⟨rb,37,none⟩=some (.int .i64 (s.now:Int))) (go_keep) (first | (go_at_call 88;refine (HADD.out 1).mono ?_;rintro e w3 ⟨rfl,had⟩;obtain ⟨t1,t2,t3,t4⟩:=HAD4.out _ _ had;have HAD:Hid (AD (V1.drewN 1) w3 w.heap.size (.cells #[.int .i64 (a:Int),.int .i64 xs,.int .i64 xg,.string xt] 90) rb ow c rs s k q (kn s.all) (s.all ++ [y])):=had;clear had))
     all_goals
      have HFI:Hid (DTo w w3 rb ow c rs (s.read c r ⟨(a:Int),xs,xg,xt⟩) k q):=(by rw[HRD.out];obtain ⟨p',ow',hd,hwp⟩:=HAD.out.out;refine ⟨ow',⟨p',?_⟩,(Wp.below (below_drewN HBW.out 1) ow).trans hwp⟩;rw[HKS.out];exact hd);clear t1 t2 t3 t4 c37 x1 x2 eb3 eb0 epl e40;go_wp2;go_end0;exact ⟨rfl,HFI.out⟩
    | false=>
     have hz4:=hz3 rfl;have HKS:Hid (kn (s.all ++ [y])=kn s.all ++ [xt]):=(by show _ = _;rw[kn_snoc,HYG.out];unfold addT;rw[if_neg (by rw[<- HKT.out];decide)]);go_upto_region 13 with fail;go_region_held3 (fun U=>U.cell? ⟨w.heap.size,1,none⟩=some (.int .i64 xs)/\U.cell? ⟨w.heap.size,2,none⟩=some (.int .i64 xg)/\U.cell? ⟨w.heap.size,3,none⟩=some (.string xt)/\U.cell? ⟨rb,37,none⟩=some (.int .i64 (s.now:Int))) (go_keep) (first | (go_at_call 88;refine (HADD.out 1).mono ?_;rintro e w3 ⟨rfl,had⟩;obtain ⟨t1,t2,t3,t4⟩:=HAD4.out _ _ had;have HAD:Hid (AD (V1.drewN 1) w3 w.heap.size (.cells #[.int .i64 (a:Int),.int .i64 xs,.int .i64 xg,.string xt] 90) rb ow c rs s k q (kn s.all) (s.all ++ [y])):=had;clear had))
     all_goals
      obtain ⟨p3,o3,hd3,hw3⟩:=HAD.out.out;have HD3:Hid (Da w3 rb o3 c rs { s with all:=s.all ++ [y] } k q (kn s.all) p3):=hd3;have HW3:Hid (Wp w w3 ow o3):=(Wp.below (below_drewN HBW.out 1) ow).trans hw3
      have hob3:o3 w.heap.size=0:=by
       apply Decidable.byContradiction;intro hn;rcases HW3.out.new _ hn with h | h
       ·obtain ⟨_,hh⟩:=HH.out.out;have:=hh.lim _ h;omega
       ·have h2:(V1.drewN 1).heap.size<=w.heap.size:=by
         rcases hw3.new _ hn with h' | h'
         ·obtain ⟨_,hh⟩:=HH.out.out;have:=hh.lim _ h';omega
         ·exact h'
        have h3:V1.heap.size<=w.heap.size:=h2;have:=HB1.out.size;omega
      have HOB:Hid (o3 w.heap.size=0):=hob3;have hrl:=hd3.lt;have hbl:w.heap.size<w3.heap.size:=(by have h1:=hw3.kp.size;have h2:V1.heap.size<=w3.heap.size:=h1;have:=HB1.out.size;omega);have HU:Hid (Below w3.heap.size w3 (w3.alloc (.cells #[.string xt] 9)).drew):=((Below.refl _ w3).alloc (Nat.le_refl _) _).drew;have hS0:w3.drew.cell? ⟨w.heap.size,3,none⟩=some (.string xt):=t3;have hS1:(w3.alloc (.cells #[.string xt] 9)).drew.cell? ⟨w.heap.size,3,none⟩=some (.string xt):=(HU.out.cell hbl).trans t3;have HROW:Hid ((w3.alloc (.cells #[.string xt] 9)).drew.ownsRow 0 9 1 p3.kv (kn s.all).length ((kn s.all).map Value.string)):=own_keep hd3.knw (fun b hb=>HU.out.block b (own_lt hd3.knw hb));have l40:w3.cell? ⟨rb,40,none⟩=some p3.kv:=hd3.cell (by omega);have l0:w3.drew.cell? ⟨rb,40,none⟩=some p3.kv:=l40;have l1:(w3.alloc (.cells #[.string xt] 9)).drew.cell? ⟨rb,40,none⟩=some p3.kv:=(HU.out.cell hrl).trans l40
      have HNEW:Hid (∀ j u,([.string xt]:List Value)[j]?=some u->(w3.alloc (.cells #[.string xt] 9)).drew.cell? ((⟨w3.heap.size,0,none⟩:Addr).add j)=some u):=by
       intro j u hj;rw[addr_add];show (w3.alloc _).cell? _ = _
       match j,hj with
       | 0,hj=>simp at hj;subst hj;simp
      have HML:Hid ((kn s.all).length+1<=maxLen):=(by show _<=_;have:=HF.out.few;unfold maxLen;omega);have HBY:Hid (((kn s.all).length+1)*16<=140737488355328):=by show _<=_;have:=HF.out.few;omega
      have HOLD:Hid (∀ V,(w3.alloc (.cells #[.string xt] 9)).drew.grownBy V p3.kv.ownBlock->∀ b,b=rb\/b=w.heap.size->V.heap[b]?=(w3.alloc (.cells #[.string xt] 9)).drew.heap[b]?):=by
       intro V hV b hb;refine hV.block b ?_ (fun e=>?_)
       ·have:=HU.out.size;rcases hb with rfl | rfl<;>omega
       ·have h4:=HD3.out.okn b e.symm;rcases hb with rfl | rfl
        ·rw[HD3.out.ob] at h4;omega
        ·rw[HOB.out] at h4;omega
      have HUR:Hid ((w3.alloc (.cells #[.string xt] 9)).drew.heap[rb]?=some (.cells (dcs c { s with all:=s.all ++ [y] } p3) 67)):=(HU.out.block rb hrl).trans hd3.blk;obtain ⟨i0,hi,hz0,hz1,hz2⟩:=info_parts WbA.info9;clear hd3 hw3 hob3 HAD t1 t2 t4 c37 x1 x2 eb3 eb0 epl e40 l40;go_upto_region 16 with fail
      refine wp_region_held_drew (S:=fun V=>V.cell? ⟨w.heap.size,3,none⟩=some (.string xt)) (by kernel_rfl) hS0 (fun _=>?_);refine tk 0 114 (.pointer (some ⟨rb,0,none⟩)) rfl rfl (by kernel_rfl) (fun _ _ _ h=>h) (Or.inl ⟨by rfl,fun wx _=>by go_simp⟩) hS0 ?_;simp only[Act.put,sA,sB,sC];refine tk 1 115 (.pointer (some ⟨rb,0,none⟩)) rfl rfl (by kernel_rfl) (fun _ _ _ h=>h) (Or.inl ⟨by rfl,fun wx _=>by go_simp⟩) hS0 ?_;simp only[Act.put,sA,sB,sC];refine tk 2 116 (.pointer (some ⟨rb,0,none⟩)) rfl rfl (by kernel_rfl) (fun _ _ _ h=>h) (Or.inl ⟨by rfl,fun wx _=>by go_simp⟩) hS0 ?_;simp only[Act.put,sA,sB,sC];refine tk 3 117 (.pointer (some ⟨rb,40,none⟩)) rfl rfl (by kernel_rfl) (fun _ _ _ h=>h) (Or.inl ⟨by rfl,fun wx _=>by go_simp⟩) hS0 ?_;simp only[Act.put,sA,sB,sC];refine tk 5 119 (.pointer (some ⟨w.heap.size,3,none⟩)) rfl rfl (by kernel_rfl) (fun _ _ _ h=>h) (Or.inl ⟨by rfl,fun wx _=>by go_simp⟩) hS0 ?_;simp only[Act.put,sA,sB,sC];refine tk 6 120 (.string xt) rfl rfl (by kernel_rfl) (fun _ _ _ h=>h) (Or.inl ⟨by rfl,fun wx hS=>by (try dsimp only at hS);go_simp⟩) hS0 ?_;simp only[Act.put,sA,sB,sC];refine wpAnyH_ready (rs:=[4,7]) (by kernel_rfl) (by simp) ?_;refine AllReadyH.cons rfl (fun K hK=>?_) (AllReadyH.cons rfl (fun K hK=>?_) AllReadyH.nil)
      ·go_simp;refine hK.out _ _ hS0 (fun _=>?_);clear hK K;refine wpAnyH_ready (rs:=[7]) (by kernel_rfl) (by simp) ?_;refine AllReadyH.cons rfl (fun K hK=>?_) AllReadyH.nil;go_simp;refine hK.out _ _ hS1 (fun _=>?_);clear hK K;refine wpAnyH_ready (rs:=[8]) (by kernel_rfl) (by simp) ?_;refine AllReadyH.cons rfl (fun K hK=>?_) AllReadyH.nil;refine step_append_lies _ (by rfl) (.tmp 118) (.tmp 121) 63 (by rfl) 0 9 i0 (.string ⟨#[]⟩) 1 16 underlying63 hi hz0 hz1 hz2 rfl (by omega) p3.kv (kn s.all).length ((kn s.all).map Value.string) (by rfl) HROW.out ⟨w3.heap.size,0,none⟩ 1 1 [.string xt] (by rfl) rfl HNEW.out (fun u hu=>by simp at hu;subst hu;rfl) (by omega) HML.out HBY.out (Nat.zero_le _) _ rfl ?_;intro g cap V hown hgrow hat hlt;have hvk:∀ a:Addr,a.block=rb\/a.block=w.heap.size->V.cell? a=(w3.alloc (.cells #[.string xt] 9)).drew.cell? a:=fun a ha=>World.cell?_of_block (HOLD.out V hgrow a.block ha);have hSV:V.cell? ⟨w.heap.size,3,none⟩=some (.string xt):=(hvk _ (Or.inr rfl)).trans hS1;have hVR:V.heap[rb]?=some (.cells (dcs c { s with all:=s.all ++ [y] } p3) 67):=(HOLD.out V hgrow rb (Or.inl rfl)).trans HUR.out;have hVf:V.frozen? ⟨rb,40,none⟩=false:=(by simp[World.frozen?,hVR]);have hV40:V.cell? ⟨rb,40,none⟩=some p3.kv:=(hvk _ (Or.inl rfl)).trans l1;have HVR:Hid (V.heap[rb]?=some (.cells (dcs c { s with all:=s.all ++ [y] } p3) 67)):=hVR;clear hVR;refine hK.out _ _ hSV (fun _=>?_);clear hK K;change wpAnyH _ _ _ _ _ _ _ (Act.put _ (some 122) _) _;simp only[Act.put,sA,sB,sC];refine tk 9 123 (.pointer (some ⟨rb,0,none⟩)) rfl rfl (by kernel_rfl) (fun _ _ _ h=>h) (Or.inl ⟨by rfl,fun wx _=>by go_simp⟩) hSV ?_;simp only[Act.put,sA,sB,sC];refine tk 10 124 (.pointer (some ⟨rb,40,none⟩)) rfl rfl (by kernel_rfl) (fun _ _ _ h=>h) (Or.inl ⟨by rfl,fun wx _=>by go_simp⟩) hSV ?_;simp only[Act.put,sA,sB,sC];refine wpAnyH_ready (rs:=[11]) (by kernel_rfl) (by simp) ?_;refine AllReadyH.cons rfl (fun K hK=>?_) AllReadyH.nil;go_simp;have hS4:(V.setCell ⟨rb,40,none⟩ (.slice (some ⟨g,0,none⟩) ((kn s.all).length+1) cap)).cell? ⟨w.heap.size,3,none⟩=some (.string xt):=(by have hn2:w.heap.size≠rb:=fun e=>(by have h1:=HD3.out.ob;rw[<- e,HOB.out] at h1;omega);rw[World.cell?_of_block (w:=V) (Below.heap_setCell _ _ _ _ hn2)];exact hSV);refine hK.out _ _ hS4 (fun _=>?_);clear hK K;refine wpAnyH_done (by kernel_rfl) ?_ _;have HFI:Hid (DTo w (V.setCell ⟨rb,40,none⟩ (.slice (some ⟨g,0,none⟩) ((kn s.all).length+1) cap)) rb ow c rs (s.read c r ⟨(a:Int),xs,xg,xt⟩) k q):=(by rw[HRD.out];exact DTo.from_wp HW3.out (Da.learnt HD3.out HU.out hown hgrow hat HVR.out HKS.out));clear hown hgrow hat hlt hvk hSV hS4 hVf hV40 HVR;go_wp2;go_end0;exact ⟨rfl,HFI.out⟩
      ·go_simp;refine hK.out _ _ hS1 (fun _=>?_);clear hK K;refine wpAnyH_ready (rs:=[4]) (by kernel_rfl) (by simp) ?_;refine AllReadyH.cons rfl (fun K hK=>?_) AllReadyH.nil;go_simp;refine hK.out _ _ hS1 (fun _=>?_);clear hK K;refine wpAnyH_ready (rs:=[8]) (by kernel_rfl) (by simp) ?_;refine AllReadyH.cons rfl (fun K hK=>?_) AllReadyH.nil;refine step_append_lies _ (by rfl) (.tmp 118) (.tmp 121) 63 (by rfl) 0 9 i0 (.string ⟨#[]⟩) 1 16 underlying63 hi hz0 hz1 hz2 rfl (by omega) p3.kv (kn s.all).length ((kn s.all).map Value.string) (by rfl) HROW.out ⟨w3.heap.size,0,none⟩ 1 1 [.string xt] (by rfl) rfl HNEW.out (fun u hu=>by simp at hu;subst hu;rfl) (by omega) HML.out HBY.out (Nat.zero_le _) _ rfl ?_;intro g cap V hown hgrow hat hlt;have hvk:∀ a:Addr,a.block=rb\/a.block=w.heap.size->V.cell? a=(w3.alloc (.cells #[.string xt] 9)).drew.cell? a:=fun a ha=>World.cell?_of_block (HOLD.out V hgrow a.block ha);have hSV:V.cell? ⟨w.heap.size,3,none⟩=some (.string xt):=(hvk _ (Or.inr rfl)).trans hS1;have hVR:V.heap[rb]?=some (.cells (dcs c { s with all:=s.all ++ [y] } p3) 67):=(HOLD.out V hgrow rb (Or.inl rfl)).trans HUR.out;have hVf:V.frozen? ⟨rb,40,none⟩=false:=(by simp[World.frozen?,hVR]);have hV40:V.cell? ⟨rb,40,none⟩=some p3.kv:=(hvk _ (Or.inl rfl)).trans l1;have HVR:Hid (V.heap[rb]?=some (.cells (dcs c { s with all:=s.all ++ [y] } p3) 67)):=hVR;clear hVR;refine hK.out _ _ hSV (fun _=>?_);clear hK K;change wpAnyH _ _ _ _ _ _ _ (Act.put _ (some 122) _) _;simp only[Act.put,sA,sB,sC];refine tk 9 123 (.pointer (some ⟨rb,0,none⟩)) rfl rfl (by kernel_rfl) (fun _ _ _ h=>h) (Or.inl ⟨by rfl,fun wx _=>by go_simp⟩) hSV ?_;simp only[Act.put,sA,sB,sC];refine tk 10 124 (.pointer (some ⟨rb,40,none⟩)) rfl rfl (by kernel_rfl) (fun _ _ _ h=>h) (Or.inl ⟨by rfl,fun wx _=>by go_simp⟩) hSV ?_;simp only[Act.put,sA,sB,sC];refine wpAnyH_ready (rs:=[11]) (by kernel_rfl) (by simp) ?_;refine AllReadyH.cons rfl (fun K hK=>?_) AllReadyH.nil;go_simp;have hS4:(V.setCell ⟨rb,40,none⟩ (.slice (some ⟨g,0,none⟩) ((kn s.all).length+1) cap)).cell? ⟨w.heap.size,3,none⟩=some (.string xt):=(by have hn2:w.heap.size≠rb:=fun e=>(by have h1:=HD3.out.ob;rw[<- e,HOB.out] at h1;omega);rw[World.cell?_of_block (w:=V) (Below.heap_setCell _ _ _ _ hn2)];exact hSV);refine hK.out _ _ hS4 (fun _=>?_);clear hK K;refine wpAnyH_done (by kernel_rfl) ?_ _;have HFI:Hid (DTo w (V.setCell ⟨rb,40,none⟩ (.slice (some ⟨g,0,none⟩) ((kn s.all).length+1) cap)) rb ow c rs (s.read c r ⟨(a:Int),xs,xg,xt⟩) k q):=(by rw[HRD.out];exact DTo.from_wp HW3.out (Da.learnt HD3.out HU.out hown hgrow hat HVR.out HKS.out));clear hown hgrow hat hlt hvk hSV hS4 hVf hV40 HVR;go_wp2;go_end0;exact ⟨rfl,HFI.out⟩
  case pos=>
   have hII:(j:Int)<N:=(by omega);have hj':j<K.length:=(by rw[<- HNK.out];exact hlt);have hkj:=List.getElem?_eq_getElem hj';obtain ⟨gb,rfl,hgc⟩:=HKC.out j _ hkj;generalize K[j]=y at *;have HTK:Hid (hasT (K.take (j+1)) xt=(hasT (K.take j) xt||decide (y=xt))):=WbA.hasT_take hkj;clear hkj hj' epl eb0;cases kb with
   | true=>
    go_wp2;go_quiet (fail);go_wp2;go_roundw
    case rel=>exact ⟨j+1,_,true,by omega,by go_num,rfl,by rw[HTK.out,<- HKB.out];rfl,rfl⟩
    case measure=>simp[intOf];omega
   | false=>
    by_cases hy:y=xt
    ·have hyb:(y.toList == xt.toList)=true:=sbeq_true hy;go_wp2;go_quiet (fail);go_wp2;go_roundw
     case rel=>exact ⟨j+1,_,true,by omega,by go_num,rfl,by rw[HTK.out,<- HKB.out,decide_eq_true hy];rfl,rfl⟩
     case measure=>simp[intOf];omega
    ·have hyb:(y.toList == xt.toList)=false:=sbeq_false hy;go_wp2;go_quiet (fail);go_wp2;go_roundw
     case rel=>exact ⟨j+1,_,false,by omega,by go_num,rfl,by rw[HTK.out,<- HKB.out,decide_eq_false hy];rfl,rfl⟩
     case measure=>simp[intOf];omega
end
end WeA
end Go.Proofs.YtmolafjalaeoaaaGreatDoor
