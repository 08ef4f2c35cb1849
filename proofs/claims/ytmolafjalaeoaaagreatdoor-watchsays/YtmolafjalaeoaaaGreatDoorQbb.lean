/-
  InE
-/
import Derived.Test.YtmolafjalaeoaaaGreatDoorQba
set_option maxRecDepth 100000
set_option maxHeartbeats 8000000
namespace Go.Proofs.YtmolafjalaeoaaaGreatDoor
open Tryz
namespace InA
open Go.RowKit TkM TkW TkA InM Go.Maps
structure Cr where
 g:ByteArray
 p:Option Addr
 c:Nat
structure CrsAt (V:World) (q:Option Addr) (cs:List Cr) (ep:Nat->List Sg) (W need L n:Nat):Prop where
 at_:∀ i x,cs[i]?=some x->∃ b,q=some ⟨b,0,none⟩/\b<V.heap.size/\V.cell? ⟨b,i*3,none⟩=some (.string x.g)/\V.cell? ⟨b,i*3+1,none⟩=some (.int .i64 (knd x.g:Int))/\V.cell? ⟨b,i*3+1+1,none⟩=some (.slice x.p n x.c)/\PlOn V x.p (whr x.g ep W need) L n
theorem CrsAt.below {V V':World} {q:Option Addr} {cs:List Cr} {ep:Nat->List Sg} {W need L n:Nat} (h:CrsAt V q cs ep W need L n) (hb:Below V.heap.size V V'):CrsAt V' q cs ep W need L n where
 at_:=fun i x hx=>by obtain ⟨b,hq,hlt,h1,h2,h3,h4⟩:=h.at_ i x hx;exact ⟨b,hq,Nat.lt_of_lt_of_le hlt hb.size,by rw[hb.cell hlt];exact h1,by rw[hb.cell hlt];exact h2,by rw[hb.cell hlt];exact h3,h4.below hb⟩
structure BIn (w V:World) (g was:ByteArray) (pg:Option Addr) (n cg:Nat) (p:ByteArray) (c:Nat) (wb:Bool):Prop where
 kp:Below w.heap.size w V
 b5:V.heap[w.heap.size]?=some (.cells #[.string g,.int .i64 (knd g:Int),.slice pg n cg] 209)
 b7:V.heap[w.heap.size+1]?=some (.cells #[.string was] 214)
 b8:V.heap[w.heap.size+1+1]?=some (.cells #[.string ⟨#[]⟩,.int .i64 0,.bool false] 211)
 b9:V.heap[w.heap.size+1+1+1]?=some (.cells #[.string p,.int .i64 (c:Int),.bool wb] 211)
theorem BIn.below {w V V':World} {g was:ByteArray} {pg:Option Addr} {n cg:Nat} {p:ByteArray} {c:Nat} {wb:Bool} (h:BIn w V g was pg n cg p c wb) (hb:Below V.heap.size V V'):BIn w V' g was pg n cg p c wb where
 kp:=h.kp.trans (hb.mono h.kp.size)
 b5:=(hb.block _ (Array.getElem?_eq_some_iff.1 h.b5).1).trans h.b5
 b7:=(hb.block _ (Array.getElem?_eq_some_iff.1 h.b7).1).trans h.b7
 b8:=(hb.block _ (Array.getElem?_eq_some_iff.1 h.b8).1).trans h.b8
 b9:=(hb.block _ (Array.getElem?_eq_some_iff.1 h.b9).1).trans h.b9
theorem BIn.new (w:World) (g was:ByteArray) (pg:Option Addr) (n cg:Nat):BIn w ((((w.alloc (.cells #[.string g,.int .i64 (knd g:Int),.slice pg n cg] 209)).alloc (.cells #[.string was] 214)).alloc (.cells #[.string ⟨#[]⟩,.int .i64 0,.bool false] 211)).alloc (.cells #[.string ⟨#[]⟩,.int .i64 0,.bool false] 211)) g was pg n cg ⟨#[]⟩ 0 false:=by
 have a1:=Go.heap_alloc_new w (.cells #[.string g,.int .i64 (knd g:Int),.slice pg n cg] 209);have s1:=World.size_alloc w (.cells #[.string g,.int .i64 (knd g:Int),.slice pg n cg] 209);generalize hX1:w.alloc (.cells #[.string g,.int .i64 (knd g:Int),.slice pg n cg] 209)=X1 at *;have a2:=Go.heap_alloc_new X1 (.cells #[.string was] 214);have s2:=World.size_alloc X1 (.cells #[.string was] 214);have q2:=Below.heap_alloc X1 (.cells #[.string was] 214);generalize hX2:X1.alloc (.cells #[.string was] 214)=X2 at *;have a3:=Go.heap_alloc_new X2 (.cells #[.string ⟨#[]⟩,.int .i64 0,.bool false] 211);have s3:=World.size_alloc X2 (.cells #[.string ⟨#[]⟩,.int .i64 0,.bool false] 211);have q3:=Below.heap_alloc X2 (.cells #[.string ⟨#[]⟩,.int .i64 0,.bool false] 211);generalize hX3:X2.alloc (.cells #[.string ⟨#[]⟩,.int .i64 0,.bool false] 211)=X3 at *;have a4:=Go.heap_alloc_new X3 (.cells #[.string ⟨#[]⟩,.int .i64 0,.bool false] 211);have q4:=Below.heap_alloc X3 (.cells #[.string ⟨#[]⟩,.int .i64 0,.bool false] 211);rw[s1] at a2 s2;rw[s2] at a3 s3;rw[s3] at a4;refine ⟨?_,?_,?_,?_,a4⟩
 ·rw[<- hX3,<- hX2,<- hX1];exact ((((Below.refl _ w).alloc (Nat.le_refl _) _).alloc (by simp) _).alloc (by simp;omega) _).alloc (by simp;omega) _
 ·rw[q4 _ (by omega),q3 _ (by omega),q2 _ (by omega)];exact a1
 ·rw[q4 _ (by omega),q3 _ (by omega)];exact a2
 ·rw[q4 _ (by omega)];exact a3
theorem cell_of {V:World} {b i:Nat} {cs:Array Value} {t:TypeId} {v:Value} (h:V.heap[b]?=some (.cells cs t)) (hv:cs[i]?=some v):V.cell? ⟨b,i,none⟩=some v:=by simp[World.cell?,h,hv]
theorem fz_of {V:World} {b i:Nat} {cs:Array Value} {t:TypeId} (h:V.heap[b]?=some (.cells cs t)):V.frozen? ⟨b,i,none⟩=false:=by simp[World.frozen?,h]
theorem set3 {X V:World} {nb:Nat} {a b c:Value} (hb:Below X.heap.size X V) (hn:X.heap.size<=nb):Below X.heap.size X (((V.setCell ⟨nb,0,none⟩ a).setCell ⟨nb,1,none⟩ b).setCell ⟨nb,2,none⟩ c):=
 ((hb.setCell (p:=⟨nb,0,none⟩) hn _).setCell (p:=⟨nb,1,none⟩) hn _).setCell (p:=⟨nb,2,none⟩) hn _
theorem new3 {V w' X:World} {a b c:Value} {t:TypeId} (hb:Below V.heap.size V w') (hV:V.heap=X.heap.push (.cells #[a,b,c] t)):w'.cell? ⟨X.heap.size,0,none⟩=some a/\w'.cell? ⟨X.heap.size,1,none⟩=some b/\w'.cell? ⟨X.heap.size,2,none⟩=some c/\(∀ i,w'.frozen? ⟨X.heap.size,i,none⟩=false)/\Hid (w'.heap[X.heap.size]?=some (.cells #[a,b,c] t)):=by
 have hs:X.heap.size<V.heap.size:=by rw[hV];simp
 have h1:w'.heap[X.heap.size]?=some (.cells #[a,b,c] t):=by rw[hb.block _ hs,hV];simp
 exact ⟨cell_of (i:=0) h1 rfl,cell_of (i:=1) h1 rfl,cell_of (i:=2) h1 rfl,fun i=>fz_of h1,h1⟩
structure BP (e:Ending) (T:ByteArray->Nat) (score:Nat) (g was:ByteArray) (l:List ByteArray):Prop where
 out:∃ (p:ByteArray) (c:Nat) (wb:Bool),e = .returned (.agg #[.string p,.int .i64 (c:Int),.bool wb])/\Bs knd T score g was l p c wb/\c<=8
section
variable {w : World} {tb xb : Nat} {F : Nat → Prop} {W need span score k L n : Nat} {ep : Nat → List Sg} {f : Nat → ByteArray → ByteArray}
theorem best_in (g was:ByteArray) (pg:Option Addr) (cg:Nat) (q:Option Addr) (cap:Nat) (cs:List Cr) (x:InAt w xb tb F span score k f) (hg:PlOn w pg (whr g ep W need) L n) (hc:CrsAt w q cs ep W need L n) (hn:n<=8) (hl:cs.length<=90000) (h1 : 1<=score) (h8:score<=8) :
  Calls prog 111 #[.pointer (some ⟨xb,0,none⟩),.agg #[.string g,.int .i64 (knd g:Int),.slice pg n cg],.slice q cs.length cap,.agg #[.string was]] w fun e w'=>BP e (fun y=>tg (whr g ep W need) (whr y ep W need) L n) score g was (cs.map (·.g))/\Below w.heap.size w w':=by
 have HB0:=BIn.new w g was pg n cg;have HB0:Hid _:=HB0;have HG:Hid (PlOn w pg (whr g ep W need) L n):=hg;have HC:Hid (CrsAt w q cs ep W need L n):=hc;obtain ⟨xv,ms,x⟩:=x.out;have HX:Hid (w.cell? ⟨xb,2,none⟩=some (.int .i64 (score:Int))/\xb<w.heap.size):=⟨x.c2,x.lt⟩;obtain ⟨T,hT⟩:∃ T:ByteArray->Nat,T=fun y=>tg (whr g ep W need) (whr y ep W need) L n:=⟨_,rfl⟩;have HT:Hid (T=fun y=>tg (whr g ep W need) (whr y ep W need) L n):=hT;obtain ⟨N,hN⟩:∃ N,N=cs.length:=⟨_,rfl⟩;have HN:Hid (N=cs.length):=hN;rw[<- hT,<- hN];rw[<- hN] at hl;have hNI:(N:Int)<=90000:=by omega
 have hsI:(score:Int)<=8:=by omega
 obtain ⟨kg,hkg⟩:∃ kg,kg=knd g:=⟨_,rfl⟩;rw[<- hkg] at HB0 ⊢;have HKG:Hid (kg=knd g):=hkg;have hkg3:(kg:Int)<=3:=by have:=knd_le g;omega
 clear hg hc x hT hN hkg;go_enter func111,ntmps111;go_wp2;go_loopw [11,12,15] (fun _ _ i V=>∃ (m:Nat) (p:ByteArray) (c:Nat) (wb:Bool),m<=N/\i = .int .i64 (m:Int)/\BIn w V g was pg n cg p c wb/\Bs knd T score g was ((cs.map (·.g)).take m) p c wb/\c<=8) (fun _ _ i _=>N-(intOf i).toNat)
 case atStart=>exact ⟨0,⟨#[]⟩,0,false,Nat.zero_le _,rfl,HB0.out,by rw[List.take_zero];exact Bs.zero,by omega⟩
 case round=>
  obtain ⟨m,p,c,wb,hm,rfl,hB,hBs,hc8⟩:=hrel;have HB:Hid (BIn w wr g was pg n cg p c wb):=hB;have HBs:Hid (Bs knd T score g was ((cs.map (·.g)).take m) p c wb):=hBs;clear hB hBs HB0;by_cases hlt:m<N
  case neg=>have hmm:m=N:=(by omega);subst hmm;have hII:¬ (m:Int)<m:=(by omega);have k90:=cell_of (i:=0) HB.out.b9 rfl;have k91:=cell_of (i:=1) HB.out.b9 rfl;have k92:=cell_of (i:=2) HB.out.b9 rfl;have k80:=cell_of (i:=0) HB.out.b8 rfl;have k81:=cell_of (i:=1) HB.out.b8 rfl;have k82:=cell_of (i:=2) HB.out.b8 rfl;have f8:=fun i=>fz_of (i:=i) HB.out.b8;have HF:Hid (∀ V:World,V=(((wr.setCell ⟨w.heap.size+1+1,0,none⟩ (.string p)).setCell ⟨w.heap.size+1+1,1,none⟩ (.int .i64 (c:Int))).setCell ⟨w.heap.size+1+1,2,none⟩ (.bool wb))->V.heap[w.heap.size+1+1]?=some (.cells #[.string p,.int .i64 (c:Int),.bool wb] 211)/\Below w.heap.size w V):=(by rintro V rfl;refine ⟨by simp[World.setCell,Array.getElem?_modify,HB.out.b8],?_⟩;exact ((HB.out.kp.setCell (p:=⟨w.heap.size+1+1,0,none⟩) (by show _<=w.heap.size+1+1;omega) _).setCell (p:=⟨w.heap.size+1+1,1,none⟩) (by show _<=w.heap.size+1+1;omega) _).setCell (p:=⟨w.heap.size+1+1,2,none⟩) (by show _<=w.heap.size+1+1;omega) _);have HE:Hid (Bs knd T score g was (cs.map (·.g)) p c wb):=(by have:=HBs.out;rw[HN.out,List.take_of_length_le (by simp)] at this;exact this);go_wp2;obtain ⟨hv,hbv⟩:=HF.out _ rfl;have v0:=cell_of (i:=0) hv rfl;have v1:=cell_of (i:=1) hv rfl;have v2:=cell_of (i:=2) hv rfl;generalize (((wr.setCell ⟨w.heap.size+1+1,0,none⟩ (.string p)).setCell ⟨w.heap.size+1+1,1,none⟩ (.int .i64 (c:Int))).setCell ⟨w.heap.size+1+1,2,none⟩ (.bool wb))=V at *;exact bodyPost_ret (v:=.agg #[.string p,.int .i64 (c:Int),.bool wb]) (by simp[results,results111,go_sem,v0,v1,v2]) rfl ⟨⟨p,c,wb,rfl,HE.out,hc8⟩,hbv⟩
  case pos=>
   have hmI:(m:Int)<N:=(by omega);have hm':m<cs.length:=(by rw[<- HN.out];exact hlt);obtain ⟨b,hqb,hblt,e0,e1,e2,hpo⟩:=(HC.out.below HB.out.kp).at_ m _ (List.getElem?_eq_getElem hm');have HTK:Hid ((cs.map (·.g)).take (m+1)=(cs.map (·.g)).take m ++ [cs[m].g]):=(by show _ = _;rw[List.take_add_one,List.getElem?_eq_getElem (by simpa using hm')];simp);generalize cs[m]=y at *;obtain ⟨yg,yp,yc⟩:=y;simp only at e0 e1 e2 hpo HTK;subst hqb;obtain ⟨ky,hky⟩:∃ ky,ky=knd yg:=⟨_,rfl⟩;have HKY:Hid (ky=knd yg):=hky;have hky3:(ky:Int)<=3:=(by have:=knd_le yg;omega);rw[<- hky] at e1;have HPO:Hid (PlOn wr yp (whr yg ep W need) L n):=hpo;have hsw:=HB.out.kp.size;have hws:w.heap.size+1+1+1<wr.heap.size:=(Array.getElem?_eq_some_iff.1 HB.out.b9).1;have HA:Hid (∀ o,BIn w (wr.alloc o) g was pg n cg p c wb):=fun o=>HB.out.below ((Below.refl _ wr).alloc (Nat.le_refl _) o);have k51:∀ o,(wr.alloc o).cell? ⟨w.heap.size,1,none⟩=some (.int .i64 (kg:Int)):=fun o=>(by rw[HKG.out];exact cell_of (i:=1) (HA.out o).b5 rfl);clear hpo hky;by_cases hkk:ky<=kg
   ·have hkI:(ky:Int)<=kg:=(by omega);go_wp2;go_roundw
    case rel=>exact ⟨m+1,p,c,wb,by omega,by go_num,HA.out _,by rw[HTK.out];exact HBs.out.skip (Or.inl (by rw[<- HKG.out,<- HKY.out];omega)),hc8⟩
    case measure=>simp[intOf];omega
   ·have hkI:¬ (ky:Int)<=kg:=(by omega);obtain ⟨X,hX⟩:∃ X,X=wr.alloc (.cells #[.string yg,.int .i64 (ky:Int),.slice yp n yc] 209):=⟨_,rfl⟩;have HBX:Hid (BIn w X g was pg n cg p c wb):=(by rw[hX];exact HA.out _);have hbX:Below wr.heap.size wr X:=(by rw[hX];exact (Below.refl _ wr).alloc (Nat.le_refl _) _);have hXs:X.heap.size=wr.heap.size+1:=(by rw[hX];simp);have HXS:Hid (X.heap.size=wr.heap.size+1):=hXs;have hb2:X.heap[wr.heap.size]?=some (.cells #[.string yg,.int .i64 (ky:Int),.slice yp n yc] 209):=(by rw[hX];exact Go.heap_alloc_new wr _);have x0:=cell_of (i:=0) hb2 rfl;have x1:=cell_of (i:=1) hb2 rfl;have x2:=cell_of (i:=2) hb2 rfl;have y0:=cell_of (i:=0) HBX.out.b5 rfl;have y1:X.cell? ⟨w.heap.size,1,none⟩=some (.int .i64 (kg:Int)):=(by rw[HKG.out];exact cell_of (i:=1) HBX.out.b5 rfl);have y2:=cell_of (i:=2) HBX.out.b5 rfl;have z0:=cell_of (i:=0) HBX.out.b7 rfl;have HTG:Hid (∀ V,Below X.heap.size X V->Calls prog 136 #[.agg #[.string g,.int .i64 (kg:Int),.slice pg n cg],.agg #[.string yg,.int .i64 (ky:Int),.slice yp n yc]] V fun e w'=>e = .returned (.int .i64 ((T yg:Nat):Int))/\Below V.heap.size V w'):=fun V hV=>(by have hBV:Below w.heap.size w V:=HBX.out.kp.trans (hV.mono HBX.out.kp.size);have h:=together_any g yg (kg:Int) (ky:Int) pg yp cg yc (whr g ep W need) (whr yg ep W need) L n V (HG.out.below hBV) ((HPO.out.below hbX).below hV) hn;rw[HT.out];exact h);have HSS:Hid (∀ V,Below X.heap.size X V->(V.cell? ⟨wr.heap.size,0,none⟩=some (.string yg)/\V.cell? ⟨wr.heap.size,1,none⟩=some (.int .i64 (ky:Int))/\V.cell? ⟨wr.heap.size,2,none⟩=some (.slice yp n yc)/\V.cell? ⟨w.heap.size,0,none⟩=some (.string g)/\V.cell? ⟨w.heap.size,1,none⟩=some (.int .i64 (kg:Int))/\V.cell? ⟨w.heap.size,2,none⟩=some (.slice pg n cg)/\V.cell? ⟨w.heap.size+1,0,none⟩=some (.string was))/\Below X.heap.size X V):=fun V hV=>⟨⟨TagA.keepCell hV x0,TagA.keepCell hV x1,TagA.keepCell hV x2,TagA.keepCell hV y0,TagA.keepCell hV y1,TagA.keepCell hV y2,TagA.keepCell hV z0⟩,hV⟩;have hXX:Below X.heap.size X X:=Below.refl _ _;have HTY:Hid (T yg<=8):=(by rw[HT.out];exact Nat.le_trans (tg_le _ _ _ _) hn);have hX':=hX;clear hX hXs hb2 hbX;go_wp2_with fail;rw[<- hX'];clear hX' e0 e1 e2 k51;go_cut [12] from 24 to 34 (fun a V=>∃ nb:Nat,a = .pointer (some ⟨nb,0,none⟩)/\V.heap[nb]?=some (.cells #[.string yg,.int .i64 ((T yg:Nat):Int),.bool (yg.toList == was.toList)] 211)/\X.heap.size<=nb/\Below X.heap.size X V)
    case first=>
     go_region_held3 (fun V=>(V.cell? ⟨wr.heap.size,0,none⟩=some (.string yg)/\V.cell? ⟨wr.heap.size,1,none⟩=some (.int .i64 (ky:Int))/\V.cell? ⟨wr.heap.size,2,none⟩=some (.slice yp n yc)/\V.cell? ⟨w.heap.size,0,none⟩=some (.string g)/\V.cell? ⟨w.heap.size,1,none⟩=some (.int .i64 (kg:Int))/\V.cell? ⟨w.heap.size,2,none⟩=some (.slice pg n cg)/\V.cell? ⟨w.heap.size+1,0,none⟩=some (.string was))/\Below X.heap.size X V)
      (first | exact HSS.out _ (TagA.drewBelow ‹_›) | (go_split_ands;exact HSS.out _ (TagA.allocBelow _ ‹_›)) | (go_split_ands;exact HSS.out _ (TagA.keepBelow ‹_› hb)) | exact HSS.out _ (TagA.allocBelow _ (TagA.keepBelow (drewN_below X _) hb)) | exact HSS.out _ (TagA.allocBelow _ (TagA.keepBelow (TagA.drewBelow (Below.refl _ _)) hb)) | (go_split_ands;exact HSS.out _ (set3 ‹_› (by first | exact Nat.le_refl _ | exact Below.size ‹_›))))
      (first | (go_at_call 136;go_split_ands;refine (HTG.out _ ‹_›).mono ?_;rintro e w' ⟨rfl,hb⟩;try (obtain ⟨n0,n1,n2,nf,nh⟩:=new3 (X:=X) (a:=.string ⟨#[]⟩) (b:=.int .i64 0) (c:=.bool false) (t:=211) hb rfl)))
     ·rename_i hH;go_wp2;go_meet
      case rel=>exact ⟨w'.heap.size,rfl,Go.heap_alloc_new w' _,hb.size,hH.2⟩
     ·rename_i hH;go_wp2;go_meet
      case rel=>exact ⟨X.heap.size,rfl,by simp[World.setCell,Array.getElem?_modify,nh.out],Nat.le_refl _,hH.2⟩
    case rest=>
     clear x0 x1 x2 y0 y1 y2 z0 hXX;obtain ⟨nb,rfl,hnb,hXn,hbV⟩:=hcut
     have hbool:(yg.toList == was.toList)=decide (yg=was):=by
      rw[Bool.eq_iff_iff,decide_eq_true_eq];constructor
      ·intro h;exact toL_inj (by simpa using h)
      ·rintro rfl;simp
     rw[hbool] at hnb;have HBV:Hid (BIn w wc g was pg n cg p c wb):=HBX.out.below hbV;have n0:=cell_of (i:=0) hnb rfl;have n1:=cell_of (i:=1) hnb rfl;have n2:=cell_of (i:=2) hnb rfl;have k90:=cell_of (i:=0) HBV.out.b9 rfl;have k91:=cell_of (i:=1) HBV.out.b9 rfl;have k92:=cell_of (i:=2) HBV.out.b9 rfl;have f9:=fun i=>fz_of (i:=i) HBV.out.b9;have kx:wc.cell? ⟨xb,2,none⟩=some (.int .i64 (score:Int)):=(by rw[HBV.out.kp.cell HX.out.2];exact HX.out.1);have HSS2:Hid (∀ V,Below wc.heap.size wc V->(V.cell? ⟨nb,0,none⟩=some (.string yg)/\V.cell? ⟨nb,1,none⟩=some (.int .i64 ((T yg:Nat):Int))/\V.cell? ⟨nb,2,none⟩=some (.bool (decide (yg=was)))/\V.cell? ⟨w.heap.size+1+1+1,0,none⟩=some (.string p)/\V.cell? ⟨w.heap.size+1+1+1,1,none⟩=some (.int .i64 (c:Int))/\V.cell? ⟨w.heap.size+1+1+1,2,none⟩=some (.bool wb)/\V.cell? ⟨xb,2,none⟩=some (.int .i64 (score:Int)))/\Below wc.heap.size wc V):=fun V hV=>⟨⟨TagA.keepCell hV n0,TagA.keepCell hV n1,TagA.keepCell hV n2,TagA.keepCell hV k90,TagA.keepCell hV k91,TagA.keepCell hV k92,TagA.keepCell hV kx⟩,hV⟩;have HNB:Hid (nb<wc.heap.size/\wr.heap.size<nb):=⟨(Array.getElem?_eq_some_iff.1 hnb).1,by have:=HXS.out;omega⟩;have hww:Below wc.heap.size wc wc:=Below.refl _ _;have hT8:((T yg:Nat):Int)<=8:=(by have:=HTY.out;omega);clear hnb hbV hXn HSS HTG HBX;by_cases hsc:score<=T yg
     case neg=>
      have hd:decide (score<=T yg)=false:=(by simpa using hsc);have HSK:Hid (Bs knd T score g was ((cs.map (·.g)).take (m+1)) p c wb):=(by rw[HTK.out];exact HBs.out.skip (Or.inr (by omega)));clear hsc;go_wp2_with fail;go_quiet (fail);go_wp2;go_roundw
      case rel=>exact ⟨m+1,p,c,wb,by omega,by go_num,HBV.out.below (drewN_below wc _),HSK.out,hc8⟩
      case measure=>simp[intOf];omega
     case pos=>
      have hd:decide (score<=T yg)=true:=(by simpa using hsc);have hkgy:knd g<knd yg:=(by rw[<- HKG.out,<- HKY.out];omega);cases hr:bt (T yg) (decide (yg=was)) yg c wb p with
      | false=>
       have HSK:Hid (Bs knd T score g was ((cs.map (·.g)).take (m+1)) p c wb):=(by rw[HTK.out];exact HBs.out.keep h1 hsc hr);have HCB:Hid (∀ V,Calls prog 137 #[.agg #[.string yg,.int .i64 ((T yg:Nat):Int),.bool (decide (yg=was))],.agg #[.string p,.int .i64 (c:Int),.bool wb]] V fun e w'=>e = .returned (.bool false)/\Below V.heap.size V w'):=fun V=>(by have:=cbeats_any (T yg) c (decide (yg=was)) wb yg p V;rw[hr] at this;exact this);clear hsc hr hkgy;go_wp2_with fail
       go_region_held3 (fun V=>(V.cell? ⟨nb,0,none⟩=some (.string yg)/\V.cell? ⟨nb,1,none⟩=some (.int .i64 ((T yg:Nat):Int))/\V.cell? ⟨nb,2,none⟩=some (.bool (decide (yg=was)))/\V.cell? ⟨w.heap.size+1+1+1,0,none⟩=some (.string p)/\V.cell? ⟨w.heap.size+1+1+1,1,none⟩=some (.int .i64 (c:Int))/\V.cell? ⟨w.heap.size+1+1+1,2,none⟩=some (.bool wb)/\V.cell? ⟨xb,2,none⟩=some (.int .i64 (score:Int)))/\Below wc.heap.size wc V)
        (first | exact HSS2.out _ (TagA.drewBelow ‹_›) | (go_split_ands;exact HSS2.out _ (TagA.keepBelow ‹_› hb)))
        (first | (go_at_call 137;go_split_ands;refine (HCB.out _).mono ?_;rintro e w' ⟨rfl,hb⟩))
       rename_i hH;have HH:Hid _:=hH.2;clear hH;go_wp2;go_roundw
       case rel=>exact ⟨m+1,p,c,wb,by omega,by go_num,HBV.out.below HH.out,HSK.out,hc8⟩
       case measure=>simp[intOf];omega
      | true=>
       have HSK:Hid (Bs knd T score g was ((cs.map (·.g)).take (m+1)) yg (T yg) (decide (yg=was))):=(by rw[HTK.out];exact HBs.out.take hkgy hsc hr);have HCB:Hid (∀ V,Calls prog 137 #[.agg #[.string yg,.int .i64 ((T yg:Nat):Int),.bool (decide (yg=was))],.agg #[.string p,.int .i64 (c:Int),.bool wb]] V fun e w'=>e = .returned (.bool true)/\Below V.heap.size V w'):=fun V=>(by have:=cbeats_any (T yg) c (decide (yg=was)) wb yg p V;rw[hr] at this;exact this);clear hsc hr hkgy;go_wp2_with fail
       go_region_held3 (fun V=>(V.cell? ⟨nb,0,none⟩=some (.string yg)/\V.cell? ⟨nb,1,none⟩=some (.int .i64 ((T yg:Nat):Int))/\V.cell? ⟨nb,2,none⟩=some (.bool (decide (yg=was)))/\V.cell? ⟨w.heap.size+1+1+1,0,none⟩=some (.string p)/\V.cell? ⟨w.heap.size+1+1+1,1,none⟩=some (.int .i64 (c:Int))/\V.cell? ⟨w.heap.size+1+1+1,2,none⟩=some (.bool wb)/\V.cell? ⟨xb,2,none⟩=some (.int .i64 (score:Int)))/\Below wc.heap.size wc V)
        (first | exact HSS2.out _ (TagA.drewBelow ‹_›) | (go_split_ands;exact HSS2.out _ (TagA.keepBelow ‹_› hb)))
        (first | (go_at_call 137;go_split_ands;refine (HCB.out _).mono ?_;rintro e w' ⟨rfl,hb⟩))
       rename_i hH;obtain ⟨⟨l0,l1,l2,l3,l4,l5,l6⟩,hH⟩:=hH;have HH:Hid _:=hH;have HB2:Hid (BIn w w' g was pg n cg p c wb):=HBV.out.below hH;have f9':=fun i=>fz_of (i:=i) HB2.out.b9
       have HF:Hid (∀ V:World,V=(((w'.setCell ⟨w.heap.size+1+1+1,0,none⟩ (.string yg)).setCell ⟨w.heap.size+1+1+1,1,none⟩ (.int .i64 ((T yg:Nat):Int))).setCell ⟨w.heap.size+1+1+1,2,none⟩ (.bool (decide (yg=was))))->BIn w V g was pg n cg yg (T yg) (decide (yg=was))):=by
        rintro V rfl;have z9:w.heap.size<=w.heap.size+1+1+1:=(by omega);refine ⟨((HB2.out.kp.setCell (p:=⟨w.heap.size+1+1+1,0,none⟩) z9 _).setCell (p:=⟨w.heap.size+1+1+1,1,none⟩) z9 _).setCell (p:=⟨w.heap.size+1+1+1,2,none⟩) z9 _,?_,?_,?_,?_⟩
        ·rw[Below.heap_setCell _ _ _ _ (by show _≠w.heap.size+1+1+1;omega),Below.heap_setCell _ _ _ _ (by show _≠w.heap.size+1+1+1;omega),Below.heap_setCell _ _ _ _ (by show _≠w.heap.size+1+1+1;omega)];exact HB2.out.b5
        ·rw[Below.heap_setCell _ _ _ _ (by show _≠w.heap.size+1+1+1;omega),Below.heap_setCell _ _ _ _ (by show _≠w.heap.size+1+1+1;omega),Below.heap_setCell _ _ _ _ (by show _≠w.heap.size+1+1+1;omega)];exact HB2.out.b7
        ·rw[Below.heap_setCell _ _ _ _ (by show _≠w.heap.size+1+1+1;omega),Below.heap_setCell _ _ _ _ (by show _≠w.heap.size+1+1+1;omega),Below.heap_setCell _ _ _ _ (by show _≠w.heap.size+1+1+1;omega)];exact HB2.out.b8
        ·simp[World.setCell,Array.getElem?_modify,HB2.out.b9]
       clear hH HSS2 HCB;go_wp2;go_roundw
       case rel=>exact ⟨m+1,yg,T yg,decide (yg=was),by omega,by go_num,HF.out _ rfl,HSK.out,HTY.out⟩
       case measure=>simp[intOf];omega
end
end InA
end Go.Proofs.YtmolafjalaeoaaaGreatDoor
