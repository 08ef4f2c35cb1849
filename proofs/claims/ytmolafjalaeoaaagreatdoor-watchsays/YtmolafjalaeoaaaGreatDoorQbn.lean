/-
  FrmN
-/
import Derived.Test.YtmolafjalaeoaaaGreatDoorQbm
set_option maxRecDepth 100000
set_option maxHeartbeats 8000000
namespace Go.Proofs.YtmolafjalaeoaaaGreatDoor
open Go.Proofs.Tryz
namespace FrmA
open Go.RowKit FrmM
theorem front_guessR {s:ByteArray} {n:Nat} (h5 : 4+n<=s.size) (hsp:span s.data.toList=4+n) :
  front s.data.toList=if fault (guessR (s.extract 0 (4+n)).data.toList)=0/\enc (guessR (s.extract 0 (4+n)).data.toList)=(s.extract 0 (4+n)).data.toList then some (guessR (s.extract 0 (4+n)).data.toList) else none:=by
 rw[<- frontR_eq];unfold frontR;rw[hsp,if_neg,extract_list]
 ·rfl
 ·rw[len_list];omega
theorem ext_byte {s:ByteArray} {m i:Nat} (hm:m<=s.size) (hi:i<m):(s.extract 0 m).data.toList.getD i 0=s[i]:=by rw[extract_list,<- byte_at (by omega),List.getD_eq_getElem?_getD,List.getD_eq_getElem?_getD];show (List.take m (List.drop 0 s.data.toList))[i]?.getD 0 = _;rw[List.getElem?_take_of_lt hi,List.drop_zero]
theorem ext_size {s:ByteArray} {m:Nat} (hm:m<=s.size):(s.extract 0 m).size=m:=by rw[ByteArray.size_extract];omega
theorem ext_body {s:ByteArray} {n:Nat} (hm : 4+n<=s.size):((s.extract 0 (4+n)).data.toList.drop 3).take ((s.extract 0 (4+n)).data.toList.length-4)=(s.extract 3 (3+n)).data.toList:=by rw[len_list,ext_size hm,extract_list,extract_list,List.drop_zero,List.drop_take,List.take_take];congr 1;omega
theorem guessR_of {s:ByteArray} {n:Nat} (hm : 4+n<=s.size):guessR (s.extract 0 (4+n)).data.toList=⟨s[2].toNat,if s[2].toNat=1 then gReads (s.extract 3 (3+n)).data.toList else [],if s[2].toNat=3/\n=1 then ((s.extract 0 (4+n)).data.toList.getD 3 0).toNat else 0⟩:=by
 unfold guessR;rw[ext_byte hm (by omega),ext_body hm,len_list,ext_size hm];congr 1;by_cases h:n=1
 ·subst h;simp
 ·rw[if_neg (fun h2=>h (by omega)),if_neg (fun h2=>h h2.2)]
structure Tail (W w:World) (G:Fr) (p:Option Addr) (cap:Nat):Prop where
 f0:W.cell? ⟨w.heap.size+1,0,none⟩=some (.int .i64 G.ty)
 f1:W.cell? ⟨w.heap.size+1,1,none⟩=some (.slice p G.rs.length cap)
 f2:W.cell? ⟨w.heap.size+1,2,none⟩=some (.int .i64 G.wm)
 zero:Zero3 W w.heap.size
 own:ReadsOwn W (w.heap.size+2) (.slice p G.rs.length cap) G.rs
 on:ReadsOn W p G.rs
 below:Below w.heap.size w W
 size:w.heap.size+2<=W.heap.size
theorem tail_lit (w:World) (T M:Int):Tail ((w.alloc (.cells #[.int .i64 0,.slice none 0 0,.int .i64 0] 93)).alloc (.cells #[.int .i64 T,.slice none 0 0,.int .i64 M] 93)) w ⟨T,[],M⟩ none 0 where
 f0:=by go_simp
 f1:=by go_simp
 f2:=by go_simp
 zero:=⟨by go_simp,by go_simp,by go_simp,by go_simp,by go_simp,by go_simp⟩
 own:=ReadsOwn.nil _ _
 on:=⟨fun r h=>absurd h List.not_mem_nil,fun h=>absurd rfl h⟩
 below:=((Below.refl _ w).alloc (Nat.le_refl _) _).alloc (by simp) _
 size:=by simp
theorem fa_else (s:ByteArray) (n:Nat) (w:World) (hs:s.size<=100000) (h4 : 4<=s.size) (h0:((s[0].toNat:Int) != 165)=false) (hn:s[1].toNat=n) (h1:n<=44) (h5 : 4+n<=s.size) (hsp:span s.data.toList=4+n) (hT:s[2].toNat≠1) (h3:¬ (s[2].toNat=3/\n=1)) :
  Calls prog 85 #[.string s] w (AtPost s w):=by
 obtain ⟨G,hG⟩:∃ G:Fr,G=⟨s[2].toNat,[],0⟩:=⟨_,rfl⟩;have hGR:guessR (s.extract 0 (4+n)).data.toList=G:=by rw[guessR_of h5,if_neg hT,if_neg h3,hG]
 have hFG:=front_guessR h5 hsp;rw[hGR] at hFG;have HFG:Hid (front s.data.toList=if fault G=0/\enc G=(s.extract 0 (4+n)).data.toList then some G else none):=hFG;have HGG:Hid (G=⟨s[2].toNat,[],0⟩):=hG;have HN:Hid (s[1].toNat=n):=hn;have hnI:(s[1].toNat:Int)=n:=by omega
 have a0:(0:Int)<s.size:=by omega
 have a1:(1:Int)<s.size:=by omega
 have a2:(2:Int)<s.size:=by omega
 have a4:decide ((s.size:Int)<4)=false:=by simp;omega
 have b1:decide ((44:Int)<n)=false:=by simp;omega
 have b5:decide ((s.size:Int)<4+n)=false:=by simp;omega
 have b5' : 4+(n:Int)<=s.size:=by omega
 have b5'' : 3+(n:Int)<=s.size:=by omega
 have hT1:((s[2].toNat:Int) == 1)=false:=by simp;omega
 have hx:=s[2].toNat_lt
 have h3a:((s[2].toNat:Int) == 3)=false\/(((s[2].toNat:Int) == 3)=true/\((n:Int) == 1)=false):=by
  by_cases e:s[2].toNat=3
  ·right;refine ⟨by rw[e];rfl,?_⟩;have:n≠1:=fun h=>h3 ⟨e,h⟩;simp;omega
  ·left;simp;omega
 have HX:Hid ((4:Int)+n=((4+n:Nat):Int)):=by show _ = _;omega
 clear hGR hFG hG hT h3 hn hsp;rcases h3a with h3a | ⟨h3a,h3b⟩
 ·go_enter func85,ntmps85;go_upto_region 13 with fail
  obtain ⟨p,cap,hTl⟩:∃ p cap,Tail ((w.alloc (.cells #[.int .i64 0,.slice none 0 0,.int .i64 0] 93)).alloc (.cells #[.int .i64 (s[2].toNat:Int),.slice none 0 0,.int .i64 0] 93)) w G p cap:=⟨none,0,by rw[HGG.out];exact tail_lit w _ _⟩;generalize (w.alloc (.cells #[.int .i64 0,.slice none 0 0,.int .i64 0] 93)).alloc (.cells #[.int .i64 (s[2].toNat:Int),.slice none 0 0,.int .i64 0] 93)=W at *;obtain ⟨f0,f1,f2,hZ,hRO,hRN,hBW,hWs⟩:=hTl;have HZ:Hid (Zero3 W w.heap.size):=hZ;have HRO:Hid (ReadsOwn W (w.heap.size+2) (.slice p G.rs.length cap) G.rs):=hRO;have HRN:Hid (ReadsOn W p G.rs):=hRN;have HBW:Hid (Below w.heap.size w W):=hBW;clear hZ hRO hRN hBW;have k0:=cell_regrown f0;have k1:=cell_regrown f1;have k2:=cell_regrown f2;by_cases hf:fault G=0
  ·have hok:Hid (Ok G):=fault_zero.1 hf;have hfd:decide ((0:Int)<((fault G:Nat):Int))=false:=(by rw[hf];rfl);have hfe:decide (0<fault G)=false:=(by rw[hf];rfl);have HFL:Hid (fault G=0):=hf;clear hf;by_cases hq:enc G=(s.extract 0 (4+n)).data.toList
   ·have q1:((str (enc G)).toList == (s.extract 0 (4+n)).toList)=true:=(by rw[ByteArray.toList_eq,ByteArray.toList_eq,str_list,hq];simp);have q2:((str (enc G)).toList != (s.extract 0 (4+n)).toList)=false:=(by rw[bne,q1];rfl);have HFS:Hid (front s.data.toList=some G):=(by show _ = _;rw[HFG.out,if_pos ⟨HFL.out,hq⟩]);have HEL:Hid (4+(n:Int)=((enc G).length:Int)):=(by show _ = _;rw[hq,len_list,ext_size h5];omega);clear hq;refine wp_region_quiet_below (by kernel_rfl) (by kernel_rfl) ?_
    repeat (go_big_quiet_step (first | with_reducible exact Calls.regrown_of (ff_any G p cap _ (HRN.out.below (below_regrown _ _ _) (Nat.le_refl _))) | with_reducible exact Calls.regrown_of (fb_any G p cap _ (HRN.out.below (below_regrown _ _ _) (Nat.le_refl _)) hok.out)))
    refine wpQuiet_nil ?_;intro _ hw';obtain ⟨⟨dq,osq⟩,hw''⟩:=hw';subst hw'';clear k0 k1 k2;obtain ⟨V,hV⟩:∃ V,V=Go.Sort.grow (redrawn W dq) osq:=⟨_,rfl⟩;have hbV:Below W.heap.size W V:=(by rw[hV];exact below_regrown _ _ _);show Exit.then _ _ _ _ (Go.Sort.grow (redrawn W dq) osq);rw[<- hV];clear hV;obtain ⟨z0,z1,z2,y0,y1,y2⟩:=HZ.out.keep hbV (by omega);have d0:=keepCell hbV (by show w.heap.size+1<W.heap.size;omega) f0;have d1:=keepCell hbV (by show w.heap.size+1<W.heap.size;omega) f1;have d2:=keepCell hbV (by show w.heap.size+1<W.heap.size;omega) f2;have HB:Hid (Below w.heap.size w V):=HBW.out.trans (hbV.mono (by omega));have HROV:Hid (ReadsOwn V (w.heap.size+2) (.slice p G.rs.length cap) G.rs):=⟨own_keepBelow HRO.out.own hbV (Nat.le_refl _)⟩;clear hbV f0 f1 f2;go_wp2;refine bodyPost_ret (v:=.tuple #[.agg #[.int .i64 G.ty,.slice p G.rs.length cap,.int .i64 G.wm],.int .i64 (4+n)]) (by simp[results,results85,go_sem,z0,z1,z2]) rfl ?_;refine atPost_some HFS.out rfl HEL.out ?_ ?_
    ·exact (((HROV.out.set (by show w.heap.size < _;omega) _).set (by show w.heap.size < _;omega) _).set (by show w.heap.size < _;omega) _).le (by omega)
    ·exact ((HB.out.setCell (Nat.le_refl _) _).setCell (Nat.le_refl _) _).setCell (Nat.le_refl _) _
   ·have q1:((str (enc G)).toList == (s.extract 0 (4+n)).toList)=false:=(by rw[ByteArray.toList_eq,ByteArray.toList_eq,str_list];simpa using hq);have q2:((str (enc G)).toList != (s.extract 0 (4+n)).toList)=true:=(by rw[bne,q1];rfl);have HFS:Hid (front s.data.toList=none):=(by show _ = _;rw[HFG.out,if_neg (fun h=>hq h.2)]);clear hq;refine wp_region_quiet_below (by kernel_rfl) (by kernel_rfl) ?_
    repeat (go_big_quiet_step (first | with_reducible exact Calls.regrown_of (ff_any G p cap _ (HRN.out.below (below_regrown _ _ _) (Nat.le_refl _))) | with_reducible exact Calls.regrown_of (fb_any G p cap _ (HRN.out.below (below_regrown _ _ _) (Nat.le_refl _)) hok.out)))
    refine wpQuiet_nil ?_;intro _ hw';obtain ⟨⟨dq,osq⟩,hw''⟩:=hw';subst hw'';clear k0 k1 k2;obtain ⟨V,hV⟩:∃ V,V=Go.Sort.grow (redrawn W dq) osq:=⟨_,rfl⟩;have hbV:Below W.heap.size W V:=(by rw[hV];exact below_regrown _ _ _);show Exit.then _ _ _ _ (Go.Sort.grow (redrawn W dq) osq);rw[<- hV];clear hV;obtain ⟨z0,z1,z2,y0,y1,y2⟩:=HZ.out.keep hbV (by omega);have HB:Hid (Below w.heap.size w V):=HBW.out.trans (hbV.mono (by omega));clear hbV f0 f1 f2;go_wp2;refine bodyPost_ret (v:=.tuple #[.agg #[.int .i64 0,.slice none 0 0,.int .i64 0],.int .i64 0]) (by simp[results,results85,go_sem,z0,z1,z2]) rfl ?_;exact atPost_none HFS.out rfl (((HB.out.setCell (Nat.le_refl _) _).setCell (Nat.le_refl _) _).setCell (Nat.le_refl _) _)
  ·have hfd:decide ((0:Int)<((fault G:Nat):Int))=true:=(by simp;omega);have hfe:decide (0<fault G)=true:=(by simp;omega);have HFS:Hid (front s.data.toList=none):=(by show _ = _;rw[HFG.out,if_neg (fun h=>hf h.1)]);clear hf;refine wp_region_quiet_below (by kernel_rfl) (by kernel_rfl) ?_
   repeat (go_big_quiet_step (with_reducible exact Calls.regrown_of (ff_any G p cap _ (HRN.out.below (below_regrown _ _ _) (Nat.le_refl _)))))
   refine wpQuiet_nil ?_;intro _ hw';obtain ⟨⟨dq,osq⟩,hw''⟩:=hw';subst hw'';clear k0 k1 k2;obtain ⟨V,hV⟩:∃ V,V=Go.Sort.grow (redrawn W dq) osq:=⟨_,rfl⟩;have hbV:Below W.heap.size W V:=(by rw[hV];exact below_regrown _ _ _);show Exit.then _ _ _ _ (Go.Sort.grow (redrawn W dq) osq);rw[<- hV];clear hV;obtain ⟨z0,z1,z2,y0,y1,y2⟩:=HZ.out.keep hbV (by omega);have HB:Hid (Below w.heap.size w V):=HBW.out.trans (hbV.mono (by omega));clear hbV f0 f1 f2;go_wp2;refine bodyPost_ret (v:=.tuple #[.agg #[.int .i64 0,.slice none 0 0,.int .i64 0],.int .i64 0]) (by simp[results,results85,go_sem,z0,z1,z2]) rfl ?_;exact atPost_none HFS.out rfl (((HB.out.setCell (Nat.le_refl _) _).setCell (Nat.le_refl _) _).setCell (Nat.le_refl _) _)
 ·go_enter func85,ntmps85;go_upto_region 13 with fail
  obtain ⟨p,cap,hTl⟩:∃ p cap,Tail ((w.alloc (.cells #[.int .i64 0,.slice none 0 0,.int .i64 0] 93)).alloc (.cells #[.int .i64 (s[2].toNat:Int),.slice none 0 0,.int .i64 0] 93)) w G p cap:=⟨none,0,by rw[HGG.out];exact tail_lit w _ _⟩;generalize (w.alloc (.cells #[.int .i64 0,.slice none 0 0,.int .i64 0] 93)).alloc (.cells #[.int .i64 (s[2].toNat:Int),.slice none 0 0,.int .i64 0] 93)=W at *;obtain ⟨f0,f1,f2,hZ,hRO,hRN,hBW,hWs⟩:=hTl;have HZ:Hid (Zero3 W w.heap.size):=hZ;have HRO:Hid (ReadsOwn W (w.heap.size+2) (.slice p G.rs.length cap) G.rs):=hRO;have HRN:Hid (ReadsOn W p G.rs):=hRN;have HBW:Hid (Below w.heap.size w W):=hBW;clear hZ hRO hRN hBW;have k0:=cell_regrown f0;have k1:=cell_regrown f1;have k2:=cell_regrown f2;by_cases hf:fault G=0
  ·have hok:Hid (Ok G):=fault_zero.1 hf;have hfd:decide ((0:Int)<((fault G:Nat):Int))=false:=(by rw[hf];rfl);have hfe:decide (0<fault G)=false:=(by rw[hf];rfl);have HFL:Hid (fault G=0):=hf;clear hf;by_cases hq:enc G=(s.extract 0 (4+n)).data.toList
   ·have q1:((str (enc G)).toList == (s.extract 0 (4+n)).toList)=true:=(by rw[ByteArray.toList_eq,ByteArray.toList_eq,str_list,hq];simp);have q2:((str (enc G)).toList != (s.extract 0 (4+n)).toList)=false:=(by rw[bne,q1];rfl);have HFS:Hid (front s.data.toList=some G):=(by show _ = _;rw[HFG.out,if_pos ⟨HFL.out,hq⟩]);have HEL:Hid (4+(n:Int)=((enc G).length:Int)):=(by show _ = _;rw[hq,len_list,ext_size h5];omega);clear hq;refine wp_region_quiet_below (by kernel_rfl) (by kernel_rfl) ?_
    repeat (go_big_quiet_step (first | with_reducible exact Calls.regrown_of (ff_any G p cap _ (HRN.out.below (below_regrown _ _ _) (Nat.le_refl _))) | with_reducible exact Calls.regrown_of (fb_any G p cap _ (HRN.out.below (below_regrown _ _ _) (Nat.le_refl _)) hok.out)))
    refine wpQuiet_nil ?_;intro _ hw';obtain ⟨⟨dq,osq⟩,hw''⟩:=hw';subst hw'';clear k0 k1 k2;obtain ⟨V,hV⟩:∃ V,V=Go.Sort.grow (redrawn W dq) osq:=⟨_,rfl⟩;have hbV:Below W.heap.size W V:=(by rw[hV];exact below_regrown _ _ _);show Exit.then _ _ _ _ (Go.Sort.grow (redrawn W dq) osq);rw[<- hV];clear hV;obtain ⟨z0,z1,z2,y0,y1,y2⟩:=HZ.out.keep hbV (by omega);have d0:=keepCell hbV (by show w.heap.size+1<W.heap.size;omega) f0;have d1:=keepCell hbV (by show w.heap.size+1<W.heap.size;omega) f1;have d2:=keepCell hbV (by show w.heap.size+1<W.heap.size;omega) f2;have HB:Hid (Below w.heap.size w V):=HBW.out.trans (hbV.mono (by omega));have HROV:Hid (ReadsOwn V (w.heap.size+2) (.slice p G.rs.length cap) G.rs):=⟨own_keepBelow HRO.out.own hbV (Nat.le_refl _)⟩;clear hbV f0 f1 f2;go_wp2;refine bodyPost_ret (v:=.tuple #[.agg #[.int .i64 G.ty,.slice p G.rs.length cap,.int .i64 G.wm],.int .i64 (4+n)]) (by simp[results,results85,go_sem,z0,z1,z2]) rfl ?_;refine atPost_some HFS.out rfl HEL.out ?_ ?_
    ·exact (((HROV.out.set (by show w.heap.size < _;omega) _).set (by show w.heap.size < _;omega) _).set (by show w.heap.size < _;omega) _).le (by omega)
    ·exact ((HB.out.setCell (Nat.le_refl _) _).setCell (Nat.le_refl _) _).setCell (Nat.le_refl _) _
   ·have q1:((str (enc G)).toList == (s.extract 0 (4+n)).toList)=false:=(by rw[ByteArray.toList_eq,ByteArray.toList_eq,str_list];simpa using hq);have q2:((str (enc G)).toList != (s.extract 0 (4+n)).toList)=true:=(by rw[bne,q1];rfl);have HFS:Hid (front s.data.toList=none):=(by show _ = _;rw[HFG.out,if_neg (fun h=>hq h.2)]);clear hq;refine wp_region_quiet_below (by kernel_rfl) (by kernel_rfl) ?_
    repeat (go_big_quiet_step (first | with_reducible exact Calls.regrown_of (ff_any G p cap _ (HRN.out.below (below_regrown _ _ _) (Nat.le_refl _))) | with_reducible exact Calls.regrown_of (fb_any G p cap _ (HRN.out.below (below_regrown _ _ _) (Nat.le_refl _)) hok.out)))
    refine wpQuiet_nil ?_;intro _ hw';obtain ⟨⟨dq,osq⟩,hw''⟩:=hw';subst hw'';clear k0 k1 k2;obtain ⟨V,hV⟩:∃ V,V=Go.Sort.grow (redrawn W dq) osq:=⟨_,rfl⟩;have hbV:Below W.heap.size W V:=(by rw[hV];exact below_regrown _ _ _);show Exit.then _ _ _ _ (Go.Sort.grow (redrawn W dq) osq);rw[<- hV];clear hV;obtain ⟨z0,z1,z2,y0,y1,y2⟩:=HZ.out.keep hbV (by omega);have HB:Hid (Below w.heap.size w V):=HBW.out.trans (hbV.mono (by omega));clear hbV f0 f1 f2;go_wp2;refine bodyPost_ret (v:=.tuple #[.agg #[.int .i64 0,.slice none 0 0,.int .i64 0],.int .i64 0]) (by simp[results,results85,go_sem,z0,z1,z2]) rfl ?_;exact atPost_none HFS.out rfl (((HB.out.setCell (Nat.le_refl _) _).setCell (Nat.le_refl _) _).setCell (Nat.le_refl _) _)
  ·have hfd:decide ((0:Int)<((fault G:Nat):Int))=true:=(by simp;omega);have hfe:decide (0<fault G)=true:=(by simp;omega);have HFS:Hid (front s.data.toList=none):=(by show _ = _;rw[HFG.out,if_neg (fun h=>hf h.1)]);clear hf;refine wp_region_quiet_below (by kernel_rfl) (by kernel_rfl) ?_
   repeat (go_big_quiet_step (with_reducible exact Calls.regrown_of (ff_any G p cap _ (HRN.out.below (below_regrown _ _ _) (Nat.le_refl _)))))
   refine wpQuiet_nil ?_;intro _ hw';obtain ⟨⟨dq,osq⟩,hw''⟩:=hw';subst hw'';clear k0 k1 k2;obtain ⟨V,hV⟩:∃ V,V=Go.Sort.grow (redrawn W dq) osq:=⟨_,rfl⟩;have hbV:Below W.heap.size W V:=(by rw[hV];exact below_regrown _ _ _);show Exit.then _ _ _ _ (Go.Sort.grow (redrawn W dq) osq);rw[<- hV];clear hV;obtain ⟨z0,z1,z2,y0,y1,y2⟩:=HZ.out.keep hbV (by omega);have HB:Hid (Below w.heap.size w V):=HBW.out.trans (hbV.mono (by omega));clear hbV f0 f1 f2;go_wp2;refine bodyPost_ret (v:=.tuple #[.agg #[.int .i64 0,.slice none 0 0,.int .i64 0],.int .i64 0]) (by simp[results,results85,go_sem,z0,z1,z2]) rfl ?_;exact atPost_none HFS.out rfl (((HB.out.setCell (Nat.le_refl _) _).setCell (Nat.le_refl _) _).setCell (Nat.le_refl _) _)
theorem fa_warm (s:ByteArray) (n:Nat) (w:World) (hs:s.size<=100000) (h4 : 4<=s.size) (h0:((s[0].toNat:Int) != 165)=false) (hn:s[1].toNat=n) (h1:n<=44) (h5 : 4+n<=s.size) (hsp:span s.data.toList=4+n) (hT:s[2].toNat=3) (h3:n=1) :
  Calls prog 85 #[.string s] w (AtPost s w):=by
 have hXs : 0<(s.extract 3 (3+n)).size:=by rw[ByteArray.size_extract];omega
 obtain ⟨x,hx⟩:∃ x:Int,x=((s.extract 3 (3+n))[0].toNat:Int):=⟨_,rfl⟩;obtain ⟨G,hG⟩:∃ G:Fr,G=⟨3,[],x⟩:=⟨_,rfl⟩;have hGR:guessR (s.extract 0 (4+n)).data.toList=G:=by rw[guessR_of h5,if_neg (by omega),if_pos ⟨hT,h3⟩,hG,hT,hx,<- byte_at hXs,ext_byte h5 (by omega),extract_list,List.getD_eq_getElem?_getD,List.getElem?_take_of_lt (by omega),List.getElem?_drop,<- byte_at (by omega),List.getD_eq_getElem?_getD];rfl
 have hFG:=front_guessR h5 hsp;rw[hGR] at hFG;have HFG:Hid (front s.data.toList=if fault G=0/\enc G=(s.extract 0 (4+n)).data.toList then some G else none):=hFG;have HGG:Hid (G=⟨3,[],x⟩):=hG;have Hx:Hid (x=((s.extract 3 (3+n))[0].toNat:Int)):=hx;have HXs:Hid (0<(s.extract 3 (3+n)).size):=hXs;have hnI:(s[1].toNat:Int)=n:=by omega
 have a0:(0:Int)<s.size:=by omega
 have a1:(1:Int)<s.size:=by omega
 have a2:(2:Int)<s.size:=by omega
 have a4:decide ((s.size:Int)<4)=false:=by simp;omega
 have b1:decide ((44:Int)<n)=false:=by simp;omega
 have b5:decide ((s.size:Int)<4+n)=false:=by simp;omega
 have b5' : 4+(n:Int)<=s.size:=by omega
 have b5'' : 3+(n:Int)<=s.size:=by omega
 have hTI:(s[2].toNat:Int)=3:=by omega
 have hn1:((n:Int) == 1)=true:=by simp;omega
 clear hGR hFG hG hT h3 hn hsp hx;go_enter func85,ntmps85;go_upto_region 12 with fail
 obtain ⟨X,hX⟩:∃ X,X=s.extract 3 (3+n):=⟨_,rfl⟩;have hX0 : 0<X.size:=by rw[hX];exact HXs.out
 have hX0I:(0:Int)<X.size:=by omega
 have HxX:Hid (x=(X[0].toNat:Int)):=by subst hX;exact Hx.out
 have hXl:=X[0].toNat_lt;rw[<- hX];clear hX;go_upto_region 13 with fail
 rw[<- HxX.out];obtain ⟨p,cap,hTl⟩:∃ p cap,Tail ((w.alloc (.cells #[.int .i64 0,.slice none 0 0,.int .i64 0] 93)).alloc (.cells #[.int .i64 3,.slice none 0 0,.int .i64 x] 93)) w G p cap:=⟨none,0,by rw[HGG.out];exact tail_lit w _ _⟩;generalize (w.alloc (.cells #[.int .i64 0,.slice none 0 0,.int .i64 0] 93)).alloc (.cells #[.int .i64 3,.slice none 0 0,.int .i64 x] 93)=W at *;obtain ⟨f0,f1,f2,hZ,hRO,hRN,hBW,hWs⟩:=hTl;have HZ:Hid (Zero3 W w.heap.size):=hZ;have HRO:Hid (ReadsOwn W (w.heap.size+2) (.slice p G.rs.length cap) G.rs):=hRO;have HRN:Hid (ReadsOn W p G.rs):=hRN;have HBW:Hid (Below w.heap.size w W):=hBW;clear hZ hRO hRN hBW;have k0:=cell_regrown f0;have k1:=cell_regrown f1;have k2:=cell_regrown f2;by_cases hf:fault G=0
 ·have hok:Hid (Ok G):=fault_zero.1 hf;have hfd:decide ((0:Int)<((fault G:Nat):Int))=false:=by rw[hf];rfl
  have hfe:decide (0<fault G)=false:=by rw[hf];rfl
  have HFL:Hid (fault G=0):=hf;clear hf;by_cases hq:enc G=(s.extract 0 (4+n)).data.toList
  ·have q1:((str (enc G)).toList == (s.extract 0 (4+n)).toList)=true:=(by rw[ByteArray.toList_eq,ByteArray.toList_eq,str_list,hq];simp);have q2:((str (enc G)).toList != (s.extract 0 (4+n)).toList)=false:=(by rw[bne,q1];rfl);have HFS:Hid (front s.data.toList=some G):=(by show _ = _;rw[HFG.out,if_pos ⟨HFL.out,hq⟩]);have HEL:Hid (4+(n:Int)=((enc G).length:Int)):=(by show _ = _;rw[hq,len_list,ext_size h5];omega);clear hq;refine wp_region_quiet_below (by kernel_rfl) (by kernel_rfl) ?_
   repeat (go_big_quiet_step (first | with_reducible exact Calls.regrown_of (ff_any G p cap _ (HRN.out.below (below_regrown _ _ _) (Nat.le_refl _))) | with_reducible exact Calls.regrown_of (fb_any G p cap _ (HRN.out.below (below_regrown _ _ _) (Nat.le_refl _)) hok.out)))
   refine wpQuiet_nil ?_;intro _ hw';obtain ⟨⟨dq,osq⟩,hw''⟩:=hw';subst hw'';clear k0 k1 k2;obtain ⟨V,hV⟩:∃ V,V=Go.Sort.grow (redrawn W dq) osq:=⟨_,rfl⟩;have hbV:Below W.heap.size W V:=(by rw[hV];exact below_regrown _ _ _);show Exit.then _ _ _ _ (Go.Sort.grow (redrawn W dq) osq);rw[<- hV];clear hV;obtain ⟨z0,z1,z2,y0,y1,y2⟩:=HZ.out.keep hbV (by omega);have d0:=keepCell hbV (by show w.heap.size+1<W.heap.size;omega) f0;have d1:=keepCell hbV (by show w.heap.size+1<W.heap.size;omega) f1;have d2:=keepCell hbV (by show w.heap.size+1<W.heap.size;omega) f2;have HB:Hid (Below w.heap.size w V):=HBW.out.trans (hbV.mono (by omega));have HROV:Hid (ReadsOwn V (w.heap.size+2) (.slice p G.rs.length cap) G.rs):=⟨own_keepBelow HRO.out.own hbV (Nat.le_refl _)⟩;clear hbV f0 f1 f2;go_wp2;refine bodyPost_ret (v:=.tuple #[.agg #[.int .i64 G.ty,.slice p G.rs.length cap,.int .i64 G.wm],.int .i64 (4+n)]) (by simp[results,results85,go_sem,z0,z1,z2]) rfl ?_;refine atPost_some HFS.out rfl HEL.out ?_ ?_
   ·exact (((HROV.out.set (by show w.heap.size < _;omega) _).set (by show w.heap.size < _;omega) _).set (by show w.heap.size < _;omega) _).le (by omega)
   ·exact ((HB.out.setCell (Nat.le_refl _) _).setCell (Nat.le_refl _) _).setCell (Nat.le_refl _) _
  ·have q1:((str (enc G)).toList == (s.extract 0 (4+n)).toList)=false:=(by rw[ByteArray.toList_eq,ByteArray.toList_eq,str_list];simpa using hq);have q2:((str (enc G)).toList != (s.extract 0 (4+n)).toList)=true:=(by rw[bne,q1];rfl);have HFS:Hid (front s.data.toList=none):=(by show _ = _;rw[HFG.out,if_neg (fun h=>hq h.2)]);clear hq;refine wp_region_quiet_below (by kernel_rfl) (by kernel_rfl) ?_
   repeat (go_big_quiet_step (first | with_reducible exact Calls.regrown_of (ff_any G p cap _ (HRN.out.below (below_regrown _ _ _) (Nat.le_refl _))) | with_reducible exact Calls.regrown_of (fb_any G p cap _ (HRN.out.below (below_regrown _ _ _) (Nat.le_refl _)) hok.out)))
   refine wpQuiet_nil ?_;intro _ hw';obtain ⟨⟨dq,osq⟩,hw''⟩:=hw';subst hw'';clear k0 k1 k2;obtain ⟨V,hV⟩:∃ V,V=Go.Sort.grow (redrawn W dq) osq:=⟨_,rfl⟩;have hbV:Below W.heap.size W V:=(by rw[hV];exact below_regrown _ _ _);show Exit.then _ _ _ _ (Go.Sort.grow (redrawn W dq) osq);rw[<- hV];clear hV;obtain ⟨z0,z1,z2,y0,y1,y2⟩:=HZ.out.keep hbV (by omega);have HB:Hid (Below w.heap.size w V):=HBW.out.trans (hbV.mono (by omega));clear hbV f0 f1 f2;go_wp2;refine bodyPost_ret (v:=.tuple #[.agg #[.int .i64 0,.slice none 0 0,.int .i64 0],.int .i64 0]) (by simp[results,results85,go_sem,z0,z1,z2]) rfl ?_;exact atPost_none HFS.out rfl (((HB.out.setCell (Nat.le_refl _) _).setCell (Nat.le_refl _) _).setCell (Nat.le_refl _) _)
 ·have hfd:decide ((0:Int)<((fault G:Nat):Int))=true:=by simp;omega
  have hfe:decide (0<fault G)=true:=by simp;omega
  have HFS:Hid (front s.data.toList=none):=by show _ = _;rw[HFG.out,if_neg (fun h=>hf h.1)]
  clear hf;refine wp_region_quiet_below (by kernel_rfl) (by kernel_rfl) ?_
  repeat (go_big_quiet_step (with_reducible exact Calls.regrown_of (ff_any G p cap _ (HRN.out.below (below_regrown _ _ _) (Nat.le_refl _)))))
  refine wpQuiet_nil ?_;intro _ hw';obtain ⟨⟨dq,osq⟩,hw''⟩:=hw';subst hw'';clear k0 k1 k2;obtain ⟨V,hV⟩:∃ V,V=Go.Sort.grow (redrawn W dq) osq:=⟨_,rfl⟩;have hbV:Below W.heap.size W V:=by rw[hV];exact below_regrown _ _ _
  show Exit.then _ _ _ _ (Go.Sort.grow (redrawn W dq) osq);rw[<- hV];clear hV;obtain ⟨z0,z1,z2,y0,y1,y2⟩:=HZ.out.keep hbV (by omega);have HB:Hid (Below w.heap.size w V):=HBW.out.trans (hbV.mono (by omega));clear hbV f0 f1 f2;go_wp2;refine bodyPost_ret (v:=.tuple #[.agg #[.int .i64 0,.slice none 0 0,.int .i64 0],.int .i64 0]) (by simp[results,results85,go_sem,z0,z1,z2]) rfl ?_;exact atPost_none HFS.out rfl (((HB.out.setCell (Nat.le_refl _) _).setCell (Nat.le_refl _) _).setCell (Nat.le_refl _) _)
end FrmA
end Go.Proofs.YtmolafjalaeoaaaGreatDoor
