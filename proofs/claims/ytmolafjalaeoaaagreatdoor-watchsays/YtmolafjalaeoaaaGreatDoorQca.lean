/-
  RefH WfA WfB WeH
-/
import Derived.Test.YtmolafjalaeoaaaGreatDoorQbz
import Derived.Great.BuildSlice
import Derived.Deep.WholeRow
set_option maxRecDepth 100000
set_option maxHeartbeats 8000000
namespace Go.Proofs.YtmolafjalaeoaaaGreatDoor
open Go.Proofs.Tryz
namespace TagA
open Go.RowKit TagM
structure BitsAt (V:World) (base:Nat) (v:Value) (X L:Nat):Prop where
 own:V.ownsRow base 4 1 v L ((bitsL X L).map Value.bool)
theorem bits_at (v:Value) (X L N m base:Nat) (NI mI:Int) (w:World) (hNI:Hid (NI=N)) (hmI:Hid (mI=m)) (hown:BitsAt w base v X L) (hb:base<=w.heap.size) (hL:L<=64) (hm:m<=24) (hN:N<2 ^ m) :
  Calls prog 64 #[v,.int .i64 NI,.int .i64 mI] w fun e w'=>∃ v',e = .returned v'/\BitsAt w' base v' (pk X m N) (L+m)/\Below base w w':=by
 rw[hNI.out,hmI.out];refine (bits_any v X L N m base w hown.own hb hL hm hN).mono ?_;rintro e w' ⟨v',h1,h2,h3⟩;exact ⟨v',h1,⟨h2⟩,h3⟩
theorem rbW {w w1:World} {K F P C R S:Int} {k:Nat} (hb1:Below (w.alloc (.cells #[.int .i64 K,.int .i64 F,.int .i64 P,.int .i64 C,.int .i64 R,.int .i64 S] 80)).heap.size (w.alloc (.cells #[.int .i64 K,.int .i64 F,.int .i64 P,.int .i64 C,.int .i64 R,.int .i64 S] 80)) w1) {W:World}
  (hW:W=w1.alloc (.cells #[.int .i64 (cbits k),.int .i64 (cdig k),.int .i64 (rbits k),.int .i64 (rdig k)] 22)) :
  Below w.heap.size w W/\w.heap.size<W.heap.size/\w1.heap.size<W.heap.size/\W.cell? ⟨w.heap.size,0,none⟩=some (.int .i64 K)/\W.cell? ⟨w.heap.size,1,none⟩=some (.int .i64 F)/\W.cell? ⟨w.heap.size,2,none⟩=some (.int .i64 P)/\W.cell? ⟨w.heap.size,3,none⟩=some (.int .i64 C)/\W.cell? ⟨w.heap.size,4,none⟩=some (.int .i64 R)/\W.cell? ⟨w.heap.size,5,none⟩=some (.int .i64 S)/\W.cell? ⟨w1.heap.size,0,none⟩=some (.int .i64 (cbits k))/\W.cell? ⟨w1.heap.size,2,none⟩=some (.int .i64 (rbits k)):=by
 subst hW;obtain ⟨s1,hb2,d0,d1,d2,d3,d4,d5⟩:=boxed6 hb1;have hB:=(Below.refl w1.heap.size w1).alloc (Nat.le_refl _) (.cells #[.int .i64 (cbits k),.int .i64 (cdig k),.int .i64 (rbits k),.int .i64 (rdig k)] 22);exact ⟨hb2.trans (hB.mono (Nat.le_of_lt s1)),by simp;omega,by simp,keepCell hB d0,keepCell hB d1,keepCell hB d2,keepCell hB d3,keepCell hB d4,keepCell hB d5,by go_simp,by go_simp⟩
theorem BitsAt.cells {V:World} {base:Nat} {v:Value} {X:Nat} (h:BitsAt V base v X 64):∃ g cap,v = .slice (some ⟨g,0,none⟩) 64 cap/\base<=g/\g<V.heap.size/\∀ j,j<64->V.cell? ⟨g,j,none⟩=some (.bool (decide (X/2 ^ (63-j)%2=1))):=by
 obtain ⟨g,cap,rfl,h1,h2⟩:=h.own.form (by omega);refine ⟨g,cap,rfl,h1,h2,fun j hj=>?_⟩;have:=h.own.cells (g:=g) rfl j (.bool (decide (X/2 ^ (63-j)%2=1))) (by rw[List.getElem?_map,bitsL_at 64 X j hj];rfl);have e:(⟨g,0,none⟩:Addr).add j=⟨g,j,none⟩:=by unfold Addr.add;split<;>simp_all
 rw[<- e];exact this
structure BytesAt (V:World) (base:Nat) (v:Value) (X t:Nat):Prop where
 own:V.ownsRow base 5 1 v t ((List.range t).map fun i=>.int .u8 ((byt X i:Nat):Int))
theorem BytesAt.nil (V:World) (base X:Nat):BytesAt V base (.slice none 0 0) X 0:=⟨World.ownsRow_nil _ _ _ _⟩
theorem BytesAt.cell {V:World} {base g cap:Nat} {X:Nat} (h:BytesAt V base (.slice (some ⟨g,0,none⟩) 8 cap) X 8) (j:Nat) (hj:j<8):V.cell? ⟨g,j,none⟩=some (.int .u8 ((bytNums X).getD j 0)):=by
 have:=h.own.cells (g:=g) rfl j (.int .u8 ((byt X j:Nat):Int)) (by rw[List.getElem?_map,List.getElem?_range hj];rfl);have e:(⟨g,0,none⟩:Addr).add j=⟨g,j,none⟩:=by unfold Addr.add;split<;>simp_all
 rw[<- e,this]
 match j,hj with
 | 0,_ | 1,_ | 2,_ | 3,_ | 4,_ | 5,_ | 6,_ | 7,_=>rfl
theorem info5:(prog.info? 5).map (fun i=>(i.zero,i.size,i.bytes))=some (some (.int .u8 0),1,1):=by kernel_rfl
theorem byt_fld (X t:Nat) (h:t<8):fld X (64-8*t-8) 8=byt X t:=by unfold fld byt;rw[show 64-8*t-8=56-8*t by omega]
theorem fld_bit (X p k:Nat) (hp:k+1<=p):fld X (p-(k+1)) (k+1)=2*fld X (p-k) k+X/2 ^ (p-(k+1))%2:=by rw[fld_succ,show p-(k+1)+1=p-k by omega]
theorem refbytes_any (K F k C R S:Nat) (w:World) (hok:okB K F k C R S=true) :
  Calls prog 27 #[.agg #[.int .i64 K,.int .i64 F,.int .i64 k,.int .i64 C,.int .i64 R,.int .i64 S]] w fun e w'=>e = .returned (.string (be8 (num K F k C R S)))/\Below w.heap.size w w':=by
 obtain ⟨o1,o2,o3,o4,o5,o6,o7⟩:=okN hok;have HC:Hid (C<2 ^ cbits k):=Nat.lt_of_lt_of_le o6 (cpow o4);have HR:Hid (R<2 ^ rbits k):=Nat.lt_of_lt_of_le o7 (rpow o4);have hcb:=cbits_le k;have hrb:=rbits_le k;have HS:Hid _:=bits_sum k;have hKI:(K:Int)<=3:=by omega
 have hk6:k<6:=by omega
 obtain ⟨X,hX⟩:∃ X,X=num K F k C R S:=⟨_,rfl⟩;have HX:Hid (X=num K F k C R S):=hX;rw[<- hX];clear hok o6 o7 hX;obtain ⟨i0,hi,hz0,hz1,hz2⟩:=info_parts info5;go_enter func27,ntmps27;go_wp2_with fail;refine (parts_ok k _ hk6).mono ?_;rintro e w1 ⟨rfl,hb1⟩;have hF:=rbW (k:=k) hb1 rfl;obtain ⟨s1,hb2,d0,d1,d2,d3,d4,d5⟩:=boxed6 hb1;clear hb1 hb2;go_upto_region 2 with fail;clear d0 d1 d2 d3 d4 d5;generalize w1.alloc (.cells #[.int .i64 (cbits k),.int .i64 (cdig k),.int .i64 (rbits k),.int .i64 (rdig k)] 22)=W at *;obtain ⟨hBW,z1,z2,c0,c1,c2,c3,c4,c5,p0,p2⟩:=hF;have HB:Hid (Below w.heap.size w W):=hBW;clear hBW;go_wp2_with fail;refine (bits_at _ 0 0 (K+47) 8 W.heap.size _ _ _ (by show _ = _;omega) rfl ⟨World.ownsRow_nil _ _ _ _⟩ (Nat.le_refl _) (by omega) (by omega) (by omega)).mono ?_;rintro e V1 ⟨v1,rfl,hO,hV⟩;have HO1:Hid (BitsAt V1 W.heap.size v1 _ _):=hO;have HV1:Hid (Below W.heap.size W V1):=hV;have c11:=keepCell HV1.out c1;have c21:=keepCell HV1.out c2;have c31:=keepCell HV1.out c3;have c41:=keepCell HV1.out c4;have c51:=keepCell HV1.out c5;have p01:=keepCell HV1.out p0;have p21:=keepCell HV1.out p2;clear c0 hO hV;go_wp2_with fail;refine (bits_at _ (pk 0 8 (K+47)) (0+8) F 3 W.heap.size _ _ _ rfl rfl HO1.out HV1.out.size (by omega) (by omega) (by omega)).mono ?_;rintro e V2 ⟨v2,rfl,hO,hV⟩;have HO2:Hid (BitsAt V2 W.heap.size v2 _ _):=hO;have HV2:Hid (Below W.heap.size W V2):=HV1.out.trans hV;have c12:=keepCell HV2.out c1;have c22:=keepCell HV2.out c2;have c32:=keepCell HV2.out c3;have c42:=keepCell HV2.out c4;have c52:=keepCell HV2.out c5;have p02:=keepCell HV2.out p0;have p22:=keepCell HV2.out p2;clear c11 c21 c31 c41 c51 p01 p21 hO hV;go_wp2_with fail;refine (bits_at _ (pk (pk 0 8 (K+47)) 3 F) (0+8+3) k 3 W.heap.size _ _ _ rfl rfl HO2.out HV2.out.size (by omega) (by omega) (by omega)).mono ?_;rintro e V3 ⟨v3,rfl,hO,hV⟩;have HO3:Hid (BitsAt V3 W.heap.size v3 _ _):=hO;have HV3:Hid (Below W.heap.size W V3):=HV2.out.trans hV;have c13:=keepCell HV3.out c1;have c23:=keepCell HV3.out c2;have c33:=keepCell HV3.out c3;have c43:=keepCell HV3.out c4;have c53:=keepCell HV3.out c5;have p03:=keepCell HV3.out p0;have p23:=keepCell HV3.out p2;clear c12 c22 c32 c42 c52 p02 p22 hO hV;go_wp2_with fail;refine (bits_at _ (n3 K F k) (0+8+3+3) C (cbits k) W.heap.size _ _ _ rfl rfl HO3.out HV3.out.size (by omega) (by omega) HC.out).mono ?_;rintro e V4 ⟨v4,rfl,hO,hV⟩;have HO4:Hid (BitsAt V4 W.heap.size v4 _ _):=hO;have HV4:Hid (Below W.heap.size W V4):=HV3.out.trans hV;have c14:=keepCell HV4.out c1;have c24:=keepCell HV4.out c2;have c34:=keepCell HV4.out c3;have c44:=keepCell HV4.out c4;have c54:=keepCell HV4.out c5;have p04:=keepCell HV4.out p0;have p24:=keepCell HV4.out p2;clear c13 c23 c33 c43 c53 p03 p23 hO hV;go_wp2_with fail;refine (bits_at _ (pk (n3 K F k) (cbits k) C) (0+8+3+3+cbits k) R (rbits k) W.heap.size _ _ _ rfl rfl HO4.out HV4.out.size (by omega) (by omega) HR.out).mono ?_;rintro e V5 ⟨v5,rfl,hO,hV⟩;have HO5:Hid (BitsAt V5 W.heap.size v5 _ _):=hO;have HV5:Hid (Below W.heap.size W V5):=HV4.out.trans hV;have c15:=keepCell HV5.out c1;have c25:=keepCell HV5.out c2;have c35:=keepCell HV5.out c3;have c45:=keepCell HV5.out c4;have c55:=keepCell HV5.out c5;have p05:=keepCell HV5.out p0;have p25:=keepCell HV5.out p2;clear c14 c24 c34 c44 c54 p04 p24 hO hV;go_wp2_with fail;refine (bits_at _ (pk (pk (n3 K F k) (cbits k) C) (rbits k) R) (0+8+3+3+cbits k+rbits k) S 24 W.heap.size _ _ _ rfl rfl HO5.out HV5.out.size (by omega) (by omega) (by omega)).mono ?_;rintro e V6 ⟨v6,rfl,hO,hV⟩;have HO6:Hid (BitsAt V6 W.heap.size v6 _ _):=hO;have HV6:Hid (Below W.heap.size W V6):=HV5.out.trans hV;clear c15 c25 c35 c45 c55 p05 p25 hO hV;have hBits:BitsAt V6 W.heap.size v6 X 64:=by have h:=HO6.out;rw[show 0+8+3+3+cbits k+rbits k+24=64 by have:=HS.out;omega] at h;rw[HX.out];exact h
 obtain ⟨g,cap,rfl,hg1,hg2,hg3⟩:=hBits.cells;have HG:Hid (∀ j,j<64->V6.cell? ⟨g,j,none⟩=some (.bool (decide (X/2 ^ (63-j)%2=1)))):=hg3;clear hg3 hBits HO1 HO2 HO3 HO4 HO5 HO6 HV1 HV2 HV3 HV4 HV5 HC HR HS;have hsz6:=HV6.out.size;go_wp2;go_loopw [6,7,8,9] (fun b i _ _ V=>∃ t:Nat,t<=8/\i = .int .i64 t/\BytesAt V V6.heap.size b X t/\Below V6.heap.size V6 V) (fun _ i _ _ _=>8-(intOf i).toNat)
 case atStart=>exact ⟨0,Nat.zero_le _,rfl,BytesAt.nil _ _ _,Below.refl _ _⟩
 case round=>
  obtain ⟨t,ht,rfl,hbs,hbl⟩:=hrel;by_cases hlt:t<8
  ·go_wp2;go_loop [8,9] (fun x i=>∃ s:Nat,s<=8/\i = .int .i64 s/\x = .int .i64 ((fld X (64-8*t-s) s:Nat):Int)) (fun _ i=>8-(intOf i).toNat)
   case atStart=>exact ⟨0,Nat.zero_le _,rfl,by rw[fld_zero];rfl⟩
   case round=>
    obtain ⟨s,hs,rfl,rfl⟩:=hrel;have HBS:Hid (BytesAt wr V6.heap.size u6 X t):=hbs;have HBL:Hid (Below V6.heap.size V6 wr):=hbl;clear hbs hbl;by_cases hls:s<8
    ·have hfs:=fld_bit X (64-8*t) s (by omega);have hfl:fld X (64-8*t-s) s<256:=Nat.lt_of_lt_of_le (fld_lt _ _ _) (Nat.pow_le_pow_right (by omega) (show s<=8 by omega));generalize hY:fld X (64-8*t-s) s=Y at *;have hcell:wr.cell? ⟨g,8*t+s,none⟩=some (.bool (decide (X/2 ^ (63-(8*t+s))%2=1))):=(HBL.out.cell (by exact hg2)).trans (HG.out (8*t+s) (by omega));rw[show 64-8*t-(s+1)=63-(8*t+s) by omega] at hfs;have HFS:Hid _:=hfs;have HY:Hid _:=hY;clear hfs hY;by_cases hbit:X/2 ^ (63-(8*t+s))%2=1
     ·rw[decide_eq_true hbit] at hcell;have HBIT:Hid _:=hbit;clear hbit;go_wp2;go_round
      case rel=>refine ⟨s+1,by omega,by go_num,?_⟩;rw[show 64-8*t-(s+1)=63-(8*t+s) by omega,HFS.out,HBIT.out];go_num
      case measure=>simp[intOf];omega
     ·rw[decide_eq_false hbit] at hcell;have HBIT:Hid (X/2 ^ (63-(8*t+s))%2=0):=(by show _ = _;omega);clear hbit;go_wp2;go_round
      case rel=>refine ⟨s+1,by omega,by go_num,?_⟩;rw[show 64-8*t-(s+1)=63-(8*t+s) by omega,HFS.out,HBIT.out];go_num
      case measure=>simp[intOf];omega
    ·obtain rfl:s=8:=(by omega);rw[byt_fld X t hlt];have hbyt:byt X t<256:=Nat.mod_lt _ (by omega);have ewr:IntKind.u8.wrap ((byt X t:Nat):Int)=((byt X t:Nat):Int):=(by rw[IntKind.wrap_u8'];omega);generalize hZ:byt X t=Z at *;have HZ:Hid _:=hZ;clear hZ;have hown:=HBS.out.own;go_wp2_with (at_builtin;refine wpList_append_own _ rfl _ _ 157 rfl V6.heap.size 5 i0 (.int .u8 0) 1 1 underlying157 hi hz0 hz1 hz2 rfl (by decide) _ _ _ rfl (hown.alloc _) ⟨wr.heap.size,0,none⟩ 1 1 [.int .u8 (Z:Int)] rfl rfl ?q1 ?q2 ?q3 ?q4 ?q5 ?_)
     case q2=>first | rfl | (intro u hu;simp at hu;subst hu;rfl)
     case q3=>unfold maxLen;omega
     case q4=>omega
     case q5=>have:=HBL.out.size;simp;omega
     ·intro v' w3 hown' hgrow _;have hR:BytesAt w3 V6.heap.size v' X (t+1):=(by refine ⟨?_⟩;rw[List.range_succ,List.map_append];rw[<- HZ.out] at hown';exact hown');have hB':Below V6.heap.size V6 w3:=(HBL.out.alloc HBL.out.size _).grown hgrow (by have:=HBL.out.size;simp;omega) (fun k hk=>(hown.lt k hk).1);have HR':Hid (BytesAt w3 V6.heap.size v' X (t+1)):=hR;have HB':Hid (Below V6.heap.size V6 w3):=hB';clear hown' hgrow hown hR hB';go_wp2;go_roundw
      case rel=>exact ⟨t+1,by omega,by go_num,HR'.out,HB'.out⟩
      case measure=>simp[intOf];omega
  ·obtain rfl:t=8:=(by omega);obtain ⟨g8,cap8,rfl,-,-⟩:=hbs.own.form (by omega)
   have hcv:=run_convert_bytes_arg (P:=prog) wr 157 5 underlying157 underlying5 g8 0 8 cap8 (bytNums X) rfl (fun i hi=>by
    rw[Nat.zero_add];exact hbs.cell i hi) 9 underlying9
   have HCV:strOfNums (bytNums X)=be8 X:=rfl;rw[HCV] at hcv;clear HCV;have HBL:Hid (Below V6.heap.size V6 wr):=hbl;clear hbs hbl;go_wp2;go_ret;exact ⟨rfl,(HB.out.trans (HV6.out.mono (Nat.le_of_lt z1))).trans (HBL.out.mono (by have:=HV6.out.size;omega))⟩
end TagA
namespace WfA
open Go.RowKit TkW WaM WaW WaB Go.Maps
open TkM (Sg epOf told whr)
open TkA (wv)
def c0:Cf:=⟨1,0,1,1,1,1,fun _ _=>0⟩
theorem c0_ok:c0.Ok:=⟨by decide,by decide,by decide,by decide,by decide,by decide,by decide,by decide,by decide,by decide,by decide,fun _ _ _ _=>(by decide:(-1:Int)<=0/\(0:Int)<=7)⟩
theorem c0_cfw:cfw (Cf.ci c0) = #[.int .i64 1,.int .i64 0,.int .i64 1,.int .i64 1,.int .i64 1,.int .i64 1,.int .i64 0,.int .i64 0,.int .i64 0,.int .i64 0,.int .i64 0,.int .i64 0,.int .i64 0,.int .i64 0,.int .i64 0,.int .i64 0,.int .i64 0,.int .i64 0,.int .i64 0,.int .i64 0,.int .i64 0,.int .i64 0]:=rfl
def g0:ByteArray:=TagA.be8 (TagA.num 1 0 0 0 0 0)
theorem g0_size:g0.size=8:=rfl
theorem g0_knd:InA.knd g0=1:=by decide +kernel
def f0:FrmM.Fr:=⟨1,[⟨0,0,0,g0⟩],0⟩
theorem f0_ok:FrmM.Ok f0 where
 ty:=by decide
 rs:=fun h=>absurd rfl h
 wm:=fun _=>rfl
 wb:=by decide
 len:=by decide
 all:=fun r hr=>by simp[f0] at hr;subst hr;exact ⟨by decide,by decide,by decide,rfl⟩
theorem f0_feed:FrmM.feed (FrmM.enc f0)=([f0],0,[]):=by have:=FrmM.feed_whole [f0] (fun f hf=>by simp at hf;subst hf;exact f0_ok);simpa using this
def s1:St:=St.zero.feed c0 0 (FrmM.enc f0)
theorem rest0:St.zero.rest 0 = []:=rfl
theorem s1_is:s1=St.read c0 0 (St.zero.line 0 [] 0) ⟨0,0,0,g0⟩:=by unfold s1 St.feed;rw[rest0,List.nil_append,f0_feed];rfl
theorem s1_all:s1.all = [⟨0,0,0,g0⟩]:=by
 rw[s1_is];unfold St.read;rw[if_neg (by show ¬ InA.knd g0=0;rw[g0_knd];decide),if_neg (by decide),if_neg (by intro h;exact absurd h.2 (by decide))];rw[if_neg]
 ·rfl
 ·unfold EpM.addF;rw[if_pos (by unfold EpM.okS;simp[sight,St.zero,St.line,c0,g0_size]),if_neg (by decide)];decide
theorem s1_now:s1.now=0:=by
 rw[s1_is];unfold St.read
 repeat' split
 all_goals rfl
theorem s2_cl:(s1.tick 1).cl c0=1:=by unfold St.cl St.tick;rw[s1_now];rfl
theorem s1_cl:s1.cl c0=0:=by unfold St.cl;rw[s1_now];rfl
theorem s2_ep:Ep c0 (s1.tick 1) 1 = [[⟨0,0,0,g0⟩]]:=by unfold Ep;show [EpM.sorted (EpM.grp 1 s1.all 0)] = _;rw[s1_all];have e:EpM.grp 1 [(⟨0,0,0,g0⟩:Sg)] 0 = [⟨0,0,0,g0⟩]:=rfl;rw[e];simp[EpM.sorted]
theorem s2_told:told g0 (Ep c0 (s1.tick 1) 1)=true:=by rw[s2_ep];decide +kernel
theorem s2_whr:whr g0 (epOf (Ep c0 (s1.tick 1) 1)) 1 1 0=0:=by rw[s2_ep];decide +kernel
theorem s2_wv:wv 1 (told g0 (Ep c0 (s1.tick 1) 1)) 0 (whr g0 (epOf (Ep c0 (s1.tick 1) 1)) c0.W c0.need (0:Int).toNat)=(0,0):=by rw[s2_told];show wv 1 true 0 (whr g0 (epOf (Ep c0 (s1.tick 1) 1)) 1 1 0)=(0,0);rw[s2_whr];rfl
end WfA
namespace WfA
open Go.RowKit TkW WaM WaW WaB Go.Maps
open TkM (Sg epOf told whr)
open TkA (wv)
open WbA (RsIn)
theorem feed0 {V:World} {wb:Nat} {ow:Nat->Nat} (h:WaK V wb ow c0 [] St.zero 0) (hT:TagA.Tabs V) (h0:ow 0=0) :
  Calls prog 16 #[.pointer (some ⟨wb,0,none⟩),.int .i64 0,.string (FrmA.str (FrmM.enc f0))] V fun e w'=>e = .returned (.tuple #[.int .i64 1,.nilIface])/\To V w' wb ow c0 [] s1 0:=by
 have hd:(FrmA.str (FrmM.enc f0)).data.toList=FrmM.enc f0:=by simp[FrmA.str]
 have hs:(FrmA.str (FrmM.enc f0)).size=(FrmM.enc f0).length:=by
  have hb:(FrmA.str (FrmM.enc f0)).data.toList.length=(FrmA.str (FrmM.enc f0)).size:=by simp
  rw[<- hb,hd]
 have hl:(FrmM.enc f0).length<=2000:=by decide
 have:=feed_ok 0 (FrmA.str (FrmM.enc f0)) h hT h0 (WbA.zero_cl c0).symm (by decide) (by rw[hs];exact hl) (by rw[hs];have:St.zero.sum=0:=rfl;omega);rw[hd,rest0,List.nil_append,f0_feed] at this;exact this
theorem tick0 {V:World} {wb:Nat} {ow:Nat->Nat} (h:WaK V wb ow c0 [] s1 0) (hT:TagA.Tabs V) (h0:ow 0=0) :
  Calls prog 14 #[.pointer (some ⟨wb,0,none⟩),.int .i64 1] V fun e w'=>e = .returned (.tuple #[.int .i64 1,.nilIface])/\To V w' wb ow c0 [] (s1.tick 1) 1:=by
 have:=tick_ok 1 h hT h0 s1_cl.symm (by rw[s1_now];decide);rw[s2_cl,s1_cl] at this;exact this
theorem where0 {V:World} {wb:Nat} {ow:Nat->Nat} (h:WaK V wb ow c0 [] (s1.tick 1) 1) :
  Calls prog 29 #[.pointer (some ⟨wb,0,none⟩),.string g0,.int .i64 0] V fun e w'=>e = .returned (.tuple #[.int .i64 0,.nilIface])/\Below V.heap.size V w':=by
 have:=where_any g0 0 h (by rw[g0_size];decide);rw[s2_wv] at this;exact this
theorem frame0 (V:World) :
  Calls prog 28 #[.agg #[.int .i64 1,.slice (some ⟨V.heap.size,0,none⟩) 1 1,.int .i64 0]] (V.alloc (.cells #[.int .i64 0,.int .i64 0,.int .i64 0,.string g0] 90)) fun e w'=>e = .returned (.string (FrmA.str (FrmM.enc f0)))/\Below V.heap.size V w':=by
 refine (FrmA.fb_any f0 (some ⟨V.heap.size,0,none⟩) 1 (V.alloc (.cells #[.int .i64 0,.int .i64 0,.int .i64 0,.string g0] 90)) ⟨fun r hr=>?_,fun _=>⟨_,_,rfl,by simp,fun k r hk=>?_⟩⟩ f0_ok).mono ?_
 ·simp[f0] at hr;subst hr;show g0.size<=_;rw[g0_size];decide
 ·have hn:=Go.heap_alloc_new V (.cells #[.int .i64 0,.int .i64 0,.int .i64 0,.string g0] 90);generalize V.alloc (.cells #[.int .i64 0,.int .i64 0,.int .i64 0,.string g0] 90)=X at hn ⊢
  match k,hk with
  | 0,hk=>
   simp[f0] at hk;subst hk;exact ⟨by simp[World.cell?,hn],by simp[World.cell?,hn],by simp[World.cell?,hn],by simp[World.cell?,hn]⟩
  | k+1,hk=>simp[f0] at hk
 ·rintro e w' ⟨rfl,hb⟩;exact ⟨rfl,((Below.refl _ V).alloc (Nat.le_refl _) _).trans (hb.mono (by simp))⟩
theorem watches_true (w:World) (hT:TagA.Tabs w) :
  Calls prog 7 #[] w fun e w'=>e = .returned (.bool true)/\Below w.heap.size w w':=by
 obtain ⟨C,hC⟩:∃ C,C=cfw (Cf.ci c0):=⟨_,rfl⟩;have HNW:Hid (∀ V:World,Calls prog 10 #[.agg C,.slice none 0 0] V fun e w'=>∃ wb ow,e = .returned (.tuple #[.pointer (some ⟨wb,0,none⟩),.nilIface])/\WaK w' wb ow c0 [] St.zero 0/\(∀ b,ow b≠0->V.heap.size<=b)/\Below V.heap.size V w'):=fun V=>by rw[hC];exact new_ok c0 [] none 0 V c0_ok (Or.inr ⟨by decide,Or.inl ⟨fun j hj=>absurd hj (Nat.not_lt_zero _),rfl⟩⟩) ⟨fun h=>absurd rfl h⟩ (fun _=>⟨rfl,rfl⟩) (Nat.le_refl _) (fun r hr=>by cases hr)
 have hi':(prog.info? 25).map (·.size)=some C.toList.length:=by rw[hC];kernel_rfl
 have hra:(w.alloc (.cells C 25)).rangeAt w.heap.size 0 C.toList:=WbA.range_new (Go.heap_alloc_new w _);have HT:Hid (TagA.Tabs w):=hT;have hCE:C = #[.int .i64 1,.int .i64 0,.int .i64 1,.int .i64 1,.int .i64 1,.int .i64 1,.int .i64 0,.int .i64 0,.int .i64 0,.int .i64 0,.int .i64 0,.int .i64 0,.int .i64 0,.int .i64 0,.int .i64 0,.int .i64 0,.int .i64 0,.int .i64 0,.int .i64 0,.int .i64 0,.int .i64 0,.int .i64 0]:=hC.trans c0_cfw;have HCE:Hid (C = #[.int .i64 1,.int .i64 0,.int .i64 1,.int .i64 1,.int .i64 1,.int .i64 1,.int .i64 0,.int .i64 0,.int .i64 0,.int .i64 0,.int .i64 0,.int .i64 0,.int .i64 0,.int .i64 0,.int .i64 0,.int .i64 0,.int .i64 0,.int .i64 0,.int .i64 0,.int .i64 0,.int .i64 0,.int .i64 0]):=hCE
 have h1c:C.all (·.oneCell')=true:=by
  rw[hCE]
  exact all_oneCell_toArray (cs:=[.int .i64 1,.int .i64 0,.int .i64 1,.int .i64 1,.int .i64 1,.int .i64 1,.int .i64 0,.int .i64 0,.int .i64 0,.int .i64 0,.int .i64 0,.int .i64 0,.int .i64 0,.int .i64 0,.int .i64 0,.int .i64 0,.int .i64 0,.int .i64 0,.int .i64 0,.int .i64 0,.int .i64 0,.int .i64 0]) (fun v hv=>by
   simp at hv;rcases hv with rfl | rfl | rfl | rfl<;>rfl)
 have hsc:C.size=22:=by rw[hCE];rfl
 have hi2:(prog.info? 25).map (·.size)=some C.size:=by rw[hsc];kernel_rfl
 clear hT hC hCE;go_enter func7,ntmps7;go_upto_region 2 with (first | (refine wpList_buildTo rfl 25 _ rfl _ rfl C (by rw[HCE.out];kernel_rfl) ?_) | (refine wpList_store_rowTo rfl 25 (.tmp 1) (.tmp 11) rfl rfl w.heap.size C rfl rfl 25 _ (Go.heap_alloc_new w _) hi2 (by rw[hsc];rfl) h1c ?_))
 rw[World.setRow_alloc_new];go_wp2_with (refine wpList_load_mid rfl 25 (.tmp 1) rfl w.heap.size 0 rfl C.toList _ hra underlying25 rfl hi' ?_);refine (HNW.out _).mono ?_;rintro e w2 ⟨wb,ow,rfl,hwk,how,hb2⟩;have HB2:Hid (Below w.heap.size w w2):=((Below.refl _ w).alloc (Nat.le_refl _) _).trans (hb2.mono (by simp));have HWK:Hid (WaK w2 wb ow c0 [] St.zero 0):=hwk;have HOW:Hid (∀ b,ow b≠0->w.heap.size<=b):=fun b hb=>Nat.le_trans (by simp) (how b hb)
 have hz0:∀ {o:Nat->Nat},(∀ b,o b≠0->w.heap.size<=b)->o 0=0:=fun {o} h=>by
  by_cases hz:o 0=0
  ·exact hz
  ·have:=h 0 hz;have:=HT.out.size;omega
 have HZ0:Hid (∀ {o:Nat->Nat},(∀ b,o b≠0->w.heap.size<=b)->o 0=0):=hz0;have HRB:Hid (∀ V:World,Calls prog 27 #[.agg #[.int .i64 1,.int .i64 0,.int .i64 0,.int .i64 0,.int .i64 0,.int .i64 0]] V fun e w'=>e = .returned (.string g0)/\Below V.heap.size V w'):=fun V=>TagA.refbytes_any 1 0 0 0 0 0 V (by decide);have HFB:Hid (∀ V:World,Calls prog 28 #[.agg #[.int .i64 1,.slice (some ⟨V.heap.size,0,none⟩) 1 1,.int .i64 0]] (V.alloc (.cells #[.int .i64 0,.int .i64 0,.int .i64 0,.string g0] 90)) fun e w'=>e = .returned (.string (FrmA.str (FrmM.enc f0)))/\Below V.heap.size V w'):=frame0;have HFE:Hid (∀ (V:World) (o:Nat->Nat),WaK V wb o c0 [] St.zero 0->TagA.Tabs V->o 0=0->Calls prog 16 #[.pointer (some ⟨wb,0,none⟩),.int .i64 0,.string (FrmA.str (FrmM.enc f0))] V fun e w'=>e = .returned (.tuple #[.int .i64 1,.nilIface])/\To V w' wb o c0 [] s1 0):=fun V o h1 h2 h3=>feed0 h1 h2 h3;have HTI:Hid (∀ (V:World) (o:Nat->Nat),WaK V wb o c0 [] s1 0->TagA.Tabs V->o 0=0->Calls prog 14 #[.pointer (some ⟨wb,0,none⟩),.int .i64 1] V fun e w'=>e = .returned (.tuple #[.int .i64 1,.nilIface])/\To V w' wb o c0 [] (s1.tick 1) 1):=fun V o h1 h2 h3=>tick0 h1 h2 h3;have HWH:Hid (∀ (V:World) (o:Nat->Nat),WaK V wb o c0 [] (s1.tick 1) 1->Calls prog 29 #[.pointer (some ⟨wb,0,none⟩),.string g0,.int .i64 0] V fun e w'=>e = .returned (.tuple #[.int .i64 0,.nilIface])/\Below V.heap.size V w'):=fun V o h1=>where0 h1
 have HNO:Hid (∀ (V:World) (o:Nat->Nat),WaK V wb o c0 [] (s1.tick 1) 1->Calls prog 30 #[.pointer (some ⟨wb,0,none⟩)] V fun e w'=>e = .returned (.int .i64 1)/\w'=V):=fun V o h1=>by
  have:=now_any h1;have e:(s1.tick 1).now=1:=by show s1.now+1=1;rw[s1_now]
  rw[e] at this;exact this
 have HEP:Hid (∀ (V:World) (o:Nat->Nat),WaK V wb o c0 [] (s1.tick 1) 1->Calls prog 25 #[.pointer (some ⟨wb,0,none⟩)] V fun e w'=>e = .returned (.int .i64 1)/\∃ q,w'=V.drewN q):=fun V o h1=>by have:=epochs_any h1;rw[s2_cl] at this;exact this
 generalize FrmA.str (FrmM.enc f0)=E at *;generalize g0=G at *;clear hwk how hb2 hra hi' hi2 h1c hsc HCE HNW hz0;go_wp2_with fail;refine (HRB.out _).mono ?_;rintro e w3 ⟨rfl,hb3⟩;have HB3:Hid (Below w.heap.size w w3):=HB2.out.trans (hb3.mono HB2.out.size);have HWK3:Hid (WaK w3 wb ow c0 [] St.zero 0):=HWK.out.below hb3;clear hb3 HB2 HWK HRB;go_wp2_with fail;refine (HFB.out _).mono ?_;rintro e w4 ⟨rfl,hb4⟩;have HB4:Hid (Below w.heap.size w w4):=HB3.out.trans (hb4.mono HB3.out.size);have HWK4:Hid (WaK w4 wb ow c0 [] St.zero 0):=HWK3.out.below hb4;clear hb4 HB3 HWK3 HFB;go_wp2_with fail;refine (HFE.out _ _ HWK4.out (HT.out.below HB4.out HT.out.size) (HZ0.out HOW.out)).mono ?_;rintro e w5 ⟨rfl,⟨ow5,hwk5,hwp5⟩⟩;obtain ⟨hB5,how5⟩:=WbA.WaAt.low hwp5 HB4.out.size HOW.out;have HB5:Hid (Below w.heap.size w w5):=HB4.out.trans hB5;have HWK5:Hid (WaK w5 wb ow5 c0 [] s1 0):=hwk5;have HOW5:Hid (∀ b,ow5 b≠0->w.heap.size<=b):=how5;clear hwk5 hwp5 hB5 how5 HFE HWK4 HB4 HOW;go_wp2_with fail;refine (HTI.out _ _ HWK5.out (HT.out.below HB5.out HT.out.size) (HZ0.out HOW5.out)).mono ?_;rintro e w6 ⟨rfl,⟨ow6,hwk6,hwp6⟩⟩;obtain ⟨hB6,how6⟩:=WbA.WaAt.low hwp6 HB5.out.size HOW5.out;have HB6:Hid (Below w.heap.size w w6):=HB5.out.trans hB6;have HWK6:Hid (WaK w6 wb ow6 c0 [] (s1.tick 1) 1):=hwk6;clear hwk6 hwp6 hB6 how6 HTI HWK5 HB5 HOW5;go_wp2_with fail;refine (HWH.out _ _ HWK6.out).mono ?_;rintro e w7 ⟨rfl,hb7⟩;have HB7:Hid (Below w.heap.size w w7):=HB6.out.trans (hb7.mono HB6.out.size);have HWK7:Hid (WaK w7 wb ow6 c0 [] (s1.tick 1) 1):=HWK6.out.below hb7;clear hb7 HWK6 HB6 HWH;go_wp2_with fail;refine (TkA.same_nil _).mono ?_;rintro e w8 ⟨rfl,rfl⟩;go_wp2_with fail;refine (TkA.same_nil _).mono ?_;rintro e w9 ⟨rfl,rfl⟩;go_wp2_with fail;refine (TkA.same_nil _).mono ?_;rintro e w10 ⟨rfl,rfl⟩;go_wp2_with fail;refine (HNO.out _ _ HWK7.out).mono ?_;rintro e w11 ⟨rfl,rfl⟩;go_wp2_with fail;refine (HEP.out _ _ HWK7.out).mono ?_;rintro e w12 ⟨rfl,qq,rfl⟩;go_wp2;go_ret;exact ⟨rfl,below_drewN HB7.out qq⟩
end WfA
namespace WeA
open Go.RowKit TkW WaM WaW WeW WaB Go.Maps
open TkM (Sg epOf told whr)
open TkA (RfAt wv errV)
open RuM (Rl)
open WbA (AlsOn own_als sameAlerts_eq neqD)
section
variable {w V V' : World} {wb rb : Nat} {oa od : Nat → Nat} {c : Cf} {rs : List Rl} {s : St} {k q q' : Nat} {p : Dp}
structure Bw (V:World) (wb rb:Nat) (oa od:Nat->Nat) (c:Cf) (rs:List Rl) (s:St) (q:Nat) (p:Dp):Prop where
 a:WaAt V wb oa c rs s
 d:Da V rb od c rs s (s.cl c) q (kn s.all) p
 ap:∀ b,oa b≠0->od b=0
theorem Bw.below (h:Bw V wb rb oa od c rs s q p) (hb:Below V.heap.size V V'):Bw V' wb rb oa od c rs s q p:=⟨h.a.below hb,h.d.below hb,h.ap⟩
theorem WaAt.wp {ob ob':Nat->Nat} (h:WaAt V wb oa c rs s) (hp:Wp V V' ob ob') (ha:∀ b,oa b≠0->ob b=0):WaAt V' wb oa c rs s:=by obtain ⟨p,h⟩:=h.out.out;exact ⟨⟨p,h.move hp.kp.size (fun b hb hn=>hp.kp.block b hb (fun e=>e (ha b hn)))⟩⟩
theorem Bw.asked (h:Bw V wb rb oa od c rs s q p) (ha:As V V' rb p.tb od c rs s (s.cl c) q' (kn s.all) p):Bw V' wb rb oa od c rs s q' p:=⟨WaAt.wp h.a ha.wp h.ap,ha.d,h.ap⟩
theorem Bw.sf (h:Bw V wb rb oa od c rs s q p):Sf c s:=by obtain ⟨p,h⟩:=h.a.out.out;exact ⟨h.cok,h.tim,h.few,h.sok,h.use⟩
structure AlN (V:World) (od:Nat->Nat) (q:Option Addr) (A:List Al):Prop where
 on:AlsOn V q A
 ne:A≠[]->∀ b,q=some ⟨b,0,none⟩->od b=0
theorem AlN.asked {L:List ByteArray} {A:List Al} {qa:Option Addr} {tb:Nat} (h:AlN V od qa A) (ha:As V V' rb tb od c rs s k q' L p):AlN V' od qa A:=by refine ⟨⟨fun hne=>?_⟩,h.ne⟩;obtain ⟨b,h1,h2,h3⟩:=h.on.at_ hne;refine ⟨b,h1,Nat.lt_of_lt_of_le h2 ha.wp.kp.size,fun k a hk=>?_⟩;have e:∀ i,V'.cell? ⟨b,i,none⟩=V.cell? ⟨b,i,none⟩:=fun i=>World.cell?_of_block (ha.wp.kp.block b h2 (fun e=>e (h.ne hne b h1)));rw[e,e,e];exact h3 k a hk
end
end WeA
end Go.Proofs.YtmolafjalaeoaaaGreatDoor
