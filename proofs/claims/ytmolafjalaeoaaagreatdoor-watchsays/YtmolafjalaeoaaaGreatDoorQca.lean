/-
  RefH WfA WfB WeH WeI
-/
import Derived.Test.YtmolafjalaeoaaaGreatDoorQbx
import Derived.Great.BuildSlice
import Derived.Deep.WholeRow
set_option maxRecDepth 100000
set_option maxHeartbeats 8000000
namespace Go.Proofs.YtmolafjalaeoaaaGreatDoor
open Go.Proofs.Tryz
namespace TagA
open Go.RowKit TagM
structure BitsAt (V:World) (base:Nat) (v:Value) (X L:Nat):Prop where
 own:V.ownsRow base 4 1 v L ((bitsL X L).map Value.bool)
theorem bits_at (v:Value) (X L N m base:Nat) (NI mI:Int) (w:World) (hNI:Hid (NI=N)) (hmI:Hid (mI=m)) (hown:BitsAt w base v X L) (hb:base<=w.heap.size) (hL:L<=64) (hm:m<=24) (hN:N<2 ^ m) :
  Calls prog 64 #[v,.int .i64 NI,.int .i64 mI] w fun e w'=>∃ v',e = .returned v'/\BitsAt w' base v' (pk X m N) (L+m)/\Below base w w':=by
 rw[hNI.out,hmI.out];refine (bits_any v X L N m base w hown.own hb hL hm hN).mono ?_;rintro e w' ⟨v',h1,h2,h3⟩;exact ⟨v',h1,⟨h2⟩,h3⟩
theorem rbW {w w1:World} {K F P C R S:Int} {k:Nat} (hb1:Below (w.alloc (.cells #[.int .i64 K,.int .i64 F,.int .i64 P,.int .i64 C,.int .i64 R,.int .i64 S] 80)).heap.size (w.alloc (.cells #[.int .i64 K,.int .i64 F,.int .i64 P,.int .i64 C,.int .i64 R,.int .i64 S] 80)) w1) {W:World}
  (hW:W=w1.alloc (.cells #[.int .i64 (cbits k),.int .i64 (cdig k),.int .i64 (rbits k),.int .i64 (rdig k)] 22)) :
  Below w.heap.size w W/\w.heap.size<W.heap.size/\w1.heap.size<W.heap.size/\W.cell? ⟨w.heap.size,0,none⟩=some (.int .i64 K)/\W.cell? ⟨w.heap.size,1,none⟩=some (.int .i64 F)/\W.cell? ⟨w.heap.size,2,none⟩=some (.int .i64 P)/\W.cell? ⟨w.heap.size,3,none⟩=some (.int .i64 C)/\W.cell? ⟨w.heap.size,4,none⟩=some (.int .i64 R)/\W.cell? ⟨w.heap.size,5,none⟩=some (.int .i64 S)/\W.cell? ⟨w1.heap.size,0,none⟩=some (.int .i64 (cbits k))/\W.cell? ⟨w1.heap.size,2,none⟩=some (.int .i64 (rbits k)):=by
 subst hW;obtain ⟨s1,hb2,d0,d1,d2,d3,d4,d5⟩:=boxed6 hb1;have hB:=(Below.refl w1.heap.size w1).alloc (Nat.le_refl _) (.cells #[.int .i64 (cbits k),.int .i64 (cdig k),.int .i64 (rbits k),.int .i64 (rdig k)] 22);exact ⟨hb2.trans (hB.mono (Nat.le_of_lt s1)),by simp;omega,by simp,keepCell hB d0,keepCell hB d1,keepCell hB d2,keepCell hB d3,keepCell hB d4,keepCell hB d5,by go_simp,by go_simp⟩
theorem BitsAt.cells {V:World} {base:Nat} {v:Value} {X:Nat} (h:BitsAt V base v X 64):∃ g cap,v = .slice (some ⟨g,0,none⟩) 64 cap/\base<=g/\g<V.heap.size/\∀ j,j<64->V.cell? ⟨g,j,none⟩=some (.bool (decide (X/2 ^ (63-j)%2=1))):=by
 obtain ⟨g,cap,rfl,h1,h2⟩:=h.own.form (by omega);refine ⟨g,cap,rfl,h1,h2,fun j hj=>?_⟩;have:=h.own.cells (g:=g) rfl j (.bool (decide (X/2 ^ (63-j)%2=1))) (by rw[List.getElem?_map,bitsL_at 64 X j hj];rfl);have e:(⟨g,0,none⟩:Addr).add j=⟨g,j,none⟩:=by unfold Addr.add;split<;>simp_all
 rw[<- e];exact this
structure BytesAt (V:World) (base:Nat) (v:Value) (X t:Nat):Prop where
 own:V.ownsRow base 5 1 v t ((List.range t).map fun i=>.int .u8 ((byt X i:Nat):Int))
theorem BytesAt.nil (V:World) (base X:Nat):BytesAt V base (.slice none 0 0) X 0:=⟨World.ownsRow_nil _ _ _ _⟩
theorem BytesAt.cell {V:World} {base g cap:Nat} {X:Nat} (h:BytesAt V base (.slice (some ⟨g,0,none⟩) 8 cap) X 8) (j:Nat) (hj:j<8):V.cell? ⟨g,j,none⟩=some (.int .u8 ((bytNums X).getD j 0)):=by
 have:=h.own.cells (g:=g) rfl j (.int .u8 ((byt X j:Nat):Int)) (by rw[List.getElem?_map,List.getElem?_range hj];rfl);have e:(⟨g,0,none⟩:Addr).add j=⟨g,j,none⟩:=by unfold Addr.add;split<;>simp_all
 rw[<- e,this]
 match j,hj with
 | 0,_ | 1,_ | 2,_ | 3,_ | 4,_ | 5,_ | 6,_ | 7,_=>rfl
theorem info5:(prog.info? 5).map (fun i=>(i.zero,i.size,i.bytes))=some (some (.int .u8 0),1,1):=by kernel_rfl
theorem byt_fld (X t:Nat) (h:t<8):fld X (64-8*t-8) 8=byt X t:=by unfold fld byt;rw[show 64-8*t-8=56-8*t by omega]
theorem fld_bit (X p k:Nat) (hp:k+1<=p):fld X (p-(k+1)) (k+1)=2*fld X (p-k) k+X/2 ^ (p-(k+1))%2:=by rw[fld_succ,show p-(k+1)+1=p-k by omega]
theorem refbytes_any (K F k C R S:Nat) (w:World) (hok:okB K F k C R S=true) :
  Calls prog 27 #[.agg #[.int .i64 K,.int .i64 F,.int .i64 k,.int .i64 C,.int .i64 R,.int .i64 S]] w fun e w'=>e = .returned (.string (be8 (num K F k C R S)))/\Below w.heap.size w w':=by
 obtain ⟨o1,o2,o3,o4,o5,o6,o7⟩:=okN hok;have HC:Hid (C<2 ^ cbits k):=Nat.lt_of_lt_of_le o6 (cpow o4);have HR:Hid (R<2 ^ rbits k):=Nat.lt_of_lt_of_le o7 (rpow o4);have hcb:=cbits_le k;have hrb:=rbits_le k;have HS:Hid _:=bits_sum k;have hKI:(K:Int)<=3:=by omega
 have hk6:k<6:=by omega
 obtain ⟨X,hX⟩:∃ X,X=num K F k C R S:=⟨_,rfl⟩;have HX:Hid (X=num K F k C R S):=hX;rw[<- hX];clear hok o6 o7 hX;obtain ⟨i0,hi,hz0,hz1,hz2⟩:=info_parts info5;go_enter func27,ntmps27;go_wp2_with fail;refine (parts_ok k _ hk6).mono ?_;rintro e w1 ⟨rfl,hb1⟩;have hF:=rbW (k:=k) hb1 rfl;obtain ⟨s1,hb2,d0,d1,d2,d3,d4,d5⟩:=boxed6 hb1;clear hb1 hb2;go_upto_region 2 with fail;clear d0 d1 d2 d3 d4 d5;generalize w1.alloc (.cells #[.int .i64 (cbits k),.int .i64 (cdig k),.int .i64 (rbits k),.int .i64 (rdig k)] 22)=W at *;obtain ⟨hBW,z1,z2,c0,c1,c2,c3,c4,c5,p0,p2⟩:=hF;have HB:Hid (Below w.heap.size w W):=hBW;clear hBW;go_wp2_with fail;refine (bits_at _ 0 0 (K+47) 8 W.heap.size _ _ _ (by show _ = _;omega) rfl ⟨World.ownsRow_nil _ _ _ _⟩ (Nat.le_refl _) (by omega) (by omega) (by omega)).mono ?_;rintro e V1 ⟨v1,rfl,hO,hV⟩;have HO1:Hid (BitsAt V1 W.heap.size v1 _ _):=hO;have HV1:Hid (Below W.heap.size W V1):=hV;have c11:=keepCell HV1.out c1;have c21:=keepCell HV1.out c2;have c31:=keepCell HV1.out c3;have c41:=keepCell HV1.out c4;have c51:=keepCell HV1.out c5;have p01:=keepCell HV1.out p0;have p21:=keepCell HV1.out p2;clear c0 hO hV;go_wp2_with fail;refine (bits_at _ (pk 0 8 (K+47)) (0+8) F 3 W.heap.size _ _ _ rfl rfl HO1.out HV1.out.size (by omega) (by omega) (by omega)).mono ?_;rintro e V2 ⟨v2,rfl,hO,hV⟩;have HO2:Hid (BitsAt V2 W.heap.size v2 _ _):=hO;have HV2:Hid (Below W.heap.size W V2):=HV1.out.trans hV;have c12:=keepCell HV2.out c1;have c22:=keepCell HV2.out c2;have c32:=keepCell HV2.out c3;have c42:=keepCell HV2.out c4;have c52:=keepCell HV2.out c5;have p02:=keepCell HV2.out p0;have p22:=keepCell HV2.out p2;clear c11 c21 c31 c41 c51 p01 p21 hO hV;go_wp2_with fail;refine (bits_at _ (pk (pk 0 8 (K+47)) 3 F) (0+8+3) k 3 W.heap.size _ _ _ rfl rfl HO2.out HV2.out.size (by omega) (by omega) (by omega)).mono ?_;rintro e V3 ⟨v3,rfl,hO,hV⟩;have HO3:Hid (BitsAt V3 W.heap.size v3 _ _):=hO;have HV3:Hid (Below W.heap.size W V3):=HV2.out.trans hV;have c13:=keepCell HV3.out c1;have c23:=keepCell HV3.out c2;have c33:=keepCell HV3.out c3;have c43:=keepCell HV3.out c4;have c53:=keepCell HV3.out c5;have p03:=keepCell HV3.out p0;have p23:=keepCell HV3.out p2;clear c12 c22 c32 c42 c52 p02 p22 hO hV;go_wp2_with fail;refine (bits_at _ (n3 K F k) (0+8+3+3) C (cbits k) W.heap.size _ _ _ rfl rfl HO3.out HV3.out.size (by omega) (by omega) HC.out).mono ?_;rintro e V4 ⟨v4,rfl,hO,hV⟩;have HO4:Hid (BitsAt V4 W.heap.size v4 _ _):=hO;have HV4:Hid (Below W.heap.size W V4):=HV3.out.trans hV;have c14:=keepCell HV4.out c1;have c24:=keepCell HV4.out c2;have c34:=keepCell HV4.out c3;have c44:=keepCell HV4.out c4;have c54:=keepCell HV4.out c5;have p04:=keepCell HV4.out p0;have p24:=keepCell HV4.out p2;clear c13 c23 c33 c43 c53 p03 p23 hO hV;go_wp2_with fail;refine (bits_at _ (pk (n3 K F k) (cbits k) C) (0+8+3+3+cbits k) R (rbits k) W.heap.size _ _ _ rfl rfl HO4.out HV4.out.size (by omega) (by omega) HR.out).mono ?_;rintro e V5 ⟨v5,rfl,hO,hV⟩;have HO5:Hid (BitsAt V5 W.heap.size v5 _ _):=hO;have HV5:Hid (Below W.heap.size W V5):=HV4.out.trans hV;have c15:=keepCell HV5.out c1;have c25:=keepCell HV5.out c2;have c35:=keepCell HV5.out c3;have c45:=keepCell HV5.out c4;have c55:=keepCell HV5.out c5;have p05:=keepCell HV5.out p0;have p25:=keepCell HV5.out p2;clear c14 c24 c34 c44 c54 p04 p24 hO hV;go_wp2_with fail;refine (bits_at _ (pk (pk (n3 K F k) (cbits k) C) (rbits k) R) (0+8+3+3+cbits k+rbits k) S 24 W.heap.size _ _ _ rfl rfl HO5.out HV5.out.size (by omega) (by omega) (by omega)).mono ?_;rintro e V6 ⟨v6,rfl,hO,hV⟩;have HO6:Hid (BitsAt V6 W.heap.size v6 _ _):=hO;have HV6:Hid (Below W.heap.size W V6):=HV5.out.trans hV;clear c15 c25 c35 c45 c55 p05 p25 hO hV;have hBits:BitsAt V6 W.heap.size v6 X 64:=by have h:=HO6.out;rw[show 0+8+3+3+cbits k+rbits k+24=64 by have:=HS.out;omega] at h;rw[HX.out];exact h
 obtain ⟨g,cap,rfl,hg1,hg2,hg3⟩:=hBits.cells;have HG:Hid (∀ j,j<64->V6.cell? ⟨g,j,none⟩=some (.bool (decide (X/2 ^ (63-j)%2=1)))):=hg3;clear hg3 hBits HO1 HO2 HO3 HO4 HO5 HO6 HV1 HV2 HV3 HV4 HV5 HC HR HS;have hsz6:=HV6.out.size;go_wp2;go_loopw [6,7,8,9] (fun b i _ _ V=>∃ t:Nat,t<=8/\i = .int .i64 t/\BytesAt V V6.heap.size b X t/\Below V6.heap.size V6 V) (fun _ i _ _ _=>8-(intOf i).toNat)
 case atStart=>exact ⟨0,Nat.zero_le _,rfl,BytesAt.nil _ _ _,Below.refl _ _⟩
 case round=>
  obtain ⟨t,ht,rfl,hbs,hbl⟩:=hrel;by_cases hlt:t<8
  ·go_wp2;go_loop [8,9] (fun x i=>∃ s:Nat,s<=8/\i = .int .i64 s/\x = .int .i64 ((fld X (64-8*t-s) s:Nat):Int)) (fun _ i=>8-(intOf i).toNat)
   case atStart=>exact ⟨0,Nat.zero_le _,rfl,by rw[fld_zero];rfl⟩
   case round=>
    obtain ⟨s,hs,rfl,rfl⟩:=hrel;have HBS:Hid (BytesAt wr V6.heap.size u6 X t):=hbs;have HBL:Hid (Below V6.heap.size V6 wr):=hbl;clear hbs hbl;by_cases hls:s<8
    ·have hfs:=fld_bit X (64-8*t) s (by omega);have hfl:fld X (64-8*t-s) s<256:=Nat.lt_of_lt_of_le (fld_lt _ _ _) (Nat.pow_le_pow_right (by omega) (show s<=8 by omega));generalize hY:fld X (64-8*t-s) s=Y at *;have hcell:wr.cell? ⟨g,8*t+s,none⟩=some (.bool (decide (X/2 ^ (63-(8*t+s))%2=1))):=(HBL.out.cell (by exact hg2)).trans (HG.out (8*t+s) (by omega));rw[show 64-8*t-(s+1)=63-(8*t+s) by omega] at hfs;have HFS:Hid _:=hfs;have HY:Hid _:=hY;clear hfs hY;by_cases hbit:X/2 ^ (63-(8*t+s))%2=1
     ·rw[decide_eq_true hbit] at hcell;have HBIT:Hid _:=hbit;clear hbit;go_wp2;go_round
      case rel=>refine ⟨s+1,by omega,by go_num,?_⟩;rw[show 64-8*t-(s+1)=63-(8*t+s) by omega,HFS.out,HBIT.out];go_num
      case measure=>simp[intOf];omega
     ·rw[decide_eq_false hbit] at hcell;have HBIT:Hid (X/2 ^ (63-(8*t+s))%2=0):=(by show _ = _;omega);clear hbit;go_wp2;go_round
      case rel=>refine ⟨s+1,by omega,by go_num,?_⟩;rw[show 64-8*t-(s+1)=63-(8*t+s) by omega,HFS.out,HBIT.out];go_num
      case measure=>simp[intOf];omega
    ·obtain rfl:s=8:=(by omega);rw[byt_fld X t hlt];have hbyt:byt X t<256:=Nat.mod_lt _ (by omega);have ewr:IntKind.u8.wrap ((byt X t:Nat):Int)=((byt X t:Nat):Int):=(by rw[IntKind.wrap_u8'];omega);generalize hZ:byt X t=Z at *;have HZ:Hid _:=hZ;clear hZ;have hown:=HBS.out.own;go_wp2_with (at_builtin;refine wpList_append_own _ rfl _ _ 157 rfl V6.heap.size 5 i0 (.int .u8 0) 1 1 underlying157 hi hz0 hz1 hz2 rfl (by decide) _ _ _ rfl (hown.alloc _) ⟨wr.heap.size,0,none⟩ 1 1 [.int .u8 (Z:Int)] rfl rfl ?q1 ?q2 ?q3 ?q4 ?q5 ?_)
     case q2=>first | rfl | (intro u hu;simp at hu;subst hu;rfl)
     case q3=>unfold maxLen;omega
     case q4=>omega
     case q5=>have:=HBL.out.size;simp;omega
     ·intro v' w3 hown' hgrow _;have hR:BytesAt w3 V6.heap.size v' X (t+1):=(by refine ⟨?_⟩;rw[List.range_succ,List.map_append];rw[<- HZ.out] at hown';exact hown');have hB':Below V6.heap.size V6 w3:=(HBL.out.alloc HBL.out.size _).grown hgrow (by have:=HBL.out.size;simp;omega) (fun k hk=>(hown.lt k hk).1);have HR':Hid (BytesAt w3 V6.heap.size v' X (t+1)):=hR;have HB':Hid (Below V6.heap.size V6 w3):=hB';clear hown' hgrow hown hR hB';go_wp2;go_roundw
      case rel=>exact ⟨t+1,by omega,by go_num,HR'.out,HB'.out⟩
      case measure=>simp[intOf];omega
  ·obtain rfl:t=8:=(by omega);obtain ⟨g8,cap8,rfl,-,-⟩:=hbs.own.form (by omega)
   have hcv:=run_convert_bytes_arg (P:=prog) wr 157 5 underlying157 underlying5 g8 0 8 cap8 (bytNums X) rfl (fun i hi=>by
    rw[Nat.zero_add];exact hbs.cell i hi) 9 underlying9
   have HCV:strOfNums (bytNums X)=be8 X:=rfl;rw[HCV] at hcv;clear HCV;have HBL:Hid (Below V6.heap.size V6 wr):=hbl;clear hbs hbl;go_wp2;go_ret;exact ⟨rfl,(HB.out.trans (HV6.out.mono (Nat.le_of_lt z1))).trans (HBL.out.mono (by have:=HV6.out.size;omega))⟩
end TagA
namespace WfA
open Go.RowKit TkW WaM WaW WaB Go.Maps
open TkM (Sg epOf told whr)
open TkA (wv)
def c0:Cf:=⟨1,0,1,1,1,1,fun _ _=>0⟩
theorem c0_ok:c0.Ok:=⟨by decide,by decide,by decide,by decide,by decide,by decide,by decide,by decide,by decide,by decide,by decide,fun _ _ _ _=>(by decide:(-1:Int)<=0/\(0:Int)<=7)⟩
theorem c0_cfw:cfw (Cf.ci c0) = #[.int .i64 1,.int .i64 0,.int .i64 1,.int .i64 1,.int .i64 1,.int .i64 1,.int .i64 0,.int .i64 0,.int .i64 0,.int .i64 0,.int .i64 0,.int .i64 0,.int .i64 0,.int .i64 0,.int .i64 0,.int .i64 0,.int .i64 0,.int .i64 0,.int .i64 0,.int .i64 0,.int .i64 0,.int .i64 0]:=rfl
def g0:ByteArray:=TagA.be8 (TagA.num 1 0 0 0 0 0)
theorem g0_size:g0.size=8:=rfl
theorem g0_knd:InA.knd g0=1:=by decide +kernel
def f0:FrmM.Fr:=⟨1,[⟨0,0,0,g0⟩],0⟩
theorem f0_ok:FrmM.Ok f0 where
 ty:=by decide
 rs:=fun h=>absurd rfl h
 wm:=fun _=>rfl
 wb:=by decide
 len:=by decide
 all:=fun r hr=>by simp[f0] at hr;subst hr;exact ⟨by decide,by decide,by decide,rfl⟩
theorem f0_feed:FrmM.feed (FrmM.enc f0)=([f0],0,[]):=by have:=FrmM.feed_whole [f0] (fun f hf=>by simp at hf;subst hf;exact f0_ok);simpa using this
def s1:St:=St.zero.feed c0 0 (FrmM.enc f0)
theorem rest0:St.zero.rest 0 = []:=rfl
theorem s1_is:s1=St.read c0 0 (St.zero.line 0 [] 0) ⟨0,0,0,g0⟩:=by unfold s1 St.feed;rw[rest0,List.nil_append,f0_feed];rfl
theorem s1_all:s1.all = [⟨0,0,0,g0⟩]:=by
 rw[s1_is];unfold St.read;rw[if_neg (by show ¬ InA.knd g0=0;rw[g0_knd];decide),if_neg (by decide),if_neg (by intro h;exact absurd h.2 (by decide))];rw[if_neg]
 ·rfl
 ·unfold EpM.addF;rw[if_pos (by unfold EpM.okS;simp[sight,St.zero,St.line,c0,g0_size]),if_neg (by decide)];decide
theorem s1_now:s1.now=0:=by
 rw[s1_is];unfold St.read
 repeat' split
 all_goals rfl
theorem s2_cl:(s1.tick 1).cl c0=1:=by unfold St.cl St.tick;rw[s1_now];rfl
theorem s1_cl:s1.cl c0=0:=by unfold St.cl;rw[s1_now];rfl
theorem s2_ep:Ep c0 (s1.tick 1) 1 = [[⟨0,0,0,g0⟩]]:=by unfold Ep;show [EpM.sorted (EpM.grp 1 s1.all 0)] = _;rw[s1_all];have e:EpM.grp 1 [(⟨0,0,0,g0⟩:Sg)] 0 = [⟨0,0,0,g0⟩]:=rfl;rw[e];simp[EpM.sorted]
theorem s2_told:told g0 (Ep c0 (s1.tick 1) 1)=true:=by rw[s2_ep];decide +kernel
theorem s2_whr:whr g0 (epOf (Ep c0 (s1.tick 1) 1)) 1 1 0=0:=by rw[s2_ep];decide +kernel
theorem s2_wv:wv 1 (told g0 (Ep c0 (s1.tick 1) 1)) 0 (whr g0 (epOf (Ep c0 (s1.tick 1) 1)) c0.W c0.need (0:Int).toNat)=(0,0):=by rw[s2_told];show wv 1 true 0 (whr g0 (epOf (Ep c0 (s1.tick 1) 1)) 1 1 0)=(0,0);rw[s2_whr];rfl
end WfA
namespace WfA
open Go.RowKit TkW WaM WaW WaB Go.Maps
open TkM (Sg epOf told whr)
open TkA (wv)
open WbA (RsIn)
theorem feed0 {V:World} {wb:Nat} {ow:Nat->Nat} (h:WaK V wb ow c0 [] St.zero 0) (hT:TagA.Tabs V) (h0:ow 0=0) :
  Calls prog 16 #[.pointer (some ⟨wb,0,none⟩),.int .i64 0,.string (FrmA.str (FrmM.enc f0))] V fun e w'=>e = .returned (.tuple #[.int .i64 1,.nilIface])/\To V w' wb ow c0 [] s1 0:=by
 have hd:(FrmA.str (FrmM.enc f0)).data.toList=FrmM.enc f0:=by simp[FrmA.str]
 have hs:(FrmA.str (FrmM.enc f0)).size=(FrmM.enc f0).length:=by
  have hb:(FrmA.str (FrmM.enc f0)).data.toList.length=(FrmA.str (FrmM.enc f0)).size:=by simp
  rw[<- hb,hd]
 have hl:(FrmM.enc f0).length<=2000:=by decide
 have:=feed_ok 0 (FrmA.str (FrmM.enc f0)) h hT h0 (WbA.zero_cl c0).symm (by decide) (by rw[hs];exact hl) (by rw[hs];have:St.zero.sum=0:=rfl;omega);rw[hd,rest0,List.nil_append,f0_feed] at this;exact this
theorem tick0 {V:World} {wb:Nat} {ow:Nat->Nat} (h:WaK V wb ow c0 [] s1 0) (hT:TagA.Tabs V) (h0:ow 0=0) :
  Calls prog 14 #[.pointer (some ⟨wb,0,none⟩),.int .i64 1] V fun e w'=>e = .returned (.tuple #[.int .i64 1,.nilIface])/\To V w' wb ow c0 [] (s1.tick 1) 1:=by
 have:=tick_ok 1 h hT h0 s1_cl.symm (by rw[s1_now];decide);rw[s2_cl,s1_cl] at this;exact this
theorem where0 {V:World} {wb:Nat} {ow:Nat->Nat} (h:WaK V wb ow c0 [] (s1.tick 1) 1) :
  Calls prog 29 #[.pointer (some ⟨wb,0,none⟩),.string g0,.int .i64 0] V fun e w'=>e = .returned (.tuple #[.int .i64 0,.nilIface])/\Below V.heap.size V w':=by
 have:=where_any g0 0 h (by rw[g0_size];decide);rw[s2_wv] at this;exact this
theorem frame0 (V:World) :
  Calls prog 28 #[.agg #[.int .i64 1,.slice (some ⟨V.heap.size,0,none⟩) 1 1,.int .i64 0]] (V.alloc (.cells #[.int .i64 0,.int .i64 0,.int .i64 0,.string g0] 90)) fun e w'=>e = .returned (.string (FrmA.str (FrmM.enc f0)))/\Below V.heap.size V w':=by
 refine (FrmA.fb_any f0 (some ⟨V.heap.size,0,none⟩) 1 (V.alloc (.cells #[.int .i64 0,.int .i64 0,.int .i64 0,.string g0] 90)) ⟨fun r hr=>?_,fun _=>⟨_,_,rfl,by simp,fun k r hk=>?_⟩⟩ f0_ok).mono ?_
 ·simp[f0] at hr;subst hr;show g0.size<=_;rw[g0_size];decide
 ·have hn:=Go.heap_alloc_new V (.cells #[.int .i64 0,.int .i64 0,.int .i64 0,.string g0] 90);generalize V.alloc (.cells #[.int .i64 0,.int .i64 0,.int .i64 0,.string g0] 90)=X at hn ⊢
  match k,hk with
  | 0,hk=>
   simp[f0] at hk;subst hk;exact ⟨by simp[World.cell?,hn],by simp[World.cell?,hn],by simp[World.cell?,hn],by simp[World.cell?,hn]⟩
  | k+1,hk=>simp[f0] at hk
 ·rintro e w' ⟨rfl,hb⟩;exact ⟨rfl,((Below.refl _ V).alloc (Nat.le_refl _) _).trans (hb.mono (by simp))⟩
theorem watches_true (w:World) (hT:TagA.Tabs w) :
  Calls prog 7 #[] w fun e w'=>e = .returned (.bool true)/\Below w.heap.size w w':=by
 obtain ⟨C,hC⟩:∃ C,C=cfw (Cf.ci c0):=⟨_,rfl⟩;have HNW:Hid (∀ V:World,Calls prog 10 #[.agg C,.slice none 0 0] V fun e w'=>∃ wb ow,e = .returned (.tuple #[.pointer (some ⟨wb,0,none⟩),.nilIface])/\WaK w' wb ow c0 [] St.zero 0/\(∀ b,ow b≠0->V.heap.size<=b)/\Below V.heap.size V w'):=fun V=>by rw[hC];exact new_ok c0 [] none 0 V c0_ok (Or.inr ⟨by decide,Or.inl ⟨fun j hj=>absurd hj (Nat.not_lt_zero _),rfl⟩⟩) ⟨fun h=>absurd rfl h⟩ (fun _=>⟨rfl,rfl⟩) (Nat.le_refl _) (fun r hr=>by cases hr)
 have hi':(prog.info? 25).map (·.size)=some C.toList.length:=by rw[hC];kernel_rfl
 have hra:(w.alloc (.cells C 25)).rangeAt w.heap.size 0 C.toList:=WbA.range_new (Go.heap_alloc_new w _);have HT:Hid (TagA.Tabs w):=hT;have hCE:C = #[.int .i64 1,.int .i64 0,.int .i64 1,.int .i64 1,.int .i64 1,.int .i64 1,.int .i64 0,.int .i64 0,.int .i64 0,.int .i64 0,.int .i64 0,.int .i64 0,.int .i64 0,.int .i64 0,.int .i64 0,.int .i64 0,.int .i64 0,.int .i64 0,.int .i64 0,.int .i64 0,.int .i64 0,.int .i64 0]:=hC.trans c0_cfw;have HCE:Hid (C = #[.int .i64 1,.int .i64 0,.int .i64 1,.int .i64 1,.int .i64 1,.int .i64 1,.int .i64 0,.int .i64 0,.int .i64 0,.int .i64 0,.int .i64 0,.int .i64 0,.int .i64 0,.int .i64 0,.int .i64 0,.int .i64 0,.int .i64 0,.int .i64 0,.int .i64 0,.int .i64 0,.int .i64 0,.int .i64 0]):=hCE
 have h1c:C.all (·.oneCell')=true:=by
  rw[hCE]
  exact all_oneCell_toArray (cs:=[.int .i64 1,.int .i64 0,.int .i64 1,.int .i64 1,.int .i64 1,.int .i64 1,.int .i64 0,.int .i64 0,.int .i64 0,.int .i64 0,.int .i64 0,.int .i64 0,.int .i64 0,.int .i64 0,.int .i64 0,.int .i64 0,.int .i64 0,.int .i64 0,.int .i64 0,.int .i64 0,.int .i64 0,.int .i64 0]) (fun v hv=>by
   simp at hv;rcases hv with rfl | rfl | rfl | rfl<;>rfl)
 have hsc:C.size=22:=by rw[hCE];rfl
 have hi2:(prog.info? 25).map (·.size)=some C.size:=by rw[hsc];kernel_rfl
 clear hT hC hCE;go_enter func7,ntmps7;go_upto_region 2 with (first | (refine wpList_buildTo rfl 25 _ rfl _ rfl C (by rw[HCE.out];kernel_rfl) ?_) | (refine wpList_store_rowTo rfl 25 (.tmp 1) (.tmp 11) rfl rfl w.heap.size C rfl rfl 25 _ (Go.heap_alloc_new w _) hi2 (by rw[hsc];rfl) h1c ?_))
 rw[World.setRow_alloc_new];go_wp2_with (refine wpList_load_mid rfl 25 (.tmp 1) rfl w.heap.size 0 rfl C.toList _ hra underlying25 rfl hi' ?_);refine (HNW.out _).mono ?_;rintro e w2 ⟨wb,ow,rfl,hwk,how,hb2⟩;have HB2:Hid (Below w.heap.size w w2):=((Below.refl _ w).alloc (Nat.le_refl _) _).trans (hb2.mono (by simp));have HWK:Hid (WaK w2 wb ow c0 [] St.zero 0):=hwk;have HOW:Hid (∀ b,ow b≠0->w.heap.size<=b):=fun b hb=>Nat.le_trans (by simp) (how b hb)
 have hz0:∀ {o:Nat->Nat},(∀ b,o b≠0->w.heap.size<=b)->o 0=0:=fun {o} h=>by
  by_cases hz:o 0=0
  ·exact hz
  ·have:=h 0 hz;have:=HT.out.size;omega
 have HZ0:Hid (∀ {o:Nat->Nat},(∀ b,o b≠0->w.heap.size<=b)->o 0=0):=hz0;have HRB:Hid (∀ V:World,Calls prog 27 #[.agg #[.int .i64 1,.int .i64 0,.int .i64 0,.int .i64 0,.int .i64 0,.int .i64 0]] V fun e w'=>e = .returned (.string g0)/\Below V.heap.size V w'):=fun V=>TagA.refbytes_any 1 0 0 0 0 0 V (by decide);have HFB:Hid (∀ V:World,Calls prog 28 #[.agg #[.int .i64 1,.slice (some ⟨V.heap.size,0,none⟩) 1 1,.int .i64 0]] (V.alloc (.cells #[.int .i64 0,.int .i64 0,.int .i64 0,.string g0] 90)) fun e w'=>e = .returned (.string (FrmA.str (FrmM.enc f0)))/\Below V.heap.size V w'):=frame0;have HFE:Hid (∀ (V:World) (o:Nat->Nat),WaK V wb o c0 [] St.zero 0->TagA.Tabs V->o 0=0->Calls prog 16 #[.pointer (some ⟨wb,0,none⟩),.int .i64 0,.string (FrmA.str (FrmM.enc f0))] V fun e w'=>e = .returned (.tuple #[.int .i64 1,.nilIface])/\To V w' wb o c0 [] s1 0):=fun V o h1 h2 h3=>feed0 h1 h2 h3;have HTI:Hid (∀ (V:World) (o:Nat->Nat),WaK V wb o c0 [] s1 0->TagA.Tabs V->o 0=0->Calls prog 14 #[.pointer (some ⟨wb,0,none⟩),.int .i64 1] V fun e w'=>e = .returned (.tuple #[.int .i64 1,.nilIface])/\To V w' wb o c0 [] (s1.tick 1) 1):=fun V o h1 h2 h3=>tick0 h1 h2 h3;have HWH:Hid (∀ (V:World) (o:Nat->Nat),WaK V wb o c0 [] (s1.tick 1) 1->Calls prog 29 #[.pointer (some ⟨wb,0,none⟩),.string g0,.int .i64 0] V fun e w'=>e = .returned (.tuple #[.int .i64 0,.nilIface])/\Below V.heap.size V w'):=fun V o h1=>where0 h1
 have HNO:Hid (∀ (V:World) (o:Nat->Nat),WaK V wb o c0 [] (s1.tick 1) 1->Calls prog 30 #[.pointer (some ⟨wb,0,none⟩)] V fun e w'=>e = .returned (.int .i64 1)/\w'=V):=fun V o h1=>by
  have:=now_any h1;have e:(s1.tick 1).now=1:=by show s1.now+1=1;rw[s1_now]
  rw[e] at this;exact this
 have HEP:Hid (∀ (V:World) (o:Nat->Nat),WaK V wb o c0 [] (s1.tick 1) 1->Calls prog 25 #[.pointer (some ⟨wb,0,none⟩)] V fun e w'=>e = .returned (.int .i64 1)/\∃ q,w'=V.drewN q):=fun V o h1=>by have:=epochs_any h1;rw[s2_cl] at this;exact this
 generalize FrmA.str (FrmM.enc f0)=E at *;generalize g0=G at *;clear hwk how hb2 hra hi' hi2 h1c hsc HCE HNW hz0;go_wp2_with fail;refine (HRB.out _).mono ?_;rintro e w3 ⟨rfl,hb3⟩;have HB3:Hid (Below w.heap.size w w3):=HB2.out.trans (hb3.mono HB2.out.size);have HWK3:Hid (WaK w3 wb ow c0 [] St.zero 0):=HWK.out.below hb3;clear hb3 HB2 HWK HRB;go_wp2_with fail;refine (HFB.out _).mono ?_;rintro e w4 ⟨rfl,hb4⟩;have HB4:Hid (Below w.heap.size w w4):=HB3.out.trans (hb4.mono HB3.out.size);have HWK4:Hid (WaK w4 wb ow c0 [] St.zero 0):=HWK3.out.below hb4;clear hb4 HB3 HWK3 HFB;go_wp2_with fail;refine (HFE.out _ _ HWK4.out (HT.out.below HB4.out HT.out.size) (HZ0.out HOW.out)).mono ?_;rintro e w5 ⟨rfl,⟨ow5,hwk5,hwp5⟩⟩;obtain ⟨hB5,how5⟩:=WbA.WaAt.low hwp5 HB4.out.size HOW.out;have HB5:Hid (Below w.heap.size w w5):=HB4.out.trans hB5;have HWK5:Hid (WaK w5 wb ow5 c0 [] s1 0):=hwk5;have HOW5:Hid (∀ b,ow5 b≠0->w.heap.size<=b):=how5;clear hwk5 hwp5 hB5 how5 HFE HWK4 HB4 HOW;go_wp2_with fail;refine (HTI.out _ _ HWK5.out (HT.out.below HB5.out HT.out.size) (HZ0.out HOW5.out)).mono ?_;rintro e w6 ⟨rfl,⟨ow6,hwk6,hwp6⟩⟩;obtain ⟨hB6,how6⟩:=WbA.WaAt.low hwp6 HB5.out.size HOW5.out;have HB6:Hid (Below w.heap.size w w6):=HB5.out.trans hB6;have HWK6:Hid (WaK w6 wb ow6 c0 [] (s1.tick 1) 1):=hwk6;clear hwk6 hwp6 hB6 how6 HTI HWK5 HB5 HOW5;go_wp2_with fail;refine (HWH.out _ _ HWK6.out).mono ?_;rintro e w7 ⟨rfl,hb7⟩;have HB7:Hid (Below w.heap.size w w7):=HB6.out.trans (hb7.mono HB6.out.size);have HWK7:Hid (WaK w7 wb ow6 c0 [] (s1.tick 1) 1):=HWK6.out.below hb7;clear hb7 HWK6 HB6 HWH;go_wp2_with fail;refine (TkA.same_nil _).mono ?_;rintro e w8 ⟨rfl,rfl⟩;go_wp2_with fail;refine (TkA.same_nil _).mono ?_;rintro e w9 ⟨rfl,rfl⟩;go_wp2_with fail;refine (TkA.same_nil _).mono ?_;rintro e w10 ⟨rfl,rfl⟩;go_wp2_with fail;refine (HNO.out _ _ HWK7.out).mono ?_;rintro e w11 ⟨rfl,rfl⟩;go_wp2_with fail;refine (HEP.out _ _ HWK7.out).mono ?_;rintro e w12 ⟨rfl,qq,rfl⟩;go_wp2;go_ret;exact ⟨rfl,below_drewN HB7.out qq⟩
end WfA
namespace WeA
open Go.RowKit TkW WaM WaW WeW WaB Go.Maps
open TkM (Sg epOf told whr)
open TkA (RfAt wv errV)
open RuM (Rl)
open WbA (AlsOn own_als sameAlerts_eq neqD)
section
variable {w V V' : World} {wb rb : Nat} {oa od : Nat → Nat} {c : Cf} {rs : List Rl} {s : St} {k q q' : Nat} {p : Dp}
structure Bw (V:World) (wb rb:Nat) (oa od:Nat->Nat) (c:Cf) (rs:List Rl) (s:St) (q:Nat) (p:Dp):Prop where
 a:WaAt V wb oa c rs s
 d:Da V rb od c rs s (s.cl c) q (kn s.all) p
 ap:∀ b,oa b≠0->od b=0
theorem Bw.below (h:Bw V wb rb oa od c rs s q p) (hb:Below V.heap.size V V'):Bw V' wb rb oa od c rs s q p:=⟨h.a.below hb,h.d.below hb,h.ap⟩
theorem WaAt.wp {ob ob':Nat->Nat} (h:WaAt V wb oa c rs s) (hp:Wp V V' ob ob') (ha:∀ b,oa b≠0->ob b=0):WaAt V' wb oa c rs s:=by obtain ⟨p,h⟩:=h.out.out;exact ⟨⟨p,h.move hp.kp.size (fun b hb hn=>hp.kp.block b hb (fun e=>e (ha b hn)))⟩⟩
theorem Bw.asked (h:Bw V wb rb oa od c rs s q p) (ha:As V V' rb p.tb od c rs s (s.cl c) q' (kn s.all) p):Bw V' wb rb oa od c rs s q' p:=⟨WaAt.wp h.a ha.wp h.ap,ha.d,h.ap⟩
theorem Bw.sf (h:Bw V wb rb oa od c rs s q p):Sf c s:=by obtain ⟨p,h⟩:=h.a.out.out;exact ⟨h.cok,h.tim,h.few,h.sok,h.use⟩
structure AlN (V:World) (od:Nat->Nat) (q:Option Addr) (A:List Al):Prop where
 on:AlsOn V q A
 ne:A≠[]->∀ b,q=some ⟨b,0,none⟩->od b=0
theorem AlN.asked {L:List ByteArray} {A:List Al} {qa:Option Addr} {tb:Nat} (h:AlN V od qa A) (ha:As V V' rb tb od c rs s k q' L p):AlN V' od qa A:=by refine ⟨⟨fun hne=>?_⟩,h.ne⟩;obtain ⟨b,h1,h2,h3⟩:=h.on.at_ hne;refine ⟨b,h1,Nat.lt_of_lt_of_le h2 ha.wp.kp.size,fun k a hk=>?_⟩;have e:∀ i,V'.cell? ⟨b,i,none⟩=V.cell? ⟨b,i,none⟩:=fun i=>World.cell?_of_block (ha.wp.kp.block b h2 (fun e=>e (h.ne hne b h1)));rw[e,e,e];exact h3 k a hk
end
end WeA
namespace WeA
open Go.RowKit TkW WaM WaW WeW WaB Go.Maps
open Tk0
open TkM (Sg epOf told whr)
open TkA (RfAt wv errV)
open RuM (Rl)
open WbA (AlsOn own_als sameAlerts_eq neqD)
section
variable {w V V' : World} {wb rb : Nat} {oa od : Nat → Nat} {c : Cf} {rs : List Rl} {s : St} {k q q' Q : Nat} {p : Dp}
structure Bq (w V:World) (wb rb:Nat) (oa od:Nat->Nat) (c:Cf) (rs:List Rl) (s:St) (Q:Nat) (p:Dp):Prop where
 b:Bw V wb rb oa od c rs s Q p
 kp:Kp (fun b=>od b≠0) w V
theorem Bq.below (h:Bq w V wb rb oa od c rs s Q p) (hb:Below V.heap.size V V'):Bq w V' wb rb oa od c rs s Q p:=⟨h.b.below hb,h.kp.trans (below_kp hb _)⟩
theorem Bq.asked (h:Bq w V wb rb oa od c rs s q p) (ha:As V V' rb p.tb od c rs s (s.cl c) q' (kn s.all) p):Bq w V' wb rb oa od c rs s q' p:=⟨h.b.asked ha,h.kp.trans ha.wp.kp⟩
theorem Bq.more (h:Bq w V wb rb oa od c rs s q p) (hq:q<=q'):Bq w V wb rb oa od c rs s q' p:=by have h1:As V V rb p.tb od c rs s (s.cl c) q (kn s.all) p:=⟨h.b.d,Wp.refl _ _,rfl⟩;exact ⟨⟨h.b.a,(h1.more hq).d,h.b.ap⟩,h.kp⟩
theorem Bq.tb2 (h:Bq w V wb rb oa od c rs s q p):∃ ep ec,V.cell? ⟨p.tb,2,none⟩=some (.slice ep (s.cl c) ec):=by obtain ⟨F,h1,h2⟩:=h.b.d.trk;obtain ⟨pp,cap,hv⟩:=h1.view;have:=hv.c2;rw[Ep_len] at this;exact ⟨pp,cap,this⟩
structure Ag1 (e:Ending) (w V:World) (wb rb:Nat) (oa od:Nat->Nat) (c:Cf) (rs:List Rl) (s:St) (Q:Nat) (p:Dp) (A:List Al):Prop where
 out:∃ qa ca,e = .returned (.slice qa A.length ca)/\AlN V od qa A
 b:Bq w V wb rb oa od c rs s Q p
structure TgD (V:World) (od:Nat->Nat) (tg:Nat) (T:List ByteArray):Prop where
 cel:∀ j g,T[j]?=some g->V.cell? ⟨tg,j,none⟩=some (.string g)
 lt:tg<V.heap.size
 ne:od tg=0
structure Bt (w V:World) (wb rb:Nat) (oa od:Nat->Nat) (c:Cf) (rs:List Rl) (s:St) (Q:Nat) (p:Dp) (tg:Nat) (T:List ByteArray):Prop where
 b:Bq w V wb rb oa od c rs s Q p
 t:TgD V od tg T
theorem Bt.below {tg:Nat} {T:List ByteArray} (h:Bt w V wb rb oa od c rs s Q p tg T) (hb:Below V.heap.size V V'):Bt w V' wb rb oa od c rs s Q p tg T:=
 ⟨h.b.below hb,⟨fun j g hj=>by rw[hb.cell h.t.lt];exact h.t.cel j g hj,Nat.lt_of_lt_of_le h.t.lt hb.size,h.t.ne⟩⟩
theorem Bt.asked {tg:Nat} {T:List ByteArray} (h:Bt w V wb rb oa od c rs s q p tg T) (ha:As V V' rb p.tb od c rs s (s.cl c) q' (kn s.all) p):Bt w V' wb rb oa od c rs s q' p tg T:=
 ⟨h.b.asked ha,⟨fun j g hj=>by rw[World.cell?_of_block (w:=V) (ha.wp.kp.block tg h.t.lt (fun e=>e h.t.ne))];exact h.t.cel j g hj,Nat.lt_of_lt_of_le h.t.lt ha.wp.kp.size,h.t.ne⟩⟩
theorem Bt.more {tg:Nat} {T:List ByteArray} (h:Bt w V wb rb oa od c rs s q p tg T) (hq:q<=q'):Bt w V wb rb oa od c rs s q' p tg T:=⟨h.b.more hq,h.t⟩
def QD (q j t:Nat):Nat:=q+40000000*j+4000000*t
theorem QD_step (q j t:Nat):QD q j t+1+3000000<=QD q j (t+1):=by unfold QD;omega
theorem QD_row (q j t:Nat) (h:t<=8):QD q j t<=QD q (j+1) 0:=by unfold QD;omega
theorem QD_lim (q j t:Nat) (hq:q<=5300000000) (hj:j<=12) (ht:t<=8):QD q j t+1<=6000000000:=by unfold QD;omega
theorem asWatch_true (h:Bw w wb rb oa od c rs s q p) (hk:s.cl c<=100) (hq:q<=5000000000) :
  Calls prog 18 #[.pointer (some ⟨wb,0,none⟩),.pointer (some ⟨rb,0,none⟩)] w fun e w'=>e = .returned (.bool true)/\Kp (fun b=>od b≠0) w w':=by
 have hsf:=h.sf;obtain ⟨K,hKK⟩:∃ K,K=s.cl c:=⟨_,rfl⟩;obtain ⟨A,hAA⟩:∃ A,A=alerts c rs s (s.cl c):=⟨_,rfl⟩;have hrk:rs.length<=6/\∀ r,r ∈ rs->r.ok:=by obtain ⟨p,h⟩:=h.a.out.out;exact h.rok
 have hAl:A.length<=72000:=by obtain ⟨p,h⟩:=h.a.out.out;rw[hAA];exact Wa.alen h
 have H0:Hid (Bq w w wb rb oa od c rs s q p):=⟨h,Kp.refl _ _⟩;have HNOW:Hid (∀ V Q,Bq w V wb rb oa od c rs s Q p->Calls prog 30 #[.pointer (some ⟨wb,0,none⟩)] V fun e w'=>e = .returned (.int .i64 (s.now:Int))/\Bq w w' wb rb oa od c rs s Q p):=fun V Q hb=>(now_any hb.b.a.out).mono (fun e w' ⟨h1,h2⟩=>⟨h1,by rw[h2];exact hb⟩);have HEPO:Hid (∀ V Q,Bq w V wb rb oa od c rs s Q p->Calls prog 25 #[.pointer (some ⟨wb,0,none⟩)] V fun e w'=>e = .returned (.int .i64 (K:Int))/\Bq w w' wb rb oa od c rs s Q p):=fun V Q hb=>(epochs_any hb.b.a.out).mono (fun e w' ⟨h1,q,h2⟩=>⟨by rw[h1,hKK],by rw[h2];exact hb.below (below_drewN (Below.refl _ V) q)⟩);have HDRO:Hid (∀ V Q,Bq w V wb rb oa od c rs s Q p->Calls prog 49 #[.pointer (some ⟨wb,0,none⟩)] V fun e w'=>e = .returned (dv s (los s 4))/\Bq w w' wb rb oa od c rs s Q p):=fun V Q hb=>(drops_any hb.b.a.out).mono (fun e w' ⟨h1,h2⟩=>⟨h1,hb.below h2⟩);have HTHR:Hid (∀ V Q,Bq w V wb rb oa od c rs s Q p->Calls prog 50 #[.pointer (some ⟨rb,0,none⟩)] V fun e w'=>e = .returned (dv s (los s 4))/\Bq w w' wb rb oa od c rs s Q p):=fun V Q hb=>(thrown_any ⟨p,hb.b.d⟩ hsf).mono (fun e w' ⟨h1,h2⟩=>⟨h1,hb.below h2⟩)
 have HALE:Hid (∀ V Q,Bq w V wb rb oa od c rs s Q p->Calls prog 23 #[.pointer (some ⟨wb,0,none⟩)] V fun e w'=>Ag1 e w w' wb rb oa od c rs s Q p A):=fun V Q hb=>(alerts_any hb.b.a.out).mono (fun e w' ⟨u,h1,h2,h3⟩=>by
  rw[<- hAA] at h2;obtain ⟨qa,ca,h4,h5⟩:=own_als h2;refine ⟨⟨qa,ca,by rw[h1,h4],h5,fun hne b hb2=>?_⟩,hb.below h3⟩;have h6:=(h2.lt b (by rw[h4,hb2];rfl)).1;apply Decidable.byContradiction;intro hn;have:=hb.b.d.lim b hn;omega)
 have HDAL:Hid (∀ V qa,Bq w V wb rb oa od c rs s q p->AlN V od qa A->Calls prog 52 #[.pointer (some ⟨rb,0,none⟩)] V fun e w'=>Ag1 e w w' wb rb oa od c rs s (q+300000000) p A/\AlN w' od qa A):=fun V qa hb hal=>(dalerts_any hb.b.d hsf hk hrk.1 hrk.2 (by omega)).mono (fun e w' ⟨u,h1,h2,h3⟩=>by
  rw[<- hAA] at h2;obtain ⟨qb,cb,h4,h5⟩:=own_als h2;refine ⟨⟨⟨qb,cb,by rw[h1,h4],h5,fun hne b hb2=>?_⟩,hb.asked h3⟩,hal.asked h3⟩;have h6:=(h2.lt b (by rw[h4,hb2];rfl)).1;apply Decidable.byContradiction;intro hn;have:=hb.b.d.lim b hn;omega)
 have HSAM:Hid (∀ V Q q1 q2 c1 c2,Bq w V wb rb oa od c rs s Q p->AlN V od q1 A->AlN V od q2 A->Calls prog 51 #[.slice q1 A.length c1,.slice q2 A.length c2] V fun e w'=>e = .returned (.bool true)/\Bq w w' wb rb oa od c rs s Q p):=fun V Q q1 q2 c1 c2 hb h1 h2=>(sameAlerts_eq A q1 q2 c1 c2 V h1.on h2.on (by omega)).mono (fun e w' ⟨h3,h4⟩=>⟨h3,hb.below h4⟩);have HCS:Hid (∀ V Q,Bq w V wb rb oa od c rs s Q p->V.cell? ⟨rb,37,none⟩=some (.int .i64 (s.now:Int))/\V.cell? ⟨rb,39,none⟩=some (.pointer (some ⟨p.tb,0,none⟩))/\∃ ep ec,V.cell? ⟨p.tb,2,none⟩=some (.slice ep K ec)):=fun V Q hb=>⟨hb.b.d.cell (by omega),hb.b.d.cell (by omega),by rw[hKK];exact hb.tb2⟩;have hnq:=neqD (los s 4:Int) (s.bad:Int) (s.nowh:Int) (s.late:Int) (s.full:Int);have HSF:Hid (Sf c s):=hsf;have HKK:Hid (K=s.cl c):=hKK;rw[<- hKK] at hk;unfold dv at HDRO HTHR;obtain ⟨q3,hq3⟩:∃ q3,q3=q+300000000:=⟨_,rfl⟩;rw[<- hq3] at HDAL;have HQ3:Hid (q3=q+300000000):=hq3;clear h hsf hKK hAA hrk hq3;obtain ⟨m0,m1,ep,ec,m2⟩:=HCS.out w q H0.out;have hB0:Bq w w.drew wb rb oa od c rs s q p:=H0.out.below (below_drewN (Below.refl _ w) 1);go_enter func18,ntmps18;go_upto_region 1 with fail
 go_cut [54] from 19 to 53 (fun v V=>v = .bool false/\Bq w V wb rb oa od c rs s q3 p)
 case first=>
  -- REGION 1
  have hbD:Bq w w.drew wb rb oa od c rs s q p:=hB0;have hS:w.drew.cell? ⟨rb,37,none⟩=some (.int .i64 (s.now:Int))/\w.drew.cell? ⟨rb,39,none⟩=some (.pointer (some ⟨p.tb,0,none⟩)):=⟨m0,m1⟩;clear m0 m1 m2;refine wp_region_held_drew (S:=fun V=>V.cell? ⟨rb,37,none⟩=some (.int .i64 (s.now:Int))/\V.cell? ⟨rb,39,none⟩=some (.pointer (some ⟨p.tb,0,none⟩))) (by kernel_rfl) hS (fun _=>?_);refine tk 0 19 (.pointer (some ⟨wb,0,none⟩)) rfl rfl (by kernel_rfl) (fun _ _ _ h=>h) (Or.inl ⟨by rfl,fun wx _=>by go_simp⟩) hS ?_;simp only[Act.put,sA,sB,sC];refine tk 2 21 (.pointer (some ⟨rb,0,none⟩)) rfl rfl (by kernel_rfl) (fun _ _ _ h=>h) (Or.inl ⟨by rfl,fun wx _=>by go_simp⟩) hS ?_;simp only[Act.put,sA,sB,sC];refine tk 3 22 (.pointer (some ⟨rb,0,none⟩)) rfl rfl (by kernel_rfl) (fun _ _ _ h=>h) (Or.inl ⟨by rfl,fun wx _=>by go_simp⟩) hS ?_;simp only[Act.put,sA,sB,sC];refine tk 4 23 (.pointer (some ⟨rb,35,none⟩)) rfl rfl (by kernel_rfl) (fun _ _ _ h=>h) (Or.inl ⟨by rfl,fun wx _=>by go_simp⟩) hS ?_;simp only[Act.put,sA,sB,sC];refine tk 5 24 (.pointer (some ⟨rb,37,none⟩)) rfl rfl (by kernel_rfl) (fun _ _ _ h=>h) (Or.inl ⟨by rfl,fun wx _=>by go_simp⟩) hS ?_;simp only[Act.put,sA,sB,sC];refine tk 6 25 (.int .i64 (s.now:Int)) rfl rfl (by kernel_rfl) (fun _ _ _ h=>h) (Or.inl ⟨by rfl,fun wx hS=>by (try dsimp only at hS);obtain ⟨r0,r1⟩:=hS;go_simp⟩) hS ?_;simp only[Act.put,sA,sB,sC];refine wpAnyH_ready (rs:=[1]) (by kernel_rfl) (by simp) ?_;refine AllReadyH.cons rfl (fun K hK=>?_) AllReadyH.nil;go_simp;refine (HNOW.out _ _ hbD).mono ?_;rintro e v1 ⟨rfl,hbv1⟩;have hSv1:v1.cell? ⟨rb,37,none⟩=some (.int .i64 (s.now:Int))/\v1.cell? ⟨rb,39,none⟩=some (.pointer (some ⟨p.tb,0,none⟩)):=⟨(HCS.out v1 _ hbv1).1,(HCS.out v1 _ hbv1).2.1⟩;go_wp2_with fail;refine hK.out _ _ hSv1 (fun _=>?_);clear hK K;refine tk 7 26 (.bool false) rfl rfl (by kernel_rfl) (fun _ _ _ h=>h) (Or.inl ⟨by rfl,fun wx _=>by go_simp⟩) hSv1 ?_;simp only[Act.put,sA,sB,sC];refine tk 8 27 (.bool false) rfl rfl (by kernel_rfl) (fun _ _ _ h=>h) (Or.inl ⟨by rfl,fun wx _=>by go_simp⟩) hSv1 ?_;simp only[Act.put,sA,sB,sC];refine tk 9 28 (.pointer (some ⟨wb,0,none⟩)) rfl rfl (by kernel_rfl) (fun _ _ _ h=>h) (Or.inl ⟨by rfl,fun wx _=>by go_simp⟩) hSv1 ?_;simp only[Act.put,sA,sB,sC];refine tk 11 30 (.pointer (some ⟨rb,0,none⟩)) rfl rfl (by kernel_rfl) (fun _ _ _ h=>h) (Or.inl ⟨by rfl,fun wx _=>by go_simp⟩) hSv1 ?_;simp only[Act.put,sA,sB,sC];refine tk 12 31 (.pointer (some ⟨rb,0,none⟩)) rfl rfl (by kernel_rfl) (fun _ _ _ h=>h) (Or.inl ⟨by rfl,fun wx _=>by go_simp⟩) hSv1 ?_;simp only[Act.put,sA,sB,sC];refine tk 13 32 (.pointer (some ⟨rb,39,none⟩)) rfl rfl (by kernel_rfl) (fun _ _ _ h=>h) (Or.inl ⟨by rfl,fun wx _=>by go_simp⟩) hSv1 ?_;simp only[Act.put,sA,sB,sC];refine tk 14 33 (.pointer (some ⟨p.tb,0,none⟩)) rfl rfl (by kernel_rfl) (fun _ _ _ h=>h) (Or.inl ⟨by rfl,fun wx hS=>by (try dsimp only at hS);obtain ⟨r0,r1⟩:=hS;go_simp⟩) hSv1 ?_;simp only[Act.put,sA,sB,sC];refine tk 15 34 (.pointer (some ⟨p.tb,0,none⟩)) rfl rfl (by kernel_rfl) (fun _ _ _ h=>h) (Or.inl ⟨by rfl,fun wx _=>by go_simp⟩) hSv1 ?_;simp only[Act.put,sA,sB,sC];refine tk 16 35 (.pointer (some ⟨p.tb,2,none⟩)) rfl rfl (by kernel_rfl) (fun _ _ _ h=>h) (Or.inl ⟨by rfl,fun wx _=>by go_simp⟩) hSv1 ?_;simp only[Act.put,sA,sB,sC];obtain ⟨-,-,ep1,ec1,n2⟩:=HCS.out v1 _ hbv1;refine wpAnyH_ready (rs:=[10,17]) (by kernel_rfl) (by simp) ?_;refine AllReadyH.cons rfl (fun K hK=>?_) (AllReadyH.cons rfl (fun K hK=>?_) AllReadyH.nil)
  ·go_simp;refine (HEPO.out _ _ hbv1).mono ?_;rintro e v2 ⟨rfl,hbv2⟩;have hSv2:v2.cell? ⟨rb,37,none⟩=some (.int .i64 (s.now:Int))/\v2.cell? ⟨rb,39,none⟩=some (.pointer (some ⟨p.tb,0,none⟩)):=⟨(HCS.out v2 _ hbv2).1,(HCS.out v2 _ hbv2).2.1⟩;obtain ⟨-,-,ep2,ec2,o2⟩:=HCS.out v2 _ hbv2;go_wp2_with fail;refine hK.out _ _ hSv2 (fun _=>?_);clear hK K;refine wpAnyH_ready (rs:=[17]) (by kernel_rfl) (by simp) ?_;refine AllReadyH.cons rfl (fun K hK=>?_) AllReadyH.nil;go_simp;refine hK.out _ _ hSv2 (fun _=>?_);clear hK K;refine tk 18 37 (.int .i64 (K:Int)) rfl rfl (by kernel_rfl) (fun _ _ _ h=>h) (Or.inl ⟨by rfl,fun wx _=>by go_simp⟩) hSv2 ?_;simp only[Act.put,sA,sB,sC];refine tk 19 38 (.bool false) rfl rfl (by kernel_rfl) (fun _ _ _ h=>h) (Or.inl ⟨by rfl,fun wx _=>by go_simp⟩) hSv2 ?_;simp only[Act.put,sA,sB,sC];refine tk 20 39 (.bool false) rfl rfl (by kernel_rfl) (fun _ _ _ h=>h) (Or.inl ⟨by rfl,fun wx _=>by go_simp⟩) hSv2 ?_;simp only[Act.put,sA,sB,sC];refine tk 21 40 (.bool false) rfl rfl (by kernel_rfl) (fun _ _ _ h=>h) (Or.inl ⟨by rfl,fun wx _=>by go_simp⟩) hSv2 ?_;simp only[Act.put,sA,sB,sC];refine tk 22 41 (.pointer (some ⟨wb,0,none⟩)) rfl rfl (by kernel_rfl) (fun _ _ _ h=>h) (Or.inl ⟨by rfl,fun wx _=>by go_simp⟩) hSv2 ?_;simp only[Act.put,sA,sB,sC];refine tk 24 43 (.pointer (some ⟨rb,0,none⟩)) rfl rfl (by kernel_rfl) (fun _ _ _ h=>h) (Or.inl ⟨by rfl,fun wx _=>by go_simp⟩) hSv2 ?_;simp only[Act.put,sA,sB,sC];refine wpAnyH_ready (rs:=[23]) (by kernel_rfl) (by simp) ?_;refine AllReadyH.cons rfl (fun K hK=>?_) AllReadyH.nil;go_simp;refine (HDRO.out _ _ hbv2).mono ?_;rintro e v3 ⟨rfl,hbv3⟩;have hSv3:v3.cell? ⟨rb,37,none⟩=some (.int .i64 (s.now:Int))/\v3.cell? ⟨rb,39,none⟩=some (.pointer (some ⟨p.tb,0,none⟩)):=⟨(HCS.out v3 _ hbv3).1,(HCS.out v3 _ hbv3).2.1⟩;go_wp2_with fail;refine hK.out _ _ hSv3 (fun _=>?_);clear hK K;refine wpAnyH_ready (rs:=[25]) (by kernel_rfl) (by simp) ?_;refine AllReadyH.cons rfl (fun K hK=>?_) AllReadyH.nil;go_simp;refine (HTHR.out _ _ hbv3).mono ?_;rintro e v4 ⟨rfl,hbv4⟩;have hSv4:v4.cell? ⟨rb,37,none⟩=some (.int .i64 (s.now:Int))/\v4.cell? ⟨rb,39,none⟩=some (.pointer (some ⟨p.tb,0,none⟩)):=⟨(HCS.out v4 _ hbv4).1,(HCS.out v4 _ hbv4).2.1⟩;go_wp2_with fail;refine hK.out _ _ hSv4 (fun _=>?_);clear hK K;refine tk 26 45 (.bool false) rfl rfl (by kernel_rfl) (fun _ _ _ h=>h) (Or.inl ⟨by rfl,fun wx _=>by go_simp⟩) hSv4 ?_;simp only[Act.put,sA,sB,sC];refine tk 27 46 (.bool false) rfl rfl (by kernel_rfl) (fun _ _ _ h=>h) (Or.inl ⟨by rfl,fun wx _=>by go_simp⟩) hSv4 ?_;simp only[Act.put,sA,sB,sC];refine tk 28 47 (.bool false) rfl rfl (by kernel_rfl) (fun _ _ _ h=>h) (Or.inl ⟨by rfl,fun wx _=>by go_simp⟩) hSv4 ?_;simp only[Act.put,sA,sB,sC];refine tk 29 48 (.pointer (some ⟨wb,0,none⟩)) rfl rfl (by kernel_rfl) (fun _ _ _ h=>h) (Or.inl ⟨by rfl,fun wx _=>by go_simp⟩) hSv4 ?_;simp only[Act.put,sA,sB,sC];refine tk 31 50 (.pointer (some ⟨rb,0,none⟩)) rfl rfl (by kernel_rfl) (fun _ _ _ h=>h) (Or.inl ⟨by rfl,fun wx _=>by go_simp⟩) hSv4 ?_;simp only[Act.put,sA,sB,sC];refine wpAnyH_ready (rs:=[30]) (by kernel_rfl) (by simp) ?_;refine AllReadyH.cons rfl (fun K hK=>?_) AllReadyH.nil;go_simp;refine (HALE.out _ _ hbv4).mono ?_;rintro e v5 ⟨⟨qa,ca,rfl,hal5⟩,hbv5⟩;have hSv5:v5.cell? ⟨rb,37,none⟩=some (.int .i64 (s.now:Int))/\v5.cell? ⟨rb,39,none⟩=some (.pointer (some ⟨p.tb,0,none⟩)):=⟨(HCS.out v5 _ hbv5).1,(HCS.out v5 _ hbv5).2.1⟩;go_wp2_with fail;refine hK.out _ _ hSv5 (fun _=>?_);clear hK K;refine wpAnyH_ready (rs:=[32]) (by kernel_rfl) (by simp) ?_;refine AllReadyH.cons rfl (fun K hK=>?_) AllReadyH.nil;go_simp;refine (HDAL.out _ _ hbv5 hal5).mono ?_;rintro e v6 ⟨⟨⟨qd,cd,rfl,hal6⟩,hbv6⟩,hal7⟩;have hSv6:v6.cell? ⟨rb,37,none⟩=some (.int .i64 (s.now:Int))/\v6.cell? ⟨rb,39,none⟩=some (.pointer (some ⟨p.tb,0,none⟩)):=⟨(HCS.out v6 _ hbv6).1,(HCS.out v6 _ hbv6).2.1⟩;go_wp2_with fail;refine hK.out _ _ hSv6 (fun _=>?_);clear hK K;refine wpAnyH_ready (rs:=[33]) (by kernel_rfl) (by simp) ?_;refine AllReadyH.cons rfl (fun K hK=>?_) AllReadyH.nil;go_simp;refine (HSAM.out _ _ _ _ _ _ hbv6 hal7 hal6).mono ?_;rintro e v7 ⟨rfl,hbv7⟩;have hSv7:v7.cell? ⟨rb,37,none⟩=some (.int .i64 (s.now:Int))/\v7.cell? ⟨rb,39,none⟩=some (.pointer (some ⟨p.tb,0,none⟩)):=⟨(HCS.out v7 _ hbv7).1,(HCS.out v7 _ hbv7).2.1⟩;go_wp2_with fail;refine hK.out _ _ hSv7 (fun _=>?_);clear hK K;refine tk 34 53 (.bool false) rfl rfl (by kernel_rfl) (fun _ _ _ h=>h) (Or.inl ⟨by rfl,fun wx _=>by go_simp⟩) hSv7 ?_;simp only[Act.put,sA,sB,sC];refine tk 35 54 (.bool false) rfl rfl (by kernel_rfl) (fun _ _ _ h=>h) (Or.inl ⟨by rfl,fun wx _=>by go_simp⟩) hSv7 ?_;simp only[Act.put,sA,sB,sC];refine wpAnyH_done (by kernel_rfl) ?_ _;have HB7:Hid (Bq w v7 wb rb oa od c rs s q3 p):=hbv7;clear hbD hbv1 hbv2 hbv3 hbv4 hbv5 hbv6 hbv7 hal5 hal6 hal7 hS hSv1 hSv2 hSv3 hSv4 hSv5 hSv6 hSv7;go_wp2;go_meet
   case rel=>exact ⟨rfl,HB7.out⟩
  ·go_simp;refine hK.out _ _ hSv1 (fun _=>?_);clear hK K;refine tk 18 37 (.int .i64 (K:Int)) rfl rfl (by kernel_rfl) (fun _ _ _ h=>h) (Or.inl ⟨by rfl,fun wx _=>by go_simp⟩) hSv1 ?_;simp only[Act.put,sA,sB,sC];refine wpAnyH_ready (rs:=[10]) (by kernel_rfl) (by simp) ?_;refine AllReadyH.cons rfl (fun K hK=>?_) AllReadyH.nil;go_simp;refine (HEPO.out _ _ hbv1).mono ?_;rintro e v2 ⟨rfl,hbv2⟩;have hSv2:v2.cell? ⟨rb,37,none⟩=some (.int .i64 (s.now:Int))/\v2.cell? ⟨rb,39,none⟩=some (.pointer (some ⟨p.tb,0,none⟩)):=⟨(HCS.out v2 _ hbv2).1,(HCS.out v2 _ hbv2).2.1⟩;go_wp2_with fail;refine hK.out _ _ hSv2 (fun _=>?_);clear hK K;refine tk 19 38 (.bool false) rfl rfl (by kernel_rfl) (fun _ _ _ h=>h) (Or.inl ⟨by rfl,fun wx _=>by go_simp⟩) hSv2 ?_;simp only[Act.put,sA,sB,sC];refine tk 20 39 (.bool false) rfl rfl (by kernel_rfl) (fun _ _ _ h=>h) (Or.inl ⟨by rfl,fun wx _=>by go_simp⟩) hSv2 ?_;simp only[Act.put,sA,sB,sC];refine tk 21 40 (.bool false) rfl rfl (by kernel_rfl) (fun _ _ _ h=>h) (Or.inl ⟨by rfl,fun wx _=>by go_simp⟩) hSv2 ?_;simp only[Act.put,sA,sB,sC];refine tk 22 41 (.pointer (some ⟨wb,0,none⟩)) rfl rfl (by kernel_rfl) (fun _ _ _ h=>h) (Or.inl ⟨by rfl,fun wx _=>by go_simp⟩) hSv2 ?_;simp only[Act.put,sA,sB,sC];refine tk 24 43 (.pointer (some ⟨rb,0,none⟩)) rfl rfl (by kernel_rfl) (fun _ _ _ h=>h) (Or.inl ⟨by rfl,fun wx _=>by go_simp⟩) hSv2 ?_;simp only[Act.put,sA,sB,sC];refine wpAnyH_ready (rs:=[23]) (by kernel_rfl) (by simp) ?_;refine AllReadyH.cons rfl (fun K hK=>?_) AllReadyH.nil;go_simp;refine (HDRO.out _ _ hbv2).mono ?_;rintro e v3 ⟨rfl,hbv3⟩;have hSv3:v3.cell? ⟨rb,37,none⟩=some (.int .i64 (s.now:Int))/\v3.cell? ⟨rb,39,none⟩=some (.pointer (some ⟨p.tb,0,none⟩)):=⟨(HCS.out v3 _ hbv3).1,(HCS.out v3 _ hbv3).2.1⟩;go_wp2_with fail;refine hK.out _ _ hSv3 (fun _=>?_);clear hK K;refine wpAnyH_ready (rs:=[25]) (by kernel_rfl) (by simp) ?_;refine AllReadyH.cons rfl (fun K hK=>?_) AllReadyH.nil;go_simp;refine (HTHR.out _ _ hbv3).mono ?_;rintro e v4 ⟨rfl,hbv4⟩;have hSv4:v4.cell? ⟨rb,37,none⟩=some (.int .i64 (s.now:Int))/\v4.cell? ⟨rb,39,none⟩=some (.pointer (some ⟨p.tb,0,none⟩)):=⟨(HCS.out v4 _ hbv4).1,(HCS.out v4 _ hbv4).2.1⟩;go_wp2_with fail;refine hK.out _ _ hSv4 (fun _=>?_);clear hK K;refine tk 26 45 (.bool false) rfl rfl (by kernel_rfl) (fun _ _ _ h=>h) (Or.inl ⟨by rfl,fun wx _=>by go_simp⟩) hSv4 ?_;simp only[Act.put,sA,sB,sC];refine tk 27 46 (.bool false) rfl rfl (by kernel_rfl) (fun _ _ _ h=>h) (Or.inl ⟨by rfl,fun wx _=>by go_simp⟩) hSv4 ?_;simp only[Act.put,sA,sB,sC];refine tk 28 47 (.bool false) rfl rfl (by kernel_rfl) (fun _ _ _ h=>h) (Or.inl ⟨by rfl,fun wx _=>by go_simp⟩) hSv4 ?_;simp only[Act.put,sA,sB,sC];refine tk 29 48 (.pointer (some ⟨wb,0,none⟩)) rfl rfl (by kernel_rfl) (fun _ _ _ h=>h) (Or.inl ⟨by rfl,fun wx _=>by go_simp⟩) hSv4 ?_;simp only[Act.put,sA,sB,sC];refine tk 31 50 (.pointer (some ⟨rb,0,none⟩)) rfl rfl (by kernel_rfl) (fun _ _ _ h=>h) (Or.inl ⟨by rfl,fun wx _=>by go_simp⟩) hSv4 ?_;simp only[Act.put,sA,sB,sC];refine wpAnyH_ready (rs:=[30]) (by kernel_rfl) (by simp) ?_;refine AllReadyH.cons rfl (fun K hK=>?_) AllReadyH.nil;go_simp;refine (HALE.out _ _ hbv4).mono ?_;rintro e v5 ⟨⟨qa,ca,rfl,hal5⟩,hbv5⟩;have hSv5:v5.cell? ⟨rb,37,none⟩=some (.int .i64 (s.now:Int))/\v5.cell? ⟨rb,39,none⟩=some (.pointer (some ⟨p.tb,0,none⟩)):=⟨(HCS.out v5 _ hbv5).1,(HCS.out v5 _ hbv5).2.1⟩;go_wp2_with fail;refine hK.out _ _ hSv5 (fun _=>?_);clear hK K;refine wpAnyH_ready (rs:=[32]) (by kernel_rfl) (by simp) ?_;refine AllReadyH.cons rfl (fun K hK=>?_) AllReadyH.nil;go_simp;refine (HDAL.out _ _ hbv5 hal5).mono ?_;rintro e v6 ⟨⟨⟨qd,cd,rfl,hal6⟩,hbv6⟩,hal7⟩;have hSv6:v6.cell? ⟨rb,37,none⟩=some (.int .i64 (s.now:Int))/\v6.cell? ⟨rb,39,none⟩=some (.pointer (some ⟨p.tb,0,none⟩)):=⟨(HCS.out v6 _ hbv6).1,(HCS.out v6 _ hbv6).2.1⟩;go_wp2_with fail;refine hK.out _ _ hSv6 (fun _=>?_);clear hK K;refine wpAnyH_ready (rs:=[33]) (by kernel_rfl) (by simp) ?_;refine AllReadyH.cons rfl (fun K hK=>?_) AllReadyH.nil;go_simp;refine (HSAM.out _ _ _ _ _ _ hbv6 hal7 hal6).mono ?_;rintro e v7 ⟨rfl,hbv7⟩;have hSv7:v7.cell? ⟨rb,37,none⟩=some (.int .i64 (s.now:Int))/\v7.cell? ⟨rb,39,none⟩=some (.pointer (some ⟨p.tb,0,none⟩)):=⟨(HCS.out v7 _ hbv7).1,(HCS.out v7 _ hbv7).2.1⟩;go_wp2_with fail;refine hK.out _ _ hSv7 (fun _=>?_);clear hK K;refine tk 34 53 (.bool false) rfl rfl (by kernel_rfl) (fun _ _ _ h=>h) (Or.inl ⟨by rfl,fun wx _=>by go_simp⟩) hSv7 ?_;simp only[Act.put,sA,sB,sC];refine tk 35 54 (.bool false) rfl rfl (by kernel_rfl) (fun _ _ _ h=>h) (Or.inl ⟨by rfl,fun wx _=>by go_simp⟩) hSv7 ?_;simp only[Act.put,sA,sB,sC];refine wpAnyH_done (by kernel_rfl) ?_ _;have HB7:Hid (Bq w v7 wb rb oa od c rs s q3 p):=hbv7;clear hbD hbv1 hbv2 hbv3 hbv4 hbv5 hbv6 hbv7 hal5 hal6 hal7 hS hSv1 hSv2 hSv3 hSv4 hSv5 hSv6 hSv7;go_wp2;go_meet
   case rel=>exact ⟨rfl,HB7.out⟩
 case rest=>
  obtain ⟨rfl,hbq⟩:=hcut;have HC:Hid (Bq w wc wb rb oa od c rs s q3 p):=hbq;clear hbq m0 m1 m2 hB0 HNOW HEPO HDRO HTHR HALE HDAL HSAM hnq H0;have HWB:Hid (∀ V z,btw z 0 3=false->Calls prog 53 #[.pointer (some ⟨wb,0,none⟩),.int .i64 z] V fun e w'=>e = .returned (.tuple #[.int .i64 0,.iface 105 (.int .i64 1)])/\w'=V):=fun V z hz=>warm_bad z hz;have HWO:Hid (∀ V Q (r:Nat),Bq w V wb rb oa od c rs s Q p->r<4->Calls prog 53 #[.pointer (some ⟨wb,0,none⟩),.int .i64 (r:Int)] V fun e w'=>e = .returned (.tuple #[.int .i64 (s.warm r),.nilIface])/\w'=V):=fun V Q r hb hr=>warm_ok r hb.b.a.out hr;have HSE:Hid (∀ V,Calls prog 12 #[.iface 105 (.int .i64 1),.int .i64 1] V fun e w'=>e = .returned (.bool true)/\w'=V):=fun V=>TkA.same_err 1 V (by decide);have HWC:Hid (∀ V Q (r:Nat),Bq w V wb rb oa od c rs s Q p->r<4->V.cell? ⟨rb,31+r,none⟩=some (.int .i64 (s.warm r))):=fun V Q r hb hr=>by rw[hb.b.d.cell (by omega),dcv_w c s p (by omega) (by omega),show 31+r-31=r by omega]
  go_wp2;go_loopw [5,6,7] (fun i _ _ V=>∃ z:Int,-1<=z/\z<=5/\i = .int .i64 z/\Bq w V wb rb oa od c rs s q3 p) (fun i _ _ _=>(5-intOf i).toNat)
  case atStart=>exact ⟨-1,by omega,by omega,rfl,HC.out⟩
  case round=>
   obtain ⟨z,hz0,hz5,rfl,hbq⟩:=hrel;have HB:Hid (Bq w wr wb rb oa od c rs s q3 p):=hbq;clear hbq HC;by_cases h5:z=5
   case pos=>
    subst h5;clear HWB HWO HSE HWC;obtain ⟨i9,hi9,hz9,hs9,hb9⟩:=info_parts WbA.info9;have hknw:=HB.out.b.d.knw;have h12:=HSF.out.few;obtain ⟨L,hL⟩:∃ L,L=kn s.all:=⟨_,rfl⟩;rw[<- hL] at hknw h12;obtain ⟨N,hN⟩:∃ N,N=L.length:=⟨_,rfl⟩;have HN:Hid (N=L.length):=hN;have HL:Hid (L=kn s.all):=hL
    obtain ⟨kq,kc,hkv,hkn,hkc⟩:∃ kq kc,p.kv = .slice kq N kc/\(kq=none->N=0/\kc=0)/\(N≠0->∃ ad,kq=some ad/\∀ j u,(L.map Value.string)[j]?=some u->wr.cell? (ad.add j)=some u):=by
     rw[hN];rcases hknw.2 with ⟨h1,h0⟩ | ⟨g,cap,cur,hv,_⟩
     ·exact ⟨none,0,by rw[h1,h0],fun _=>⟨h0,rfl⟩,fun hn=>absurd h0 hn⟩
     ·exact ⟨_,_,hv,(fun e=>by cases e),(fun _=>⟨_,rfl,fun j u hj=>hknw.cells (g:=g) (by rw[hv];rfl) j u hj⟩)⟩
    have c40:wr.cell? ⟨rb,40,none⟩=some (.slice kq N kc):=(by rw[<- hkv];exact HB.out.b.d.cell (by omega));have HNIL:Hid (kq=none->N=0/\kc=0):=hkn;have HLEN:Hid ((L.map Value.string).length=N*1):=(by show _ = _;rw[List.length_map,hN];omega);have HNEWS:Hid (N≠0->∃ ad,kq=some ad/\∀ j u,(L.map Value.string)[j]?=some u->wr.cell? (ad.add j)=some u):=hkc;have HONE:Hid (∀ u ∈ L.map Value.string,u.oneCell'=true):=fun u hu=>(by obtain ⟨g,_,rfl⟩:=List.mem_map.1 hu;rfl);have hN12:N<=12:=(by rw[hN];exact h12);have HML:Hid (N<=maxLen):=(by show _<=_;unfold maxLen;omega);have HBY:Hid (N*16<=140737488355328):=(by show _<=_;omega);clear hknw h12 hkv hkn hkc hL hN;go_wp2_with (at_builtin;refine WeJ.wpList_append_copy _ rfl _ _ 63 rfl 9 i9 (.string ⟨#[]⟩) 1 16 underlying63 hi9 hz9 hs9 hb9 rfl (by decide) rfl kq N kc (L.map Value.string) rfl HNIL.out HLEN.out HNEWS.out HONE.out HML.out HBY.out ?_);intro v1 w1 hown1 hb1;have HOWN:Hid ((w1.alloc (.cells #[.string ⟨#[120]⟩] 9)).ownsRow wr.heap.size 9 1 v1 N (L.map Value.string)):=hown1.alloc _;have HB1:Hid (Below wr.heap.size wr (w1.alloc (.cells #[.string ⟨#[120]⟩] 9))):=hb1.alloc hb1.size _;have HUS:Hid ((w1.alloc (.cells #[.string ⟨#[120]⟩] 9)).heap.size=w1.heap.size+1):=by show _ = _;simp
    have HNEW:Hid (∀ j' u,([.string ⟨#[120]⟩]:List Value)[j']?=some u->(w1.alloc (.cells #[.string ⟨#[120]⟩] 9)).cell? ((⟨w1.heap.size,0,none⟩:Addr).add j')=some u):=by
     intro j' u hj';rw[addr_add]
     match j',hj' with
     | 0,hj'=>simp at hj';subst hj';simp
    have HONE2:Hid (∀ u ∈ ([.string ⟨#[120]⟩]:List Value),u.oneCell'=true):=fun u hu=>(by simp at hu;subst hu;rfl);have HML2:Hid (N+1<=maxLen):=(by show _<=_;unfold maxLen;omega);have HBY2:Hid ((N+1)*16<=140737488355328):=(by show _<=_;omega);have HBS:Hid (wr.heap.size<=(w1.alloc (.cells #[.string ⟨#[120]⟩] 9)).heap.size):=HB1.out.size;clear hown1 hb1 c40;go_wp2_with (at_builtin;refine wpList_append_lies _ rfl _ _ 63 rfl wr.heap.size 9 i9 (.string ⟨#[]⟩) 1 16 underlying63 hi9 hz9 hs9 hb9 rfl (by decide) _ _ _ rfl HOWN.out ⟨w1.heap.size,0,none⟩ 1 1 [.string ⟨#[120]⟩] rfl rfl HNEW.out HONE2.out (by omega) HML2.out HBY2.out HBS.out (w1.heap.size+1) HUS.out ?_);intro tg tcap w2 hown2 hgrow2 hat2 hlt2
    have hbw2:Below wr.heap.size wr w2:=⟨hgrow2.os.trans HB1.out.os,hgrow2.tape.trans HB1.out.tape,hgrow2.output.trans HB1.out.output,Nat.le_trans HB1.out.size hgrow2.size,fun b hb=>by
     rw[hgrow2.block b (Nat.lt_of_lt_of_le hb HB1.out.size) (fun e=>by have:=(HOWN.out.lt b e.symm).1;omega)];exact HB1.out.block b hb⟩
    obtain ⟨T,hT⟩:∃ T,T=L ++ [(⟨#[120]⟩:ByteArray)]:=⟨_,rfl⟩;have HTN:Hid (T.length=N+1):=by show _ = _;rw[hT,List.length_append,HN.out];rfl
    have HTS:Hid (∀ g,g ∈ T->g.size<=100000):=fun g hg=>by
     rw[hT] at hg;rcases List.mem_append.1 hg with h | h
     ·rw[HL.out,kn_mem] at h;obtain ⟨x,hx,rfl⟩:=h;have:=(EpM.okS_iff.1 (HSF.out.sok x hx).1).g;omega
     ·simp only[List.mem_singleton] at h;subst h;decide
    have HBT:Hid (Bt w w2 wb rb oa od c rs s (QD q3 0 0) p tg T):=by
     refine ⟨by rw[show QD q3 0 0=q3 from rfl];exact HB.out.below hbw2,⟨fun j g hj=>?_,hlt2,?_⟩⟩
     ·have h1:=hown2.cells (g:=tg) rfl j (.string g) (by
       have e:L.map Value.string ++ [.string (⟨#[120]⟩:ByteArray)]=T.map Value.string:=(by rw[hT,List.map_append];rfl);rw[e,List.getElem?_map,hj];rfl)
      rw[addr_add] at h1;exact h1
     ·have h1:=(hown2.lt tg rfl).1;apply Decidable.byContradiction;intro hn;have:=HB.out.b.d.lim tg hn;omega
    have hq39:q3<=5300000000:=by have:=HQ3.out;omega
    have HFF:Hid (∀ (g:ByteArray) (z:Int),g.size<=100000->∃ (P:Int) (E:Nat) (X:ByteArray),∀ V Q,Bt w V wb rb oa od c rs s Q p tg T->Q<=6000000000 ->
      (Calls prog 29 #[.pointer (some ⟨wb,0,none⟩),.string g,.int .i64 z] V fun x w'=>x = .returned (.tuple #[.int .i64 P,errV E])/\Bt w w' wb rb oa od c rs s Q p tg T) /\
      (Calls prog 54 #[.pointer (some ⟨p.tb,0,none⟩),.string g,.int .i64 z] V fun x w'=>x = .returned (.tuple #[.int .i64 P,.int .i64 (E:Int)])/\Bt w w' wb rb oa od c rs s (Q+1) p tg T) /\
      (Calls prog 55 #[.pointer (some ⟨wb,0,none⟩),.string g,.int .i64 z] V fun x w'=>x = .returned (.tuple #[.string X,errV E])/\Bt w w' wb rb oa od c rs s Q p tg T) /\
      (Calls prog 56 #[.pointer (some ⟨rb,0,none⟩),.string g,.int .i64 z] V fun x w'=>x = .returned (.tuple #[.string X,.int .i64 (E:Int)])/\Bt w w' wb rb oa od c rs s (Q+3000000) p tg T)):=fun g z hg=>by
     obtain ⟨X,hX⟩:=parEx HB.out.b.a.out g z;refine ⟨(wv (s.cl c) (told g (Ep c s (s.cl c))) z (whr g (epOf (Ep c s (s.cl c))) c.W c.need z.toNat)).1,(wv (s.cl c) (told g (Ep c s (s.cl c))) z (whr g (epOf (Ep c s (s.cl c))) c.W c.need z.toNat)).2,X,fun V Q hb hQ=>⟨?_,?_,?_,?_⟩⟩
     ·exact (where_any g z hb.b.b.a.out hg).mono (fun x w' ⟨h1,h2⟩=>⟨h1,hb.below h2⟩)
     ·exact (dwhere_any g z hb.b.b.d HSF.out hg (by omega)).mono (fun x w' ⟨h1,h2⟩=>⟨h1,hb.asked h2⟩)
     ·exact (parent_any g z hb.b.b.a.out hg hX).mono (fun x w' ⟨h1,h2⟩=>⟨h1,hb.below h2⟩)
     ·exact (dparent_any g z hb.b.b.d HSF.out (by rw[<- HKK.out];exact hk) hg hX hQ).mono (fun x w' ⟨h1,h2⟩=>⟨h1,hb.asked h2⟩)
    have HSM:Hid (∀ V E,Calls prog 12 #[errV E,.int .i64 (E:Int)] V fun e w'=>e = .returned (.bool true)/\w'=V):=fun V E=>TkA.same_any E V;obtain ⟨lo,hlo⟩:∃ lo:Int,lo=max (-1) ((K:Int)-3):=⟨_,rfl⟩;have hlo1 : -1<=lo/\lo<=(K:Int):=(by omega);have hlo2:(K:Int)-lo<=3:=(by omega);have HLO:Hid (lo=max (-1) ((K:Int)-3)):=hlo;have hw3:IntKind.i64.wrap ((K:Int)-3)=(K:Int)-3:=(by simp[IntKind.wrap,IntKind.bits,IntKind.signed];omega);clear hown2 hgrow2 hat2 hlt2 hbw2 hT HOWN HB1 HB HNIL HNEWS hlo HONE HLEN;go_wp2;go_loopw [9,10] (fun i _ V=>∃ j:Nat,j<=N+1/\i = .int .i64 (j:Int)/\Bt w V wb rb oa od c rs s (QD q3 j 0) p tg T) (fun i _ _=>N+1-(intOf i).toNat)
    case atStart=>exact ⟨0,Nat.zero_le _,rfl,HBT.out⟩
    case round=>
     obtain ⟨j,hj,rfl,hbt⟩:=hrel;have HB2:Hid (Bt w wr wb rb oa od c rs s (QD q3 j 0) p tg T):=hbt;obtain ⟨-,c39,ep2,ec2,c2⟩:=HCS.out _ _ hbt.b;clear hbt HBT;by_cases hjl:j<N+1
     case neg=>have hJI:¬ (j:Int)<((N+1:Nat):Int):=(by omega);have hJI2:¬ (j:Int)<(N:Int)+1:=(by omega);have HFI:Hid (Kp (fun b=>od b≠0) w wr):=HB2.out.b.kp;go_wp2;go_ret;exact ⟨rfl,HFI.out⟩
     case pos=>
      have hJI:(j:Int)<((N+1:Nat):Int):=(by omega);have hJI2:(j:Int)<(N:Int)+1:=(by omega);have hj':j<T.length:=(by rw[HTN.out];exact hjl);have hgj:=List.getElem?_eq_getElem hj';have hgs:=HTS.out _ (List.getElem_mem hj');generalize T[j]=g at *;have HGC:Hid (∀ V Q,Bt w V wb rb oa od c rs s Q p tg T->V.cell? ⟨tg,j,none⟩=some (.string g)):=fun V Q hb=>hb.t.cel j g hgj;clear hgj hj';have hmx:max (-1) ((K:Int)-3)=lo:=HLO.out.symm;go_wp2;clear c39 c2;go_loopw [10,11,12,13,14,15,16,17,18] (fun i _ _ _ _ _ _ _ _ V=>∃ t:Nat,(lo+(t:Int)<=(K:Int)+1)/\i = .int .i64 (lo+(t:Int))/\Bt w V wb rb oa od c rs s (QD q3 j t) p tg T) (fun i _ _ _ _ _ _ _ _ _=>((K:Int)+1-intOf i).toNat)
      case atStart=>exact ⟨0,by omega,by simp,HB2.out⟩
      case round=>
       obtain ⟨t,ht,rfl,hbt⟩:=hrel;have HB3:Hid (Bt w wr wb rb oa od c rs s (QD q3 j t) p tg T):=hbt;obtain ⟨-,c39,ep3,ec3,c2⟩:=HCS.out _ _ hbt.b;clear hbt HB2;obtain ⟨z,hz⟩:∃ z:Int,z=lo+(t:Int):=⟨_,rfl⟩;have ht8:t<=5:=(by omega);have HZ:Hid (z=lo+(t:Int)):=hz;have hz1:(-1:Int)<=z:=(by omega);have hz2:z<=(101:Int):=(by omega);rw[<- hz] at ht ⊢;clear hz;by_cases hzk:z<=(K:Int)
       case neg=>
        have HNX:Hid (Bt w wr wb rb oa od c rs s (QD q3 (j+1) 0) p tg T):=HB3.out.more (QD_row q3 j t (by omega));go_wp2;go_roundw
        case rel=>exact ⟨j+1,by omega,by go_num,HNX.out⟩
        case measure=>simp[intOf];omega
       case pos=>
        obtain ⟨P,E,X,hPX⟩:=HFF.out g z hgs;have HP:Hid (∀ V Q,_->_->_):=hPX;have hql:=QD_lim q3 j t hq39 (by omega) (by omega);have HQL:Hid (QD q3 j t+1<=6000000000):=hql;have HQS:Hid (QD q3 j t+1+3000000<=QD q3 j (t+1)):=QD_step q3 j t;have hgw:=HGC.out _ _ HB3.out;generalize QD q3 j t=QQ at *;have HP1:Hid (Calls prog 29 #[.pointer (some ⟨wb,0,none⟩),.string g,.int .i64 z] wr fun x w'=>x = .returned (.tuple #[.int .i64 P,errV E])/\Bt w w' wb rb oa od c rs s QQ p tg T):=(hPX wr QQ HB3.out (by omega)).1;have HP2:Hid (∀ V,Bt w V wb rb oa od c rs s QQ p tg T->Calls prog 54 #[.pointer (some ⟨p.tb,0,none⟩),.string g,.int .i64 z] V fun x w'=>x = .returned (.tuple #[.int .i64 P,.int .i64 (E:Int)])/\Bt w w' wb rb oa od c rs s (QQ+1) p tg T):=fun V hb=>(hPX V QQ hb (by omega)).2.1;have HP3:Hid (∀ V,Bt w V wb rb oa od c rs s (QQ+1) p tg T->Calls prog 55 #[.pointer (some ⟨wb,0,none⟩),.string g,.int .i64 z] V fun x w'=>x = .returned (.tuple #[.string X,errV E])/\Bt w w' wb rb oa od c rs s (QQ+1) p tg T):=fun V hb=>(hPX V (QQ+1) hb (by omega)).2.2.1;have HP4:Hid (∀ V,Bt w V wb rb oa od c rs s (QQ+1) p tg T->Calls prog 56 #[.pointer (some ⟨rb,0,none⟩),.string g,.int .i64 z] V fun x w'=>x = .returned (.tuple #[.string X,.int .i64 (E:Int)])/\Bt w w' wb rb oa od c rs s (QQ+1+3000000) p tg T):=fun V hb=>(hPX V (QQ+1) hb (by omega)).2.2.2;have HSME:Hid (∀ V,Calls prog 12 #[errV E,.int .i64 (E:Int)] V fun e w'=>e = .returned (.bool true)/\w'=V):=fun V=>HSM.out V E;have hxx:(X.toList == X.toList)=true:=(by simp);have hxn:(X.toList != X.toList)=false:=(by simp);obtain ⟨ev,hev⟩:∃ ev,ev=errV E:=⟨_,rfl⟩;rw[<- hev] at HP1 HP3 HSME;obtain ⟨q4,hq4⟩:∃ q4,q4=QQ+1:=⟨_,rfl⟩;rw[<- hq4] at HP2 HP3 HP4;obtain ⟨q5,hq5⟩:∃ q5,q5=q4+3000000:=⟨_,rfl⟩;rw[<- hq5] at HP4;have HQ5:Hid (q5<=QD q3 j (t+1)):=(by show _<=_;have:=HQS.out;omega);clear hPX HP hql hev hq4 hq5 HQL HQS;go_wp2_with fail;refine Calls.mono HP1.out ?_;rintro e w3 ⟨rfl,hb3⟩;have HC3:Hid (Bt w w3 wb rb oa od c rs s QQ p tg T):=hb3;have hB3':Bt w w3.drew wb rb oa od c rs s QQ p tg T:=hb3.below (below_drewN (Below.refl _ w3) 1);obtain ⟨-,d39,_⟩:=HCS.out _ _ hb3.b;have dg:=HGC.out _ _ hb3;clear hb3 c39 c2 hgw;go_upto_region 20 with fail;go_region_held3 (fun U=>U.cell? ⟨rb,39,none⟩=some (.pointer (some ⟨p.tb,0,none⟩))/\U.cell? ⟨tg,j,none⟩=some (.string g)) (go_keep) (first | (go_at_call 54;refine (HP2.out _ hB3').mono ?_;rintro e w4 ⟨rfl,hb4⟩;have t0:=(HCS.out _ _ hb4.b).2.1;have t1:=HGC.out _ _ hb4;have HC4:Hid (Bt w w4 wb rb oa od c rs s q4 p tg T):=hb4;clear hb4))
        all_goals
         clear d39 dg t0 hB3';go_wp2_with fail;refine (HP3.out _ HC4.out).mono ?_;rintro e w5 ⟨rfl,hb5⟩;have HC5:Hid (Bt w w5 wb rb oa od c rs s q4 p tg T):=hb5;have u1:=HGC.out _ _ hb5;clear hb5 t1;go_wp2_with fail;refine (HP4.out _ HC5.out).mono ?_;rintro e w6 ⟨rfl,hb6⟩;have HC6:Hid (Bt w w6 wb rb oa od c rs s (QD q3 j (t+1)) p tg T):=hb6.more HQ5.out;clear hb6 u1;go_wp2_with fail;refine (HSME.out _).mono ?_;rintro e w7 ⟨rfl,rfl⟩;go_wp2_with fail;refine (HSME.out _).mono ?_;rintro e w8 ⟨rfl,rfl⟩;go_wp2;go_roundw
         case rel=>exact ⟨t+1,by have:=HZ.out;omega,by first | (rw[HZ.out];go_num) | go_num,HC6.out⟩
         case measure=>simp[intOf];omega
   case neg=>
   have hlt:z<5:=(by omega);by_cases hbad:z = -1\/z=4
   case pos=>
    have hbt:btw z 0 3=false:=by rcases hbad with h | h<;>rw[h]<;>rfl
    rcases hbad with h | h
    all_goals
     subst h;go_wp2_with fail;refine (HWB.out _ _ hbt).mono ?_;rintro e w' ⟨rfl,rfl⟩;go_wp2_with fail;refine (HSE.out _).mono ?_;rintro e w' ⟨rfl,rfl⟩;go_wp2;go_roundw
     case rel=>exact ⟨_,by omega,by omega,rfl,HB.out⟩
     case measure=>simp[intOf]
   case neg=>
    obtain ⟨r,rfl⟩:∃ r:Nat,z=(r:Int):=⟨z.toNat,by omega⟩;have hr4:r<4:=(by omega);have hrI:(r:Int)<4:=(by omega);have h0:¬ (r:Int)<0:=(by omega);have h3:¬ (3:Int)<r:=(by omega);have cw:=HWC.out _ _ r HB.out hr4;go_wp2_with fail;refine (HWO.out _ _ r HB.out hr4).mono ?_;rintro e w' ⟨rfl,rfl⟩;go_wp2;go_roundw
    case rel=>exact ⟨(r:Int)+1,by omega,by omega,by go_num,HB.out⟩
    case measure=>simp[intOf];omega
end
end WeA
end Go.Proofs.YtmolafjalaeoaaaGreatDoor
