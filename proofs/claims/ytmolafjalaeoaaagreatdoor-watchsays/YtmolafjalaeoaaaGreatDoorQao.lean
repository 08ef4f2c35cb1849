/-
  InZ RuM
-/
import Derived.Test.YtmolafjalaeoaaaGreatDoorQan
import Derived.Sort.Walk7a
import Derived.Lib.ItoaNum
import Derived.Lib.AtoiAll
import Derived.Lib.Join
import Derived.Lib.IndexMore
import Derived.Lib.Strings
set_option maxRecDepth 100000
set_option maxHeartbeats 8000000
namespace Go.Proofs.YtmolafjalaeoaaaGreatDoor
open Tryz
namespace TagA
open Go.RowKit TagM
theorem mod_two_pow (m b:Nat):m%2 ^ (b+1)=2*((m/2)%2 ^ b)+m%2:=by
 have h1:m=2*(m/2)+m%2:=by omega
 have hp:=Nat.two_pow_pos b;have h2:m/2=2 ^ b*(m/2/2 ^ b)+(m/2)%2 ^ b:=(Nat.div_add_mod _ _).symm;have h3:(m/2)%2 ^ b<2 ^ b:=Nat.mod_lt _ hp;have h4:m=2 ^ (b+1)*(m/2/2 ^ b)+(2*((m/2)%2 ^ b)+m%2):=by rw[Nat.pow_succ,Nat.mul_comm (2 ^ b) 2,Nat.mul_assoc];generalize 2 ^ b*(m/2/2 ^ b)=z at *;omega
 have h5 : 2*((m/2)%2 ^ b)+m%2<2 ^ (b+1):=by rw[Nat.pow_succ];omega
 conv=>lhs;rw[h4]
 rw[Nat.mul_add_mod,Nat.mod_eq_of_lt h5]
theorem fld_succ (n p b:Nat):fld n p (b+1)=2*fld n (p+1) b+n/2 ^ p%2:=by unfold fld;rw[mod_two_pow,Nat.pow_succ,<- Nat.div_div_eq_div_mul]
theorem fld_zero (n p:Nat):fld n p 0=0:=by unfold fld;rw[Nat.pow_zero,Nat.mod_one]
theorem bit_mod (m t:Nat) (h:t<=7):m/2 ^ t%2=(m%256)/2 ^ t%2:=by
 match t,h with
 | 0,_ | 1,_ | 2,_ | 3,_ | 4,_ | 5,_ | 6,_ | 7,_=>simp only[Nat.reducePow];omega
theorem byt_numU {s:ByteArray} (h:s.size=8) (q:Nat) (hq:q<8) (hq':q<s.size):byt (numU s.data.toList) q=s[q].toNat:=by
 have e:=be8_numU h;have:(be8 (numU s.data.toList)).data.toList[q]?=s.data.toList[q]?:=by rw[e]
 have e2:s.data.toList[q]?=some s[q]:=by rw[List.getElem?_eq_getElem (by simpa using hq')];rfl
 rw[e2] at this;unfold be8 at this
 match q,hq with
 | 0,_ | 1,_ | 2,_ | 3,_ | 4,_ | 5,_ | 6,_ | 7,_=>
  simp at this;rw[<- this];exact (byt_toNat _ _).symm
theorem bit_numU {s:ByteArray} (h:s.size=8) (j:Nat) (hj:j<64) (hq':j/8<s.size):numU s.data.toList/2 ^ (63-j)%2=s[j/8].toNat/2 ^ (7-j%8)%2:=by rw[<- byt_numU h (j/8) (by omega) hq'];unfold byt;rw[<- bit_mod _ _ (by omega),<- div_pow];rw[show 56-8*(j/8)+(7-j%8)=63-j by omega]
theorem setTwice (w:World) (blk:Nat) (v v':Value):(w.setCell ⟨blk,0,none⟩ v).setCell ⟨blk,0,none⟩ v'=w.setCell ⟨blk,0,none⟩ v':=Go.Proofs.setCell_setCell w blk 0 v v'
theorem next_val (X bv t:Nat) (hX:X<16777216) (hb:bv<256):wrap64 (2*(X:Int)+wrap64 (bits .and .u8 ((bv:Int)/2 ^ t) 1))=((2*X+bv/2 ^ t%2:Nat):Int):=by
 have e:((bv:Int)/2 ^ t)=((bv/2 ^ t:Nat):Int):=by simp
 have hd:bv/2 ^ t<=bv:=Nat.div_le_self _ _;have h1:bits .and .u8 ((bv/2 ^ t:Nat):Int) 1=((bv/2 ^ t%2:Nat):Int):=by have:=u8_and_nat (bv/2 ^ t) 1 (by omega) (by omega);rw[Nat.and_one_is_mod] at this;exact this
 rw[e,h1];have hz:bv/2 ^ t%2<2:=Nat.mod_lt _ (by omega);generalize bv/2 ^ t%2=z at *;unfold wrap64;omega
theorem wrapI (x:Int) (h0 : 0<=x) (h1:x<=9223372036854775807):IntKind.i64.wrap x=x:=by simp[IntKind.wrap,IntKind.bits,IntKind.signed];omega
theorem index_at (s:ByteArray) (j bv:Nat) (hq:j/8<s.size) (hbv:s[j/8].toNat=bv) (w:World):(Instr.index 9 (.string s) (.int .i64 ((j:Int)/8))).run prog w = .ok (.int .u8 (bv:Int)) w:=by rw[run_index_string w 9 s .i64 _ underlying9,dif_pos (by omega)];congr 3
theorem next_any (s:ByteArray) (hs:s.size=8) (A m p:Nat) (mI AI:Int) (w:World) (bb ab:Nat) (hp:Hid (p+m+A=64)) (hmI:Hid (mI=m)) (hAI:Hid (AI=A)) (hm : 1<=m) (hm2:m<=24)
  (c1:w.cell? ⟨bb,0,none⟩=some (.string s)) (c2:w.cell? ⟨ab,0,none⟩=some (.int .i64 AI)) (hf:w.frozen? ⟨ab,0,none⟩=false) (hne:ab≠bb) :
  Calls prog 146 #[.int .i64 mI,.pointer (some ⟨bb,0,none⟩),.pointer (some ⟨ab,0,none⟩)] w fun e w'=>e = .returned (.int .i64 ((fld (numU s.data.toList) p m:Nat):Int))/\∃ d,w'=(w.setCell ⟨ab,0,none⟩ (.int .i64 ((A+m:Nat):Int))).drewN d:=by
 obtain rfl:=hmI.out;obtain rfl:=hAI.out;have HS:Hid (s.size=8):=hs;have hs' : 8<=s.size:=by omega
 clear hs hmI hAI;have HC1:Hid _:=c1;have HC2:Hid _:=c2;have HF:Hid _:=hf;clear c1 c2 hf;generalize hn:numU s.data.toList=n at *;have HN:Hid (numU s.data.toList=n):=hn;clear hn;go_enter func146,ntmps146;go_wp2;go_loopw [5,6] (fun x i V=>∃ k:Nat,k<=m/\i = .int .i64 k/\x = .int .i64 ((fld n (64-A-k) k:Nat):Int)/\V.cell? ⟨bb,0,none⟩=some (.string s)/\V.cell? ⟨ab,0,none⟩=some (.int .i64 ((A+k:Nat):Int))/\V.frozen? ⟨ab,0,none⟩=false/\((k=0/\V=w)\/∃ d,V=(w.setCell ⟨ab,0,none⟩ (.int .i64 ((A+k:Nat):Int))).drewN d)) (fun _ i _=>m-(intOf i).toNat)
 case atStart=>exact ⟨0,Nat.zero_le _,rfl,by rw[fld_zero];rfl,HC1.out,HC2.out,HF.out,Or.inl ⟨rfl,rfl⟩⟩
 case round=>
  obtain ⟨k,hk,rfl,rfl,v1,v2,v3,v4⟩:=hrel;have H4:Hid _:=v4;clear v4;by_cases hlt:k<m
  ·have hlt':(k:Int)<m:=(by omega);have hA64:A+k<64:=(by have:=hp.out;omega);have hx:fld n (64-A-k) k<16777216:=Nat.lt_of_lt_of_le (fld_lt _ _ _) (Nat.pow_le_pow_right (by omega) (show k<=24 by omega));obtain ⟨j,hj⟩:∃ j:Nat,j=A+k:=⟨_,rfl⟩;have HJ:Hid (j=A+k):=hj;rw[<- hj] at v2;have hj64:j<64:=(by omega);clear hj hA64;have hq:j/8<s.size:=(by omega);obtain ⟨bv,hbv⟩:∃ bv:Nat,s[j/8].toNat=bv:=⟨_,rfl⟩;have hbl:bv<256:=(by rw[<- hbv];exact UInt8.toNat_lt _);have hix:=index_at s j bv hq hbv;have HBV:Hid _:=hbv;clear hbv;generalize hX:fld n (64-A-k) k=X at *;have HX:Hid _:=hX;clear hX;have e1:=wrapI (2*(X:Int)) (by omega) (by omega);have e2:=wrapI ((j:Int)/8) (by omega) (by omega);have e3:=wrapI ((j:Int)%8) (by omega) (by omega);have e4:=wrapI (7-(j:Int)%8) (by omega) (by omega);have e5:(0:Int)<=7-(j:Int)%8:=(by omega);have e6 : 7-(j:Int)%8<=8:=(by omega);go_wp2;go_quiet (fail);go_wp2;go_roundw
   case rel=>
    have hj:=HJ.out;refine ⟨k+1,by omega,by go_num,?_,?_,?_,?_,Or.inr ?_⟩
    ·have hp':=hp.out;have hb2:=bit_numU HS.out j hj64 hq;have hbv:=HBV.out;have hfs:=fld_succ n (64-A-(k+1)) k;rw[show 64-A-(k+1)+1=64-A-k by omega,show 64-A-(k+1)=63-j by omega] at hfs;rw[show 64-A-(k+1)=63-j by omega,hfs,HX.out,<- HN.out,hb2,hbv];exact congrArg (Value.int .i64) (next_val X bv (7-j%8) hx hbl)
    ·rw[set_drewN,show ((wr.setCell ⟨ab,0,none⟩ (.int .i64 ((j:Int)+1))).drewN nq).cell? ⟨bb,0,none⟩=(wr.setCell ⟨ab,0,none⟩ (.int .i64 ((j:Int)+1))).cell? ⟨bb,0,none⟩ from rfl,World.cell?_setCell_far _ _ _ _ hne];exact v1
    ·rw[set_drewN,show ((wr.setCell ⟨ab,0,none⟩ (.int .i64 ((j:Int)+1))).drewN nq).cell? ⟨ab,0,none⟩=(wr.setCell ⟨ab,0,none⟩ (.int .i64 ((j:Int)+1))).cell? ⟨ab,0,none⟩ from rfl,World.cell?_setCell_same' _ _ _ (by rw[v2];rfl)];have:(j:Int)+1=((A+(k+1):Nat):Int):=(by omega);rw[this]
    ·rw[World.frozen?_setCell];exact v3
    ·have ej:(j:Int)+1=((A+(k+1):Nat):Int):=(by omega);rcases H4.out with ⟨-,h⟩ | ⟨d,h⟩
     ·refine ⟨nq,?_⟩;rw[h,set_drewN,ej]
     ·refine ⟨d+nq,?_⟩;rw[h,set_drewN,set_drewN,setTwice,ej];simp
   case measure=>simp[intOf];omega
  ·obtain rfl:k=m:=(by omega);go_wp2;go_ret;have hp':=hp.out;refine ⟨?_,?_⟩
   ·rw[show p=64-A-k by omega];rfl
   ·rcases H4.out with ⟨h,-⟩ | h
    ·omega
    ·exact h
end TagA
namespace TagA
open Go.RowKit TagM
theorem keep6 {r:Nat} {w1 w2:World} (h:∀ j:Nat,j<6->w1.cell? ⟨r,j,none⟩=some (.int .i64 0)/\w1.frozen? ⟨r,j,none⟩=false) (hb:Below w1.heap.size w1 w2) :
  ∀ j:Nat,j<6->w2.cell? ⟨r,j,none⟩=some (.int .i64 0)/\w2.frozen? ⟨r,j,none⟩=false:=
 fun j hj=>⟨keepCell hb (h j hj).1,by rw[hb.frozen (World.block_lt_of_cell? _ _ (h j hj).1)];exact (h j hj).2⟩
def refNo:Value:=.tuple #[noTag,.bool false]
theorem tagof_len (s:ByteArray) (w:World) (hs:s.size≠8) (_hm:s.size<=maxLen) :
  Calls prog 125 #[.string s] w fun e w'=>e = .returned refNo/\Below w.heap.size w w':=by
 unfold maxLen at _hm;have h8:((s.size:Int) != 8)=true:=by simp;omega
 go_enter func125,ntmps125;go_wp2;exact bodyPost_ret (v:=.tuple #[noTag,.bool false]) (by simp[results,results125,go_sem,noTag]) rfl ⟨rfl,((Below.refl _ _).alloc (Nat.le_refl _) _).alloc (by simp) _⟩
theorem blocks4 {w w3 W:World} {x y a0 a1 a2 a3 a4 a5 t0 t1 t2 t3 t4 t5:Value} {T1 T2 T3 T4:TypeId} {d:Nat}
  (hW:W=((((w.alloc (.cells #[x] T1)).alloc (.cells #[a0,a1,a2,a3,a4,a5] T2)).alloc (.cells #[y] T3)).alloc (.cells #[t0,t1,t2,t3,t4,t5] T4)).drewN d) (hb:Below W.heap.size W w3) :
  w.heap.size+1+1+1<w3.heap.size/\Below w.heap.size w w3/\w3.cell? ⟨w.heap.size,0,none⟩=some x/\w3.cell? ⟨w.heap.size+1+1,0,none⟩=some y/\w3.frozen? ⟨w.heap.size+1+1,0,none⟩=false
  /\ (∀ j:Nat,j<6->w3.cell? ⟨w.heap.size+1,j,none⟩=(#[a0,a1,a2,a3,a4,a5]:Array Value)[j]?/\w3.frozen? ⟨w.heap.size+1,j,none⟩=false/\w3.cell? ⟨w.heap.size+1+1+1,j,none⟩=(#[t0,t1,t2,t3,t4,t5]:Array Value)[j]?/\w3.frozen? ⟨w.heap.size+1+1+1,j,none⟩=false):=by
 subst hW;have hs:(((((w.alloc (.cells #[x] T1)).alloc (.cells #[a0,a1,a2,a3,a4,a5] T2)).alloc (.cells #[y] T3)).alloc (.cells #[t0,t1,t2,t3,t4,t5] T4)).drewN d).heap.size=w.heap.size+1+1+1+1:=by simp
 refine ⟨by have:=hb.size;omega,?_,?_,?_,?_,?_⟩
 ·refine Below.trans ?_ (hb.mono (by omega));exact below_drewN (((((Below.refl _ w).alloc (Nat.le_refl _) _).alloc (by simp) _).alloc (by simp;omega) _).alloc (by simp;omega) _) _
 ·rw[hb.cell (by rw[hs];show w.heap.size < _;omega)];go_simp
 ·rw[hb.cell (by rw[hs];show w.heap.size+1+1 < _;omega)];go_simp
 ·rw[hb.frozen (by rw[hs];show w.heap.size+1+1 < _;omega)];go_simp
 ·intro j _;refine ⟨?_,?_,?_,?_⟩
  ·rw[hb.cell (by rw[hs];show w.heap.size+1 < _;omega)];go_simp
  ·rw[hb.frozen (by rw[hs];show w.heap.size+1 < _;omega)];go_simp
  ·rw[hb.cell (by rw[hs];show w.heap.size+1+1+1 < _;omega)];go_simp
  ·rw[hb.frozen (by rw[hs];show w.heap.size+1+1+1 < _;omega)];go_simp
theorem ofW {w w4:World} {d:Nat} {o:Obj} {x1 x2 x3 c r z t0 t1 t2 e3 e4 e5:Value} (hB:Below w.heap.size w w4) (hs:w.heap.size+1+1+1<w4.heap.size)
  (ha:∀ j:Nat,j<6->w4.cell? ⟨w.heap.size+1,j,none⟩=some (.int .i64 0)/\w4.frozen? ⟨w.heap.size+1,j,none⟩=false)
  (h0:w4.cell? ⟨w.heap.size+1+1+1,0,none⟩=some t0) (h1:w4.cell? ⟨w.heap.size+1+1+1,1,none⟩=some t1) (h2:w4.cell? ⟨w.heap.size+1+1+1,2,none⟩=some t2)
  (h3:w4.cell? ⟨w.heap.size+1+1+1,3,none⟩=some e3) (h4:w4.cell? ⟨w.heap.size+1+1+1,4,none⟩=some e4) (h5:w4.cell? ⟨w.heap.size+1+1+1,5,none⟩=some e5) {W:World}
  (hW:W=(((((((w4.setCell ⟨w.heap.size+1+1,0,none⟩ x1).setCell ⟨w.heap.size+1+1+1,3,none⟩ c).setCell ⟨w.heap.size+1+1,0,none⟩ x2).setCell ⟨w.heap.size+1+1+1,4,none⟩ r).setCell ⟨w.heap.size+1+1,0,none⟩ x3).setCell ⟨w.heap.size+1+1+1,5,none⟩ z).alloc o).drewN d) :
  Below w.heap.size w W/\w.heap.size+1+1+1<W.heap.size/\(∀ j:Nat,j<6->W.cell? ⟨w.heap.size+1,j,none⟩=some (.int .i64 0)/\W.frozen? ⟨w.heap.size+1,j,none⟩=false)
  /\ W.cell? ⟨w.heap.size+1+1+1,0,none⟩=some t0/\W.cell? ⟨w.heap.size+1+1+1,1,none⟩=some t1/\W.cell? ⟨w.heap.size+1+1+1,2,none⟩=some t2
  /\ W.cell? ⟨w.heap.size+1+1+1,3,none⟩=some c/\W.cell? ⟨w.heap.size+1+1+1,4,none⟩=some r/\W.cell? ⟨w.heap.size+1+1+1,5,none⟩=some z:=by
 have q1:w.heap.size<=w.heap.size+1+1:=by omega
 have q2:w.heap.size<=w.heap.size+1+1+1:=by omega
 let V:=(((((w4.setCell ⟨w.heap.size+1+1,0,none⟩ x1).setCell ⟨w.heap.size+1+1+1,3,none⟩ c).setCell ⟨w.heap.size+1+1,0,none⟩ x2).setCell ⟨w.heap.size+1+1+1,4,none⟩ r).setCell ⟨w.heap.size+1+1,0,none⟩ x3).setCell ⟨w.heap.size+1+1+1,5,none⟩ z;have hV:Below w.heap.size w V:=(((((hB.setCell (p:=⟨w.heap.size+1+1,0,none⟩) q1 _).setCell (p:=⟨w.heap.size+1+1+1,3,none⟩) q2 _).setCell (p:=⟨w.heap.size+1+1,0,none⟩) q1 _).setCell (p:=⟨w.heap.size+1+1+1,4,none⟩) q2 _).setCell (p:=⟨w.heap.size+1+1,0,none⟩) q1 _).setCell (p:=⟨w.heap.size+1+1+1,5,none⟩) q2 _;have hVs:V.heap.size=w4.heap.size:=by simp[V]
 have hVW:Below V.heap.size V W:=by rw[hW];exact below_drewN ((Below.refl _ V).alloc (Nat.le_refl _) o) d
 have far1:∀ j:Nat,V.cell? ⟨w.heap.size+1,j,none⟩=w4.cell? ⟨w.heap.size+1,j,none⟩:=fun j=>by
  have n1:w.heap.size+1+1≠w.heap.size+1:=by omega
  have n2:w.heap.size+1+1+1≠w.heap.size+1:=by omega
  show ((((((w4.setCell ⟨w.heap.size+1+1,0,none⟩ x1).setCell ⟨w.heap.size+1+1+1,3,none⟩ c).setCell ⟨w.heap.size+1+1,0,none⟩ x2).setCell ⟨w.heap.size+1+1+1,4,none⟩ r).setCell ⟨w.heap.size+1+1,0,none⟩ x3).setCell ⟨w.heap.size+1+1+1,5,none⟩ z).cell? _ = _;rw[World.cell?_setCell_far _ _ _ _ n2,World.cell?_setCell_far _ _ _ _ n1,World.cell?_setCell_far _ _ _ _ n2,World.cell?_setCell_far _ _ _ _ n1,World.cell?_setCell_far _ _ _ _ n2,World.cell?_setCell_far _ _ _ _ n1]
 have n3:w.heap.size+1+1≠w.heap.size+1+1+1:=by omega
 have tt:∀ (j:Nat) (u:Value),V.cell? ⟨w.heap.size+1+1+1,j,none⟩=some u->W.cell? ⟨w.heap.size+1+1+1,j,none⟩=some u:=fun j u h=>keepCell hVW h;refine ⟨hV.trans (hVW.mono hV.size),Nat.lt_of_lt_of_le (by omega) hVW.size,fun j hj=>⟨keepCell hVW (by rw[far1];exact (ha j hj).1),?_⟩,tt _ _ ?_,tt _ _ ?_,tt _ _ ?_,tt _ _ ?_,tt _ _ ?_,tt _ _ ?_⟩
 ·rw[hVW.frozen (by show w.heap.size+1 < _;omega)];simp only[V,World.frozen?_setCell];exact (ha j hj).2
 ·simp only[V];rw[World.cell?_setCell_other (h:=by simp),World.cell?_setCell_far _ _ _ _ n3,World.cell?_setCell_other (h:=by simp),World.cell?_setCell_far _ _ _ _ n3,World.cell?_setCell_other (h:=by simp),World.cell?_setCell_far _ _ _ _ n3];exact h0
 ·simp only[V];rw[World.cell?_setCell_other (h:=by simp),World.cell?_setCell_far _ _ _ _ n3,World.cell?_setCell_other (h:=by simp),World.cell?_setCell_far _ _ _ _ n3,World.cell?_setCell_other (h:=by simp),World.cell?_setCell_far _ _ _ _ n3];exact h1
 ·simp only[V];rw[World.cell?_setCell_other (h:=by simp),World.cell?_setCell_far _ _ _ _ n3,World.cell?_setCell_other (h:=by simp),World.cell?_setCell_far _ _ _ _ n3,World.cell?_setCell_other (h:=by simp),World.cell?_setCell_far _ _ _ _ n3];exact h2
 ·simp only[V];rw[World.cell?_setCell_other (h:=by simp),World.cell?_setCell_far _ _ _ _ n3,World.cell?_setCell_other (h:=by simp),World.cell?_setCell_far _ _ _ _ n3];exact World.cell?_setCell_same' _ _ _ (by rw[World.cell?_setCell_far _ _ _ _ n3,h3];rfl)
 ·simp only[V];rw[World.cell?_setCell_other (h:=by simp),World.cell?_setCell_far _ _ _ _ n3];exact World.cell?_setCell_same' _ _ _ (by rw[World.cell?_setCell_far _ _ _ _ n3,World.cell?_setCell_other (h:=by simp),World.cell?_setCell_far _ _ _ _ n3,h4];rfl)
 ·simp only[V];exact World.cell?_setCell_same' _ _ _ (by rw[World.cell?_setCell_far _ _ _ _ n3,World.cell?_setCell_other (h:=by simp),World.cell?_setCell_far _ _ _ _ n3,World.cell?_setCell_other (h:=by simp),World.cell?_setCell_far _ _ _ _ n3,h5];rfl)
theorem tagof_8 (s:ByteArray) (w:World) (hs:s.size=8) (n:Nat) (hn:n=numU s.data.toList) (v:Value)
  (hv:v=if okP n then .tuple #[tagV ((Kf n:Int)-47) (Ff n) (Pf n) (Cf n (Pf n)) (Rf n (Pf n)) (Sf n),.bool true] else refNo) :
  Calls prog 125 #[.string s] w fun e w'=>e = .returned v/\Below w.heap.size w w':=by
 have h8:((s.size:Int) != 8)=false:=by simp;omega
 have HS:Hid (s.size=8):=hs;have HN:Hid (n=numU s.data.toList):=hn;have HV:Hid (v = _):=hv;clear hs hn hv;have r1:=set_drewN;have r2:=alloc_drewN;have f1:((fld n 56 8:Nat):Int)<=255:=by have:=fld_lt n 56 8;omega
 go_enter func125,ntmps125;go_wp2_with fail;refine (next_any s HS.out 0 8 56 _ 0 _ _ _ rfl rfl rfl (by omega) (by omega) ?_ ?_ ?_ ?_).mono ?_
 ·go_simp
 ·go_simp
 ·go_simp
 ·omega
 rw[<- HN.out];rintro e w2 ⟨rfl,d1,rfl⟩;go_wp2_with fail;refine (next_any s HS.out 8 3 53 _ _ _ _ _ rfl rfl rfl (by omega) (by omega) ?_ ?_ ?_ ?_).mono ?_
 ·go_simp
 ·go_simp
 ·go_simp
 ·omega
 rw[<- HN.out];rintro e w2 ⟨rfl,d2,rfl⟩;go_wp2_with fail;refine (next_any s HS.out 11 3 50 _ _ _ _ _ rfl rfl rfl (by omega) (by omega) ?_ ?_ ?_ ?_).mono ?_
 ·go_simp
 ·go_simp
 ·go_simp
 ·omega
 rw[<- HN.out];rintro e w2 ⟨rfl,d3,rfl⟩;go_wp2_with fail;by_cases hP:fld n 50 3<6
 case neg=>
  have hvv:v=refNo:=by rw[HV.out,if_neg];unfold okP Pf;simp[hP]
  refine (parts_no _ _ (Or.inr (by omega))).mono ?_;rintro e w4 ⟨rfl,hb4⟩;obtain ⟨z1,z2,-,-,-,z3⟩:=blocks4 rfl hb4;obtain ⟨a0,b0,-⟩:=z3 0 (by omega);obtain ⟨a1,b1,-⟩:=z3 1 (by omega);obtain ⟨a2,b2,-⟩:=z3 2 (by omega);obtain ⟨a3,b3,-⟩:=z3 3 (by omega);obtain ⟨a4,b4,-⟩:=z3 4 (by omega);obtain ⟨a5,b5,-⟩:=z3 5 (by omega);simp at a0 a1 a2 a3 a4 a5;have Z2:Hid _:=z2;have zz:w.heap.size+1<w4.heap.size:=by omega
  clear z3 hb4 z2 hP;go_wp2;rw[hvv];clear r1 r2;refine bodyPost_ret (v:=.tuple #[noTag,.bool false]) (by simp[results,results125,go_sem,noTag,a0,a1,a2,a3,a4,a5,zz]) rfl ⟨rfl,?_⟩;exact ((((((Z2.out.setCell (by show w.heap.size<=w.heap.size+1;omega) _).setCell (by show w.heap.size<=w.heap.size+1;omega) _).setCell (by show w.heap.size<=w.heap.size+1;omega) _).setCell (by show w.heap.size<=w.heap.size+1;omega) _).setCell (by show w.heap.size<=w.heap.size+1;omega) _).setCell (by show w.heap.size<=w.heap.size+1;omega) _).alloc (by simp;omega) _
 obtain ⟨k,hk⟩:∃ k,fld n 50 3=k:=⟨_,rfl⟩;rw[hk] at hP ⊢;have HK:Hid (fld n 50 3=k):=hk;clear hk;have hcb:=cbits_le k;have hrb:=rbits_le k;have hsum:=bits_sum k;have HSUM:Hid _:=hsum;clear hsum;refine (parts_ok k _ hP).mono ?_;rintro e w4 ⟨rfl,hb4⟩;obtain ⟨z1,z2,z4,z5,z6,z3⟩:=blocks4 rfl hb4;obtain ⟨a0,b0,t0,q0⟩:=z3 0 (by omega);obtain ⟨a1,b1,t1,q1⟩:=z3 1 (by omega);obtain ⟨a2,b2,t2,q2⟩:=z3 2 (by omega);obtain ⟨a3,b3,t3,q3⟩:=z3 3 (by omega);obtain ⟨a4,b4,t4,q4⟩:=z3 4 (by omega);obtain ⟨a5,b5,t5,q5⟩:=z3 5 (by omega);simp at a0 a1 a2 a3 a4 a5 t0 t1 t2 t3 t4 t5;have Z2:Hid _:=z2;have y1:w.heap.size<w4.heap.size:=by omega
 have y2:w.heap.size+1<w4.heap.size:=by omega
 have y3:w.heap.size+1+1<w4.heap.size:=by omega
 clear z3 hb4 z2;go_wp2_with fail;refine (next_any s HS.out 14 (cbits k) (24+rbits k) _ _ _ _ _ (by show _ = _;have:=HSUM.out;omega) rfl rfl (by omega) (by omega) ?_ ?_ ?_ ?_).mono ?_
 ·go_simp
 ·go_simp
 ·go_simp
 ·omega
 rw[<- HN.out];rintro e w2 ⟨rfl,d4,rfl⟩;go_wp2_with fail;refine (next_any s HS.out (14+cbits k) (rbits k) 24 _ (14+(cbits k:Int)) _ _ _ (by show _ = _;have:=HSUM.out;omega) rfl (by show _ = _;omega) (by omega) (by omega) ?_ ?_ ?_ ?_).mono ?_
 ·go_simp
 ·go_simp
 ·go_simp
 ·omega
 rw[<- HN.out];rintro e w2 ⟨rfl,d5,rfl⟩;go_wp2_with fail;refine (next_any s HS.out (14+cbits k+rbits k) 24 0 _ (14+(cbits k:Int)+(rbits k:Int)) _ _ _ (by show _ = _;have:=HSUM.out;omega) rfl (by show _ = _;omega) (by omega) (by omega) ?_ ?_ ?_ ?_).mono ?_
 ·go_simp
 ·go_simp
 ·go_simp
 ·omega
 rw[<- HN.out];rintro e w2 ⟨rfl,d6,rfl⟩;go_wp2_with fail;have hbC:((fld n (24+rbits k) (cbits k):Nat):Int)<=9223372036854775807:=by have:=fld_lt n (24+rbits k) (cbits k);have h2 : 2 ^ cbits k<=2 ^ 20:=Nat.pow_le_pow_right (by omega) hcb.2;omega
 have hbR:((fld n 24 (rbits k):Nat):Int)<=9223372036854775807:=by have:=fld_lt n 24 (rbits k);have h2 : 2 ^ rbits k<=2 ^ 22:=Nat.pow_le_pow_right (by omega) hrb.2;omega
 have hO:=ofW (d:=d4+d5+d6) (o:=.cells #[.int .i64 (cbits k),.int .i64 (cdig k),.int .i64 (rbits k),.int .i64 (rdig k)] 22) (x1:=.int .i64 (14+(cbits k:Int))) (x2:=.int .i64 (14+(cbits k:Int)+(rbits k:Int))) (x3:=.int .i64 (14+(cbits k:Int)+(rbits k:Int)+24)) (c:=.int .i64 (fld n (24+rbits k) (cbits k))) (r:=.int .i64 (fld n 24 (rbits k))) (z:=.int .i64 (fld n 0 24)) Z2.out z1 (fun j hj=>match j,hj with | 0,_=>⟨a0,b0⟩ | 1,_=>⟨a1,b1⟩ | 2,_=>⟨a2,b2⟩ | 3,_=>⟨a3,b3⟩ | 4,_=>⟨a4,b4⟩ | 5,_=>⟨a5,b5⟩) t0 t1 t2 t3 t4 t5 rfl;clear a0 a1 a2 a3 a4 a5 b0 b1 b2 b3 b4 b5 t0 t1 t2 t3 t4 t5 q0 q1 q2 q3 q4 q5 z4 z5 z6 y1 y2 y3 z1;generalize ((((((((w4.setCell ⟨w.heap.size+1+1,0,none⟩ (.int .i64 (14+(cbits k:Int)))).setCell ⟨w.heap.size+1+1+1,3,none⟩ (.int .i64 (fld n (24+rbits k) (cbits k)))).setCell ⟨w.heap.size+1+1,0,none⟩ (.int .i64 (14+(cbits k:Int)+(rbits k:Int)))).setCell ⟨w.heap.size+1+1+1,4,none⟩ (.int .i64 (fld n 24 (rbits k)))).setCell ⟨w.heap.size+1+1,0,none⟩ (.int .i64 (14+(cbits k:Int)+(rbits k:Int)+24))).setCell ⟨w.heap.size+1+1+1,5,none⟩ (.int .i64 (fld n 0 24))).alloc (.cells #[.int .i64 (cbits k),.int .i64 (cdig k),.int .i64 (rbits k),.int .i64 (rdig k)] 22)).drewN (d4+d5+d6))=W at *;obtain ⟨hBW,hsz,ha,u0,u1,u2,u3,u4,u5⟩:=hO;refine (fault_any _ _ _ _ _ _ _ hbC hbR).mono ?_;rintro e w5 ⟨rfl,hb5⟩;have ha5:=keep6 ha hb5;have HB5:Hid _:=hBW.trans (hb5.mono hBW.size);have v0:=keepCell hb5 u0;have v1:=keepCell hb5 u1;have v2:=keepCell hb5 u2;have v3:=keepCell hb5 u3;have v4:=keepCell hb5 u4;have v5:=keepCell hb5 u5;obtain ⟨a0,b0⟩:=ha5 0 (by omega);obtain ⟨a1,b1⟩:=ha5 1 (by omega);obtain ⟨a2,b2⟩:=ha5 2 (by omega);obtain ⟨a3,b3⟩:=ha5 3 (by omega);obtain ⟨a4,b4⟩:=ha5 4 (by omega);obtain ⟨a5,b5⟩:=ha5 5 (by omega);have hCf:Hid (fld n (24+rbits k) (cbits k)=Cf n k):=by show _ = _;unfold Cf;rw[show 50-cbits k=24+rbits k by have:=HSUM.out;omega]
 have hPk:Hid (Pf n=k):=HK.out;clear u0 u1 u2 u3 u4 u5 ha ha5 hb5 hBW hsz;have q1:w.heap.size<=w.heap.size+1:=by omega
 by_cases hok:okP n=true
 ·have hvv:=HV.out;rw[if_pos hok] at hvv;have hfv:faultV ((fld n 56 8:Int)-47) (fld n 53 3) k (fld n (24+rbits k) (cbits k)) (fld n 24 (rbits k)) (fld n 0 24)=0:=by unfold faultV;rw[if_pos];unfold okP at hok;simp only[Bool.and_eq_true] at hok;rw[hCf.out];have h2:=hok.2;rw[hPk.out] at h2;exact h2
  have HVV:Hid _:=hvv;rw[hfv];clear hvv hfv hok HV;go_wp2;rw[HVV.out,hPk.out,<- hCf.out];clear r1 r2 v0 v1 v2 v3 v4 v5;refine bodyPost_ret (v:=.tuple #[.agg #[.int .i64 ((fld n 56 8:Int)-47),.int .i64 (fld n 53 3),.int .i64 k,.int .i64 (fld n (24+rbits k) (cbits k)),.int .i64 (fld n 24 (rbits k)),.int .i64 (fld n 0 24)],.bool true]) (by simp[results,results125,go_sem,a0,a1,a2,a3,a4,a5]) rfl ⟨rfl,?_⟩;exact (((((HB5.out.setCell q1 _).setCell q1 _).setCell q1 _).setCell q1 _).setCell q1 _).setCell q1 _
 ·have hvv:=HV.out;rw[if_neg hok] at hvv;have hfv:faultV ((fld n 56 8:Int)-47) (fld n 53 3) k (fld n (24+rbits k) (cbits k)) (fld n 24 (rbits k)) (fld n 0 24)=1:=by unfold faultV;rw[if_neg];intro h2;apply hok;unfold okP;rw[hPk.out,<- hCf.out,Bool.and_eq_true];exact ⟨by simpa using hP,h2⟩
  have HVV:Hid _:=hvv;rw[hfv];clear hvv hfv hok HV;go_wp2;rw[HVV.out];clear r1 r2 v0 v1 v2 v3 v4 v5;refine bodyPost_ret (v:=.tuple #[noTag,.bool false]) (by simp[results,results125,go_sem,noTag,a0,a1,a2,a3,a4,a5]) rfl ⟨rfl,?_⟩;exact (((((HB5.out.setCell q1 _).setCell q1 _).setCell q1 _).setCell q1 _).setCell q1 _).setCell q1 _
end TagA
namespace InA
open Go.RowKit
def knd (s:ByteArray):Nat:=if s.size=8/\TagA.okP (TagA.numU s.data.toList)=true then TagA.Kf (TagA.numU s.data.toList)-47 else 0
theorem knd_nil:knd ⟨#[]⟩=0:=by unfold knd;rw[if_neg (fun h=>absurd h.1 (by decide))]
theorem okP_kf {n:Nat} (h:TagA.okP n=true) : 48<=TagA.Kf n/\TagA.Kf n<=50:=by unfold TagA.okP TagM.okB at h;simp only[Bool.and_eq_true] at h;have:=TagM.btw_true.1 h.2.1.1.1.1.1;omega
theorem knd_le (s:ByteArray):knd s<=3:=by
 unfold knd;by_cases h:s.size=8/\TagA.okP (TagA.numU s.data.toList)=true
 ·rw[if_pos h];have:=okP_kf h.2;omega
 ·rw[if_neg h];omega
theorem parse_knd (s:ByteArray):(0<knd s/\∃ F P C R S:Int,TagA.parseV s = .tuple #[TagA.tagV (knd s:Int) F P C R S,.nilIface])\/(knd s=0/\TagA.parseV s = .tuple #[TagA.noTag,.iface 105 (.int .i64 3)]):=by
 unfold knd TagA.parseV;by_cases h:s.size=8/\TagA.okP (TagA.numU s.data.toList)=true
 ·have h1:=okP_kf h.2;rw[if_pos h,if_pos h];rw[show ((TagA.Kf (TagA.numU s.data.toList)-47:Nat):Int)=(TagA.Kf (TagA.numU s.data.toList):Int)-47 by omega];exact Or.inl ⟨by omega,_,_,_,_,_,rfl⟩
 ·rw[if_neg h,if_neg h];exact Or.inr ⟨rfl,rfl⟩
def ofV (s:ByteArray):Value:=if s.size=8/\TagA.okP (TagA.numU s.data.toList)=true then .tuple #[TagA.tagV ((TagA.Kf (TagA.numU s.data.toList):Int)-47) (TagA.Ff (TagA.numU s.data.toList)) (TagA.Pf (TagA.numU s.data.toList)) (TagA.Cf (TagA.numU s.data.toList) (TagA.Pf (TagA.numU s.data.toList))) (TagA.Rf (TagA.numU s.data.toList) (TagA.Pf (TagA.numU s.data.toList))) (TagA.Sf (TagA.numU s.data.toList)),.bool true] else TagA.refNo
theorem tagof_any (s:ByteArray) (w:World) (hm:s.size<=maxLen) :
  Calls prog 125 #[.string s] w fun e w'=>e = .returned (ofV s)/\Below w.heap.size w w':=by
 unfold ofV;by_cases h8:s.size=8
 ·refine TagA.tagof_8 s w h8 _ rfl _ ?_;by_cases hP:TagA.okP (TagA.numU s.data.toList)=true
  ·rw[if_pos ⟨h8,hP⟩,if_pos hP]
  ·rw[if_neg (fun h=>hP h.2),if_neg hP]
 ·rw[if_neg (fun h=>h8 h.1)];exact TagA.tagof_len s w h8 hm
theorem of_knd (s:ByteArray):(0<knd s/\∃ F P C R S:Int,ofV s = .tuple #[TagA.tagV (knd s:Int) F P C R S,.bool true])\/(knd s=0/\ofV s=TagA.refNo):=by
 unfold knd ofV;by_cases h:s.size=8/\TagA.okP (TagA.numU s.data.toList)=true
 ·have h1:=okP_kf h.2;rw[if_pos h,if_pos h];rw[show ((TagA.Kf (TagA.numU s.data.toList)-47:Nat):Int)=(TagA.Kf (TagA.numU s.data.toList):Int)-47 by omega];exact Or.inl ⟨by omega,_,_,_,_,_,rfl⟩
 ·rw[if_neg h,if_neg h];exact Or.inr ⟨rfl,rfl⟩
theorem kind_any (s:ByteArray) (w:World) (hs:s.size<=100000) :
  Calls prog 87 #[.string s] w fun e w'=>e = .returned (.int .i64 (knd s:Int))/\Below w.heap.size w w':=by
 have HT:Hid (∀ w:World,Calls prog 125 #[.string s] w fun e w'=>e = .returned (ofV s)/\Below w.heap.size w w'):=fun w=>tagof_any s w (by unfold maxLen;omega);rcases of_knd s with ⟨_,F,P,C,R,S,hv⟩ | ⟨h0,hv⟩
 ·rw[hv] at HT;unfold TagA.tagV at HT;generalize knd s=K at *;clear hv;go_enter func87,ntmps87;go_wp2_with fail;refine (HT.out _).mono ?_;rintro e w1 ⟨rfl,hb1⟩;have HB1:Hid (∀ o,Below w.heap.size w (w1.alloc o)):=fun o=>hb1.alloc hb1.size o;have HB2:Hid (Below w.heap.size w w1):=hb1;clear hb1 HT;go_wp2;go_ret;exact ⟨rfl,by first | exact HB1.out _ | exact HB2.out⟩
 ·rw[hv] at HT;unfold TagA.refNo TagA.noTag at HT;rw[h0];clear hv h0;go_enter func87,ntmps87;go_wp2_with fail;refine (HT.out _).mono ?_;rintro e w1 ⟨rfl,hb1⟩;have HB1:Hid (∀ o,Below w.heap.size w (w1.alloc o)):=fun o=>hb1.alloc hb1.size o;have HB2:Hid (Below w.heap.size w w1):=hb1;clear hb1 HT;go_wp2;go_ret;exact ⟨rfl,by first | exact HB1.out _ | exact HB2.out⟩
end InA
namespace RuM
open Go
def hd (l:List UInt8):List UInt8:=(Lib.cut l [32]).1
def tl (l:List UInt8):List UInt8:=(Lib.cut l [32]).2.1
def btw (n lo hi:Int):Bool:=decide (lo<=n)&&decide (n<=hi)
theorem btw_true {n lo hi:Int}:btw n lo hi=true↔lo<=n/\n<=hi:=by simp[btw]
theorem btw_false {n lo hi:Int}:btw n lo hi=false↔¬ (lo<=n/\n<=hi):=by rw[<- btw_true];simp
structure Rl where
 nm:ByteArray
 k:Int
 f:Int
 t:Int
 wo:Int
 wi:Int
def lettr (c:UInt8):Prop:=97<=c.toNat/\c.toNat<=122
def nameOk (l:List UInt8):Prop:=1<=l.length/\l.length<=12/\∀ c ∈ l,lettr c
def Rl.named (r:Rl):Prop:=nameOk r.nm.data.toList
def Rl.bnd (r:Rl):Prop:=(0<=r.k/\r.k<=3)/\(0<=r.f/\r.f<=7)/\(0<=r.t/\r.t<=7)/\(-1<=r.wo/\r.wo<=7)/\(1<=r.wi/\r.wi<=50)
def Rl.apart (r:Rl):Prop:=r.f≠r.t/\r.f≠r.wo/\r.t≠r.wo
def Rl.ok (r:Rl):Prop:=r.named/\r.bnd/\r.apart
def Rl.flt (r:Rl) (n:Nat):Prop:=(¬ r.named/\n=4)\/(r.named/\¬ r.bnd/\n=1)\/(r.named/\r.bnd/\¬ r.apart/\n=3)\/(r.ok/\n=0)
theorem flt_ok {r:Rl} {n:Nat} (h:r.flt n):n=0↔r.ok:=by
 rcases h with ⟨h1,rfl⟩ | ⟨_,h1,rfl⟩ | ⟨_,_,h1,rfl⟩ | ⟨h1,rfl⟩
 ·exact ⟨fun h=>by omega,fun h=>absurd h.1 h1⟩
 ·exact ⟨fun h=>by omega,fun h=>absurd h.2.1 h1⟩
 ·exact ⟨fun h=>by omega,fun h=>absurd h.2.2 h1⟩
 ·exact ⟨fun _=>h1,fun _=>rfl⟩
theorem flt_ex (r:Rl):∃ n,r.flt n:=by
 by_cases h1:r.named
 ·by_cases h2:r.bnd
  ·by_cases h3:r.apart
   ·exact ⟨0,Or.inr (Or.inr (Or.inr ⟨⟨h1,h2,h3⟩,rfl⟩))⟩
   ·exact ⟨3,Or.inr (Or.inr (Or.inl ⟨h1,h2,h3,rfl⟩))⟩
  ·exact ⟨1,Or.inr (Or.inl ⟨h1,h2,rfl⟩)⟩
 ·exact ⟨4,Or.inl ⟨h1,rfl⟩⟩
theorem flt_uniq {r:Rl} {n m:Nat} (h:r.flt n) (h':r.flt m):n=m:=by rcases h with ⟨a,rfl⟩ | ⟨a,b,rfl⟩ | ⟨a,b,c,rfl⟩ | ⟨a,rfl⟩<;>rcases h' with ⟨a',rfl⟩ | ⟨a',b',rfl⟩ | ⟨a',b',c',rfl⟩ | ⟨a',rfl⟩<;>first | rfl | (exfalso;first | exact a a' | exact a' a | exact b b' | exact b' b | exact c c' | exact c' c | exact a a'.1 | exact b a'.2.1 | exact c a'.2.2 | exact a' a.1 | exact b' a.2.1 | exact c' a.2.2)
end RuM
end Go.Proofs.YtmolafjalaeoaaaGreatDoor
