/-
  RefZ
-/
import Derived.Test.YtmolafjalaeoaaaGreatDoorQam
import Derived.Lib.QuietBelow
set_option maxRecDepth 100000
set_option maxHeartbeats 8000000
namespace Go.Proofs.YtmolafjalaeoaaaGreatDoor
open Tryz
namespace TagA
open Go.RowKit TagM
theorem parts_ok (k:Nat) (w:World) (hk:k<6) :
  Calls prog 63 #[.int .i64 k] w fun e w'=>e = .returned (.tuple #[.agg #[.int .i64 (cbits k),.int .i64 (cdig k),.int .i64 (rbits k),.int .i64 (rdig k)],.bool true])/\Below w.heap.size w w':=by
 match k,hk with
 | 0,_ | 1,_ | 2,_ | 3,_ | 4,_ | 5,_=>
  go_enter func63,ntmps63;go_wp2;exact bodyPost_ret (v:=_) (by simp[results,results63,go_sem];exact ⟨rfl,rfl,rfl,rfl⟩) rfl ⟨rfl,(Below.refl _ _).alloc (Nat.le_refl _) _⟩
theorem parts_no (P:Int) (w:World) (hk:P<0\/5<P) :
  Calls prog 63 #[.int .i64 P] w fun e w'=>e = .returned (.tuple #[.agg #[.int .i64 0,.int .i64 0,.int .i64 0,.int .i64 0],.bool false])/\Below w.heap.size w w':=by
 have h0:(P == 0)=false:=by simp;omega
 have h1:(P == 1)=false:=by simp;omega
 have h2:(P == 2)=false:=by simp;omega
 have h3:(P == 3)=false:=by simp;omega
 have h4:(P == 4)=false:=by simp;omega
 have h5:(P == 5)=false:=by simp;omega
 clear hk;go_enter func63,ntmps63;go_wp2;exact bodyPost_ret (v:=.tuple #[.agg #[.int .i64 0,.int .i64 0,.int .i64 0,.int .i64 0],.bool false]) (by simp[results,results63,go_sem]) rfl ⟨rfl,(Below.refl _ _).alloc (Nat.le_refl _) _⟩
theorem conv1 (x:Int) (t:TypeId) (w:World):(convert 157 9 (.slice (some ⟨w.heap.size,0,none⟩) 1 1)).run prog (w.alloc (.cells #[.int .u8 x] t)) = .ok (.string ⟨#[UInt8.ofNat x.toNat]⟩) (w.alloc (.cells #[.int .u8 x] t)):=by
 have:=run_convert_bytes_arg (P:=prog) (w.alloc (.cells #[.int .u8 x] t)) 157 5 underlying157 underlying5 w.heap.size 0 1 1 [x] rfl (fun i hi=>by
  match i,hi with
  | 0,_=>go_simp) 9 underlying9
 rw[this];rfl
theorem dig_eq (x:Nat):(48+UInt8.ofNat x:UInt8)=UInt8.ofNat (48+x):=(UInt8.ofNat_add 48 x).symm
theorem ret_str {a b:ByteArray} (h:a=b):Ending.returned (.string a) = .returned (.string b):=by rw[h]
theorem dec_step {n:Nat} (h:¬ n<10):dec n=dec (n/10) ++ [UInt8.ofNat (48+n%10)]:=by unfold dec;rw[Lib.decDigits,dif_neg h]
theorem dec_one {n:Nat} (h:n<10):dec n = [UInt8.ofNat (48+n)]:=by unfold dec;rw[Lib.decDigits,dif_pos h]
theorem dec_len19 {n:Nat} (h:n<9223372036854775808):(dec n).length<=19:=dec_len (d:=19) (by omega) (by omega)
theorem decimal_any (N:Nat) (w:World) (hN:N<9223372036854775808) :
  Calls prog 127 #[.int .i64 N] w fun e w'=>e = .returned (.string ⟨(dec N).toArray⟩)/\Below w.heap.size w w':=by
 have HL:Hid _:=dec_len19 hN;have hN':(N:Int)<=9223372036854775807:=by omega
 clear hN;have hc1:=conv1;go_enter func127,ntmps127;go_wp2;go_loopw [0,3,5] (fun a b _ V=>∃ (n:Nat) (l:List UInt8),n<=N/\a = .int .i64 n/\b = .string ⟨l.toArray⟩/\dec N=dec n++l/\Below w.heap.size w V) (fun a _ _ _=>(intOf a).toNat)
 case atStart=>exact ⟨N,[],Nat.le_refl _,rfl,rfl,by simp,Below.refl _ _⟩
 case round=>
  obtain ⟨n,l,hn,rfl,rfl,hd,hb⟩:=hrel;have HD:Hid _:=hd;have HB:Hid _:=hb;have hlen:l.length<=19:=by have:=HL.out;rw[hd,List.length_append] at this;omega
  clear hd hb;have hnI:(n:Int)<=9223372036854775807:=by omega
  have hdg:=dig_eq (n%10);have HDG:Hid _:=hdg;clear hdg;go_wp2
  ·have hz:(n:Int)/10=0:=(by simpa using ‹((n:Int)/10 == 0)=true›);have hn10:n<10:=(by omega);go_ret;refine ⟨ret_str ?_,HB.out.alloc HB.out.size _⟩;rw[HDG.out,HD.out,dec_one hn10,Nat.mod_eq_of_lt hn10];exact bytes_inj (by simp)
  ·have hz:¬ (n:Int)/10=0:=(by simpa using ‹((n:Int)/10 == 0)=false›);have hn10:¬ n<10:=(by omega);go_roundw
   case rel=>
    refine ⟨n/10,UInt8.ofNat (48+n%10)::l,by omega,by go_num,?_,?_,HB.out.alloc HB.out.size _⟩
    ·rw[HDG.out];exact congrArg Value.string (bytes_inj (by simp))
    ·rw[HD.out,dec_step hn10];simp
   case measure=>simp[intOf];omega
end TagA
namespace TagA
open Go.RowKit TagM
open Go.Sort (grow)
theorem len_iff {n d:Nat} (hd : 1<=d):(dec n).length<=d↔n<10 ^ d:=by
 constructor
 ·intro h;have:=Lib.lt_pow_nDigits n;rw[<- Lib.decDigits_length] at this;exact Nat.lt_of_lt_of_le this (Nat.pow_le_pow_right (by omega) h)
 ·exact fun h=>dec_len h hd
theorem dig_nat (n d:Nat):dig (n:Int) d=decide (n<10 ^ d):=by
 unfold dig;rw[Bool.eq_iff_iff];have e:((10:Int) ^ d)=((10 ^ d:Nat):Int):=by simp
 rw[e];simp only[Bool.and_eq_true,decide_eq_true_eq];omega
def faultV (K F P C R S:Int):Int:=if okB K F P C R S then 0 else 1
theorem fault_head (K F P C R S:Int) (w:World) (h:¬ (btw K 1 3=true/\btw F 0 7=true/\btw P 0 5=true/\btw S 0 16777215=true)) :
  Calls prog 147 #[.agg #[.int .i64 K,.int .i64 F,.int .i64 P,.int .i64 C,.int .i64 R,.int .i64 S]] w fun e w'=>e = .returned (.int .i64 1)/\Below w.heap.size w w':=by
 by_cases hP:btw P 0 5=true
 case neg=>
  have hP':P<0\/5<P:=by rw[btw_true] at hP;omega
  clear h hP;go_enter func147,ntmps147;go_wp2_with fail;refine (parts_no P _ hP').mono ?_;rintro e w1 ⟨rfl,hb1⟩;obtain ⟨s1,hb2,d0,d1,d2,d3,d4,d5⟩:=boxed6 hb1;have HB:Hid _:=hb2;clear hb1 hb2 hP';go_wp2;go_ret;exact ⟨rfl,HB.out.alloc (Nat.le_of_lt s1) _⟩
 obtain ⟨p1,p2⟩:=btw_true.1 hP;obtain ⟨k,rfl⟩:∃ k:Nat,P=k:=⟨P.toNat,by omega⟩;have hk:k<6:=by omega
 rw[btw_true,btw_true,btw_true,btw_true] at h;clear hP;by_cases h1:K<1
 ·go_enter func147,ntmps147;go_wp2_with fail;refine (parts_ok k _ hk).mono ?_;rintro e w1 ⟨rfl,hb1⟩;obtain ⟨s1,hb2,d0,d1,d2,d3,d4,d5⟩:=boxed6 hb1;have HB:Hid _:=hb2;clear hb1 hb2 h p1 p2;go_wp2;go_ret;exact ⟨rfl,HB.out.alloc (Nat.le_of_lt s1) _⟩
 have h1d:decide (K<1)=false:=by simpa using h1
 by_cases h2 : 3<K
 ·go_enter func147,ntmps147;go_wp2_with fail;refine (parts_ok k _ hk).mono ?_;rintro e w1 ⟨rfl,hb1⟩;obtain ⟨s1,hb2,d0,d1,d2,d3,d4,d5⟩:=boxed6 hb1;have HB:Hid _:=hb2;clear hb1 hb2 h p1 p2;go_wp2;go_ret;exact ⟨rfl,HB.out.alloc (Nat.le_of_lt s1) _⟩
 have h2d:decide (3<K)=false:=by simpa using h2
 by_cases h3:F<0
 ·go_enter func147,ntmps147;go_wp2_with fail;refine (parts_ok k _ hk).mono ?_;rintro e w1 ⟨rfl,hb1⟩;obtain ⟨s1,hb2,d0,d1,d2,d3,d4,d5⟩:=boxed6 hb1;have HB:Hid _:=hb2;clear hb1 hb2 h p1 p2;go_wp2;go_ret;exact ⟨rfl,HB.out.alloc (Nat.le_of_lt s1) _⟩
 have h3d:decide (F<0)=false:=by simpa using h3
 by_cases h4 : 7<F
 ·go_enter func147,ntmps147;go_wp2_with fail;refine (parts_ok k _ hk).mono ?_;rintro e w1 ⟨rfl,hb1⟩;obtain ⟨s1,hb2,d0,d1,d2,d3,d4,d5⟩:=boxed6 hb1;have HB:Hid _:=hb2;clear hb1 hb2 h p1 p2;go_wp2;go_ret;exact ⟨rfl,HB.out.alloc (Nat.le_of_lt s1) _⟩
 have h4d:decide (7<F)=false:=by simpa using h4
 by_cases h5:S<0
 ·go_enter func147,ntmps147;go_wp2_with fail;refine (parts_ok k _ hk).mono ?_;rintro e w1 ⟨rfl,hb1⟩;obtain ⟨s1,hb2,d0,d1,d2,d3,d4,d5⟩:=boxed6 hb1;have HB:Hid _:=hb2;clear hb1 hb2 h p1 p2;go_wp2;go_ret;exact ⟨rfl,HB.out.alloc (Nat.le_of_lt s1) _⟩
 have h5d:decide (S<0)=false:=by simpa using h5
 have h6 : 16777215<S:=by omega
 go_enter func147,ntmps147;go_wp2_with fail;refine (parts_ok k _ hk).mono ?_;rintro e w1 ⟨rfl,hb1⟩;obtain ⟨s1,hb2,d0,d1,d2,d3,d4,d5⟩:=boxed6 hb1;have HB:Hid _:=hb2;clear hb1 hb2 h p1 p2;go_wp2;go_ret;exact ⟨rfl,HB.out.alloc (Nat.le_of_lt s1) _⟩
end TagA
namespace TagA
open Go.RowKit TagM
open Go.Sort (grow)
theorem faultW {w w1:World} {K F P C R S:Int} {k:Nat} (hb1:Below (w.alloc (.cells #[.int .i64 K,.int .i64 F,.int .i64 P,.int .i64 C,.int .i64 R,.int .i64 S] 80)).heap.size (w.alloc (.cells #[.int .i64 K,.int .i64 F,.int .i64 P,.int .i64 C,.int .i64 R,.int .i64 S] 80)) w1) {W:World}
  (hW:W=w1.alloc (.cells #[.int .i64 (cbits k),.int .i64 (cdig k),.int .i64 (rbits k),.int .i64 (rdig k)] 22)) :
  Below w.heap.size w W/\W.cell? ⟨w.heap.size,3,none⟩=some (.int .i64 C)/\W.cell? ⟨w.heap.size,4,none⟩=some (.int .i64 R)/\W.cell? ⟨w1.heap.size,1,none⟩=some (.int .i64 (cdig k))/\W.cell? ⟨w1.heap.size,3,none⟩=some (.int .i64 (rdig k)):=by
 subst hW;obtain ⟨s1,hb2,d0,d1,d2,d3,d4,d5⟩:=boxed6 hb1;have hB:=(Below.refl w1.heap.size w1).alloc (Nat.le_refl _) (.cells #[.int .i64 (cbits k),.int .i64 (cdig k),.int .i64 (rbits k),.int .i64 (rdig k)] 22);exact ⟨hb2.trans (hB.mono (Nat.le_of_lt s1)),keepCell hB d3,keepCell hB d4,by go_simp,by go_simp⟩
theorem fault_C (K F C R S:Int) (k:Nat) (w:World) (h1:¬ K<1) (h2:¬ 3<K) (h3:¬ F<0) (h4:¬ 7<F) (h5:¬ S<0) (h6:¬ 16777215<S) (hk:k<6) (hC:C<0) :
  Calls prog 147 #[.agg #[.int .i64 K,.int .i64 F,.int .i64 k,.int .i64 C,.int .i64 R,.int .i64 S]] w fun e w'=>e = .returned (.int .i64 1)/\Below w.heap.size w w':=by
 have h1d:decide (K<1)=false:=by simpa using h1
 have h2d:decide (3<K)=false:=by simpa using h2
 have h3d:decide (F<0)=false:=by simpa using h3
 have h4d:decide (7<F)=false:=by simpa using h4
 have h5d:decide (S<0)=false:=by simpa using h5
 have h6d:decide (16777215<S)=false:=by simpa using h6
 have hCd:decide (C<0)=true:=by simpa using hC
 go_enter func147,ntmps147;go_wp2_with fail;refine (parts_ok k _ hk).mono ?_;rintro e w1 ⟨rfl,hb1⟩;have hF:=faultW (k:=k) hb1 rfl;obtain ⟨s1,hb2,d0,d1,d2,d3,d4,d5⟩:=boxed6 hb1;clear hb1 hb2;go_upto_region 4 with fail
 clear d0 d1 d2 d3 d4 d5;generalize w1.alloc (.cells #[.int .i64 (cbits k),.int .i64 (cdig k),.int .i64 (rbits k),.int .i64 (rdig k)] 22)=W at *;obtain ⟨hBW,c3,c4,c5,c6⟩:=hF;have HB:Hid _:=hBW;clear hBW;have k3:=cell_regrown c3;have k4:=cell_regrown c4;have k5:=cell_regrown c5;have k6:=cell_regrown c6;refine wp_region_quiet_below (by kernel_rfl) (by kernel_rfl) ?_
 repeat (go_big_quiet_step (fail))
 refine wpQuiet_nil ?_;intro _ hw';obtain ⟨⟨dq,osq⟩,hw''⟩:=hw';subst hw'';go_wp2;go_ret;exact ⟨rfl,HB.out.trans ((below_regrown W dq osq).mono HB.out.size)⟩
theorem fault_CD (K F R S:Int) (C k:Nat) (w:World) (h1:¬ K<1) (h2:¬ 3<K) (h3:¬ F<0) (h4:¬ 7<F) (h5:¬ S<0) (h6:¬ 16777215<S) (hk:k<6) (hC:C<9223372036854775808) (hl:cdig k<(dec C).length) :
  Calls prog 147 #[.agg #[.int .i64 K,.int .i64 F,.int .i64 k,.int .i64 C,.int .i64 R,.int .i64 S]] w fun e w'=>e = .returned (.int .i64 1)/\Below w.heap.size w w':=by
 have h1d:decide (K<1)=false:=by simpa using h1
 have h2d:decide (3<K)=false:=by simpa using h2
 have h3d:decide (F<0)=false:=by simpa using h3
 have h4d:decide (7<F)=false:=by simpa using h4
 have h5d:decide (S<0)=false:=by simpa using h5
 have h6d:decide (16777215<S)=false:=by simpa using h6
 have hCd:decide ((C:Int)<0)=false:=by simp
 have hCl:decide (((cdig k:Nat):Int)<((dec C).length:Int))=true:=by simp;omega
 have HC:Hid _:=hC;clear hC;go_enter func147,ntmps147;go_wp2_with fail;refine (parts_ok k _ hk).mono ?_;rintro e w1 ⟨rfl,hb1⟩;have hF:=faultW (k:=k) hb1 rfl;obtain ⟨s1,hb2,d0,d1,d2,d3,d4,d5⟩:=boxed6 hb1;clear hb1 hb2;go_upto_region 4 with fail
 clear d0 d1 d2 d3 d4 d5;generalize w1.alloc (.cells #[.int .i64 (cbits k),.int .i64 (cdig k),.int .i64 (rbits k),.int .i64 (rdig k)] 22)=W at *;obtain ⟨hBW,c3,c4,c5,c6⟩:=hF;have HB:Hid _:=hBW;clear hBW;have k3:=cell_regrown c3;have k4:=cell_regrown c4;have k5:=cell_regrown c5;have k6:=cell_regrown c6;refine wp_region_quiet_below (by kernel_rfl) (by kernel_rfl) ?_
 repeat (go_big_quiet_step (exact Calls.regrown_of (decimal_any C _ HC.out)))
 refine wpQuiet_nil ?_;intro _ hw';obtain ⟨⟨dq,osq⟩,hw''⟩:=hw';subst hw'';go_wp2;go_ret;exact ⟨rfl,HB.out.trans ((below_regrown W dq osq).mono HB.out.size)⟩
theorem fault_R (K F R S:Int) (C k:Nat) (w:World) (h1:¬ K<1) (h2:¬ 3<K) (h3:¬ F<0) (h4:¬ 7<F) (h5:¬ S<0) (h6:¬ 16777215<S) (hk:k<6) (hC:C<9223372036854775808) (hl:(dec C).length<=cdig k) (hR:R<0) :
  Calls prog 147 #[.agg #[.int .i64 K,.int .i64 F,.int .i64 k,.int .i64 C,.int .i64 R,.int .i64 S]] w fun e w'=>e = .returned (.int .i64 1)/\Below w.heap.size w w':=by
 have h1d:decide (K<1)=false:=by simpa using h1
 have h2d:decide (3<K)=false:=by simpa using h2
 have h3d:decide (F<0)=false:=by simpa using h3
 have h4d:decide (7<F)=false:=by simpa using h4
 have h5d:decide (S<0)=false:=by simpa using h5
 have h6d:decide (16777215<S)=false:=by simpa using h6
 have hCd:decide ((C:Int)<0)=false:=by simp
 have hCl:decide (((cdig k:Nat):Int)<((dec C).length:Int))=false:=by simp;omega
 have hCn:decide (cdig k<(dec C).length)=false:=by simp;omega
 have hRd:decide (R<0)=true:=by simpa using hR
 have HC:Hid _:=hC;clear hC;go_enter func147,ntmps147;go_wp2_with fail;refine (parts_ok k _ hk).mono ?_;rintro e w1 ⟨rfl,hb1⟩;have hF:=faultW (k:=k) hb1 rfl;obtain ⟨s1,hb2,d0,d1,d2,d3,d4,d5⟩:=boxed6 hb1;clear hb1 hb2;go_upto_region 4 with fail
 clear d0 d1 d2 d3 d4 d5;generalize w1.alloc (.cells #[.int .i64 (cbits k),.int .i64 (cdig k),.int .i64 (rbits k),.int .i64 (rdig k)] 22)=W at *;obtain ⟨hBW,c3,c4,c5,c6⟩:=hF;have HB:Hid _:=hBW;clear hBW;have k3:=cell_regrown c3;have k4:=cell_regrown c4;have k5:=cell_regrown c5;have k6:=cell_regrown c6;refine wp_region_quiet_below (by kernel_rfl) (by kernel_rfl) ?_
 repeat (go_big_quiet_step (exact Calls.regrown_of (decimal_any C _ HC.out)))
 refine wpQuiet_nil ?_;intro _ hw';obtain ⟨⟨dq,osq⟩,hw''⟩:=hw';subst hw'';go_wp2;go_ret;exact ⟨rfl,HB.out.trans ((below_regrown W dq osq).mono HB.out.size)⟩
theorem fault_RD (K F S:Int) (C R k:Nat) (w:World) (h1:¬ K<1) (h2:¬ 3<K) (h3:¬ F<0) (h4:¬ 7<F) (h5:¬ S<0) (h6:¬ 16777215<S) (hk:k<6) (hC:C<9223372036854775808) (hl:(dec C).length<=cdig k) (hR:R<9223372036854775808) (hr:rdig k<(dec R).length) :
  Calls prog 147 #[.agg #[.int .i64 K,.int .i64 F,.int .i64 k,.int .i64 C,.int .i64 R,.int .i64 S]] w fun e w'=>e = .returned (.int .i64 1)/\Below w.heap.size w w':=by
 have h1d:decide (K<1)=false:=by simpa using h1
 have h2d:decide (3<K)=false:=by simpa using h2
 have h3d:decide (F<0)=false:=by simpa using h3
 have h4d:decide (7<F)=false:=by simpa using h4
 have h5d:decide (S<0)=false:=by simpa using h5
 have h6d:decide (16777215<S)=false:=by simpa using h6
 have hCd:decide ((C:Int)<0)=false:=by simp
 have hCl:decide (((cdig k:Nat):Int)<((dec C).length:Int))=false:=by simp;omega
 have hCn:decide (cdig k<(dec C).length)=false:=by simp;omega
 have hRd:decide ((R:Int)<0)=false:=by simp
 have hRl:decide (((rdig k:Nat):Int)<((dec R).length:Int))=true:=by simp;omega
 have HC:Hid _:=hC;have HR:Hid _:=hR;clear hC hR;go_enter func147,ntmps147;go_wp2_with fail;refine (parts_ok k _ hk).mono ?_;rintro e w1 ⟨rfl,hb1⟩;have hF:=faultW (k:=k) hb1 rfl;obtain ⟨s1,hb2,d0,d1,d2,d3,d4,d5⟩:=boxed6 hb1;clear hb1 hb2;go_upto_region 4 with fail
 clear d0 d1 d2 d3 d4 d5;generalize w1.alloc (.cells #[.int .i64 (cbits k),.int .i64 (cdig k),.int .i64 (rbits k),.int .i64 (rdig k)] 22)=W at *;obtain ⟨hBW,c3,c4,c5,c6⟩:=hF;have HB:Hid _:=hBW;clear hBW;have k3:=cell_regrown c3;have k4:=cell_regrown c4;have k5:=cell_regrown c5;have k6:=cell_regrown c6;refine wp_region_quiet_below (by kernel_rfl) (by kernel_rfl) ?_
 repeat (go_big_quiet_step (first | with_reducible exact Calls.regrown_of (decimal_any C _ HC.out) | with_reducible exact Calls.regrown_of (decimal_any R _ HR.out)))
 refine wpQuiet_nil ?_;intro _ hw';obtain ⟨⟨dq,osq⟩,hw''⟩:=hw';subst hw'';go_wp2;go_ret;exact ⟨rfl,HB.out.trans ((below_regrown W dq osq).mono HB.out.size)⟩
theorem fault_0 (K F S:Int) (C R k:Nat) (w:World) (h1:¬ K<1) (h2:¬ 3<K) (h3:¬ F<0) (h4:¬ 7<F) (h5:¬ S<0) (h6:¬ 16777215<S) (hk:k<6) (hC:C<9223372036854775808) (hl:(dec C).length<=cdig k) (hR:R<9223372036854775808) (hr:(dec R).length<=rdig k) :
  Calls prog 147 #[.agg #[.int .i64 K,.int .i64 F,.int .i64 k,.int .i64 C,.int .i64 R,.int .i64 S]] w fun e w'=>e = .returned (.int .i64 0)/\Below w.heap.size w w':=by
 have h1d:decide (K<1)=false:=by simpa using h1
 have h2d:decide (3<K)=false:=by simpa using h2
 have h3d:decide (F<0)=false:=by simpa using h3
 have h4d:decide (7<F)=false:=by simpa using h4
 have h5d:decide (S<0)=false:=by simpa using h5
 have h6d:decide (16777215<S)=false:=by simpa using h6
 have hCd:decide ((C:Int)<0)=false:=by simp
 have hCl:decide (((cdig k:Nat):Int)<((dec C).length:Int))=false:=by simp;omega
 have hCn:decide (cdig k<(dec C).length)=false:=by simp;omega
 have hRd:decide ((R:Int)<0)=false:=by simp
 have hRl:decide (((rdig k:Nat):Int)<((dec R).length:Int))=false:=by simp;omega
 have hRn:decide (rdig k<(dec R).length)=false:=by simp;omega
 have HC:Hid _:=hC;have HR:Hid _:=hR;clear hC hR;go_enter func147,ntmps147;go_wp2_with fail;refine (parts_ok k _ hk).mono ?_;rintro e w1 ⟨rfl,hb1⟩;have hF:=faultW (k:=k) hb1 rfl;obtain ⟨s1,hb2,d0,d1,d2,d3,d4,d5⟩:=boxed6 hb1;clear hb1 hb2;go_upto_region 4 with fail
 clear d0 d1 d2 d3 d4 d5;generalize w1.alloc (.cells #[.int .i64 (cbits k),.int .i64 (cdig k),.int .i64 (rbits k),.int .i64 (rdig k)] 22)=W at *;obtain ⟨hBW,c3,c4,c5,c6⟩:=hF;have HB:Hid _:=hBW;clear hBW;have k3:=cell_regrown c3;have k4:=cell_regrown c4;have k5:=cell_regrown c5;have k6:=cell_regrown c6;refine wp_region_quiet_below (by kernel_rfl) (by kernel_rfl) ?_
 repeat (go_big_quiet_step (first | with_reducible exact Calls.regrown_of (decimal_any C _ HC.out) | with_reducible exact Calls.regrown_of (decimal_any R _ HR.out)))
 refine wpQuiet_nil ?_;intro _ hw';obtain ⟨⟨dq,osq⟩,hw''⟩:=hw';subst hw'';go_wp2;go_ret;exact ⟨rfl,HB.out.trans ((below_regrown W dq osq).mono HB.out.size)⟩
theorem fault_any (K F P C R S:Int) (w:World) (hC:C<=9223372036854775807) (hR:R<=9223372036854775807) :
  Calls prog 147 #[.agg #[.int .i64 K,.int .i64 F,.int .i64 P,.int .i64 C,.int .i64 R,.int .i64 S]] w fun e w'=>e = .returned (.int .i64 (faultV K F P C R S))/\Below w.heap.size w w':=by
 by_cases hh:btw K 1 3=true/\btw F 0 7=true/\btw P 0 5=true/\btw S 0 16777215=true
 case neg=>
  have e:faultV K F P C R S=1:=by unfold faultV okB;rw[if_neg];intro h;simp only[Bool.and_eq_true] at h;exact hh ⟨h.1.1.1.1.1,h.1.1.1.1.2,h.1.1.1.2,h.1.1.2⟩
  rw[e];exact fault_head K F P C R S w hh
 obtain ⟨a1,a2,a3,a4⟩:=hh;have b1:=btw_true.1 a1;have b2:=btw_true.1 a2;have b3:=btw_true.1 a3;have b4:=btw_true.1 a4;obtain ⟨k,rfl⟩:∃ k:Nat,P=k:=⟨P.toNat,by omega⟩;have e:faultV K F k C R S=if dig C (cdig k)&&dig R (rdig k) then 0 else 1:=by unfold faultV okB;rw[a1,a2,a3,a4];simp[Int.toNat_natCast]
 rw[e];have hcd:=cdig_le k;have hrd:=rdig_le k;by_cases c1:C<0
 ·have:dig C (cdig k)=false:=by unfold dig;simp;omega
  rw[this];exact fault_C K F C R S k w (by omega) (by omega) (by omega) (by omega) (by omega) (by omega) (by omega) c1
 obtain ⟨c,rfl⟩:∃ c:Nat,C=c:=⟨C.toNat,by omega⟩;rw[dig_nat];by_cases c2:(dec c).length<=cdig k
 case neg=>have:¬ c<10 ^ cdig k:=fun h=>c2 ((len_iff hcd.1).2 h);rw[decide_eq_false this];exact fault_CD K F R S c k w (by omega) (by omega) (by omega) (by omega) (by omega) (by omega) (by omega) (by omega) (by omega)
 rw[decide_eq_true ((len_iff hcd.1).1 c2)];by_cases r1:R<0
 ·have:dig R (rdig k)=false:=by unfold dig;simp;omega
  rw[this];exact fault_R K F R S c k w (by omega) (by omega) (by omega) (by omega) (by omega) (by omega) (by omega) (by omega) c2 r1
 obtain ⟨r,rfl⟩:∃ r:Nat,R=r:=⟨R.toNat,by omega⟩;rw[dig_nat];by_cases r2:(dec r).length<=rdig k
 case neg=>have:¬ r<10 ^ rdig k:=fun h=>r2 ((len_iff hrd.1).2 h);rw[decide_eq_false this];exact fault_RD K F S c r k w (by omega) (by omega) (by omega) (by omega) (by omega) (by omega) (by omega) (by omega) c2 (by omega) (by omega)
 rw[decide_eq_true ((len_iff hrd.1).1 r2)];exact fault_0 K F S c r k w (by omega) (by omega) (by omega) (by omega) (by omega) (by omega) (by omega) (by omega) c2 (by omega) r2
end TagA
end Go.Proofs.YtmolafjalaeoaaaGreatDoor
