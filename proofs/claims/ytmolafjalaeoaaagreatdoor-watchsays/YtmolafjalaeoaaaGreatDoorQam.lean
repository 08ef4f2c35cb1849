/-
  TagZ
-/
import Derived.Test.YtmolafjalaeoaaaGreatDoorProg
import Derived.WalkKit
import Derived.WalkSpells
import Derived.WalkLawsBesides
import Derived.Deep.QuietTactic
import Derived.BigQuiet
import Derived.Laws.BitsAllLaws
import Derived.Laws.Bits64
import Derived.Laws.BytesArg
import Derived.Lib.AppendIntMem
import Derived.Deep.DeepCutAuto
import Derived.Deep.RegionHeld3
import Derived.Deep.DrawnRows
set_option maxRecDepth 100000
set_option maxHeartbeats 8000000
namespace Go.Proofs.YtmolafjalaeoaaaGreatDoor
open Tryz
namespace TagM
def cbits:Nat->Nat | 0=>20 | 1=>17 | 2=>14 | 3=>10 | 4=>7 | _=>4
def cdig:Nat->Nat | 0=>6 | 1=>5 | 2=>4 | 3=>3 | 4=>2 | _=>1
def rbits:Nat->Nat | 0=>6 | 1=>9 | 2=>12 | 3=>16 | 4=>19 | _=>22
def rdig:Nat->Nat | 0=>1 | 1=>2 | 2=>3 | 3=>4 | 4=>5 | _=>6
def btw (n lo hi:Int):Bool:=decide (lo<=n)&&decide (n<=hi)
def dig (n:Int) (d:Nat):Bool:=decide (0<=n)&&decide (n<(10:Int) ^ d)
theorem btw_true {n lo hi:Int}:btw n lo hi=true↔lo<=n/\n<=hi:=by simp[btw]
theorem dig_true {n:Int} {d:Nat}:dig n d=true↔0<=n/\n<(10:Int) ^ d:=by simp[dig]
def okB (K F P C R S:Int):Bool:=btw K 1 3&&btw F 0 7&&btw P 0 5&&btw S 0 16777215&&dig C (cdig P.toNat)&&dig R (rdig P.toNat)
theorem pow10_le {d:Nat} (h:d<=6) : 1<=(10:Int) ^ d/\(10:Int) ^ d<=1000000:=by
 match d,h with
 | 0,_ | 1,_ | 2,_ | 3,_ | 4,_ | 5,_ | 6,_=>decide
 | _+7,h=>omega
theorem dig_btw {n:Int} {d:Nat}:dig n d=btw n 0 ((10:Int) ^ d-1):=by unfold dig btw;congr 1;rw[Bool.eq_iff_iff];simp;omega
theorem cdig_le (k:Nat) : 1<=cdig k/\cdig k<=6:=by unfold cdig;split<;>omega
theorem rdig_le (k:Nat) : 1<=rdig k/\rdig k<=6:=by unfold rdig;split<;>omega
theorem cbits_le (k:Nat) : 4<=cbits k/\cbits k<=20:=by unfold cbits;split<;>omega
theorem rbits_le (k:Nat) : 6<=rbits k/\rbits k<=22:=by unfold rbits;split<;>omega
theorem bits_sum (k:Nat):cbits k+rbits k=26:=by unfold cbits rbits;split<;>rfl
end TagM
namespace TagA
open Go.RowKit TagM
structure Tabs (w:World):Prop where
 size : 1<=w.heap.size
 c0:∀ k:Nat,k<6->w.cell? ⟨0,k*4,none⟩=some (.int .i64 (cbits k))
 c1:∀ k:Nat,k<6->w.cell? ⟨0,k*4+1,none⟩=some (.int .i64 (cdig k))
 c2:∀ k:Nat,k<6->w.cell? ⟨0,k*4+1+1,none⟩=some (.int .i64 (rbits k))
 c3:∀ k:Nat,k<6->w.cell? ⟨0,k*4+1+1+1,none⟩=some (.int .i64 (rdig k))
theorem Tabs.below {w w':World} {B:Nat} (h:Tabs w) (hb:Below B w w') (hB : 1<=B):Tabs w' where
 size:=Nat.le_trans h.size hb.size
 c0:=fun k hk=>by rw[hb.cell (by show 0<B;omega)];exact h.c0 k hk
 c1:=fun k hk=>by rw[hb.cell (by show 0<B;omega)];exact h.c1 k hk
 c2:=fun k hk=>by rw[hb.cell (by show 0<B;omega)];exact h.c2 k hk
 c3:=fun k hk=>by rw[hb.cell (by show 0<B;omega)];exact h.c3 k hk
theorem between_any (n lo hi:Int) (w:World) :
  Calls prog 96 #[.int .i64 n,.int .i64 lo,.int .i64 hi] w fun e w'=>e = .returned (.bool (btw n lo hi))/\w'=w:=by
 by_cases h1:lo<=n
 ·by_cases h2:n<=hi
  ·have hb:btw n lo hi=true:=(by simp[btw,h1,h2]);rw[hb];clear hb;go_enter func96,ntmps96;go_wp2;go_ret;exact ⟨rfl,rfl⟩
  ·have hb:btw n lo hi=false:=(by simp[btw];omega);rw[hb];clear hb;go_enter func96,ntmps96;go_wp2;go_ret;exact ⟨by simp,rfl⟩
 ·have hb:btw n lo hi=false:=by simp[btw];omega
  rw[hb];clear hb;have h1':decide (lo<=n)=false:=by simpa using h1
  go_enter func96,ntmps96;go_wp2;go_ret;exact ⟨rfl,rfl⟩
theorem hasDigits_any (n:Int) (d:Nat) (w:World) (hd:d<=6) :
  Calls prog 97 #[.int .i64 n,.int .i64 d] w fun e w'=>e = .returned (.bool (dig n d))/\w'=w:=by
 rw[dig_btw];go_enter func97,ntmps97;go_wp2;go_loop [5,7] (fun l i=>∃ k:Nat,k<=d/\i = .int .i64 k/\l = .int .i64 ((10:Int) ^ k)) (fun _ i=>d-(intOf i).toNat)
 case atStart=>exact ⟨0,Nat.zero_le _,rfl,rfl⟩
 case round=>
  obtain ⟨k,hk,rfl,rfl⟩:=hrel;by_cases hlt:k<d
  ·have hp:=pow10_le (d:=k) (by omega);have hlt':(k:Int)<d:=(by omega);have HP:Hid ((10:Int) ^ (k+1)=10 ^ k*10):=Int.pow_succ _ _;go_wp2;go_round
   case rel=>exact ⟨k+1,by omega,by go_num,by rw[HP.out]⟩
   case measure=>simp[intOf];omega
  ·obtain rfl:k=d:=(by omega);have hp:=pow10_le (d:=k) (by omega);go_wp2_with (go_at_call 96;refine (between_any _ _ _ _).mono ?_;rintro e w' ⟨rfl,rfl⟩);go_ret;exact ⟨rfl,rfl⟩
end TagA
namespace TagA
open Go.RowKit TagM
def checkV (K F P C R S:Int):Value:=if okB K F P C R S then .nilIface else .iface 105 (.int .i64 1)
theorem check_any (K F P C R S:Int) (w:World) (hT:Tabs w) :
  Calls prog 60 #[.agg #[.int .i64 K,.int .i64 F,.int .i64 P,.int .i64 C,.int .i64 R,.int .i64 S]] w fun e w'=>e = .returned (checkV K F P C R S)/\Below w.heap.size w w':=by
 by_cases h1:btw K 1 3=true
 case neg=>
  have h1:btw K 1 3=false:=by simpa using h1
  have hr:checkV K F P C R S = .iface 105 (.int .i64 1):=by simp[checkV,okB,h1]
  rw[hr];clear hr hT;go_enter func60,ntmps60;go_wp2_with (first | (go_at_call 96;refine (between_any _ _ _ _).mono ?_;rintro e w' ⟨rfl,rfl⟩));go_ret;exact ⟨rfl,(Below.refl _ _).alloc (Nat.le_refl _) _⟩
 by_cases h2:btw F 0 7=true
 case neg=>
  have h2:btw F 0 7=false:=by simpa using h2
  have hr:checkV K F P C R S = .iface 105 (.int .i64 1):=by simp[checkV,okB,h2]
  rw[hr];clear hr hT;go_enter func60,ntmps60;go_wp2_with (first | (go_at_call 96;refine (between_any _ _ _ _).mono ?_;rintro e w' ⟨rfl,rfl⟩));go_ret;exact ⟨rfl,(Below.refl _ _).alloc (Nat.le_refl _) _⟩
 by_cases h3:btw P 0 5=true
 case neg=>
  have h3:btw P 0 5=false:=by simpa using h3
  have hr:checkV K F P C R S = .iface 105 (.int .i64 1):=by simp[checkV,okB,h3]
  rw[hr];clear hr hT;go_enter func60,ntmps60;go_wp2_with (first | (go_at_call 96;refine (between_any _ _ _ _).mono ?_;rintro e w' ⟨rfl,rfl⟩));go_ret;exact ⟨rfl,(Below.refl _ _).alloc (Nat.le_refl _) _⟩
 by_cases h4:btw S 0 16777215=true
 case neg=>
  have h4:btw S 0 16777215=false:=by simpa using h4
  have hr:checkV K F P C R S = .iface 105 (.int .i64 1):=by simp[checkV,okB,h4]
  rw[hr];clear hr hT;go_enter func60,ntmps60;go_wp2_with (first | (go_at_call 96;refine (between_any _ _ _ _).mono ?_;rintro e w' ⟨rfl,rfl⟩));go_ret;exact ⟨rfl,(Below.refl _ _).alloc (Nat.le_refl _) _⟩
 have h3':=btw_true.1 h3;obtain ⟨k,rfl⟩:∃ k:Nat,P=k:=⟨P.toNat,by omega⟩;have hk:k<6:=by omega
 have hkI:(k:Int)<6:=by omega
 have hkI0:(0:Int)<=k:=by omega
 have q0:=fun o:Obj=>(hT.below ((Below.refl _ w).alloc (Nat.le_refl _) o) hT.size).c0 k hk;have q1:=fun o:Obj=>(hT.below ((Below.refl _ w).alloc (Nat.le_refl _) o) hT.size).c1 k hk;have q2:=fun o:Obj=>(hT.below ((Below.refl _ w).alloc (Nat.le_refl _) o) hT.size).c2 k hk;have q3:=fun o:Obj=>(hT.below ((Below.refl _ w).alloc (Nat.le_refl _) o) hT.size).c3 k hk;have hsz:=hT.size;have hcd:=cdig_le k;have hrd:=rdig_le k;clear hT h3';by_cases h5:dig C (cdig k)=true
 case neg=>
  have h5:dig C (cdig k)=false:=by simpa using h5
  have hr:checkV K F k C R S = .iface 105 (.int .i64 1):=by simp[checkV,okB,h5]
  rw[hr];clear hr;go_enter func60,ntmps60;go_wp2_with (first | (go_at_call 96;refine (between_any _ _ _ _).mono ?_;rintro e w' ⟨rfl,rfl⟩) | (go_at_call 97;refine (hasDigits_any _ _ _ (by omega)).mono ?_;rintro e w' ⟨rfl,rfl⟩));go_ret;exact ⟨rfl,((Below.refl _ _).alloc (Nat.le_refl _) _).alloc (by simp) _⟩
 by_cases h6:dig R (rdig k)=true
 case neg=>
  have h6:dig R (rdig k)=false:=by simpa using h6
  have hr:checkV K F k C R S = .iface 105 (.int .i64 1):=by simp[checkV,okB,h6]
  rw[hr];clear hr;go_enter func60,ntmps60;go_wp2_with (first | (go_at_call 96;refine (between_any _ _ _ _).mono ?_;rintro e w' ⟨rfl,rfl⟩) | (go_at_call 97;refine (hasDigits_any _ _ _ (by omega)).mono ?_;rintro e w' ⟨rfl,rfl⟩));go_ret;exact ⟨rfl,((Below.refl _ _).alloc (Nat.le_refl _) _).alloc (by simp) _⟩
 ·have hr:checkV K F k C R S = .nilIface:=by simp[checkV,okB,h1,h2,h3,h4,h5,h6]
  rw[hr];clear hr;go_enter func60,ntmps60;go_wp2_with (first | (go_at_call 96;refine (between_any _ _ _ _).mono ?_;rintro e w' ⟨rfl,rfl⟩) | (go_at_call 97;refine (hasDigits_any _ _ _ (by omega)).mono ?_;rintro e w' ⟨rfl,rfl⟩));go_ret;exact ⟨rfl,((Below.refl _ _).alloc (Nat.le_refl _) _).alloc (by simp) _⟩
end TagA
namespace TagM
open Go
def pk (n b v:Nat):Nat:=n*2 ^ b+v
theorem pk_lt {n b v m:Nat} (hn:n<2 ^ m) (hv:v<2 ^ b):pk n b v<2 ^ (m+b):=by unfold pk;have:(n+1)*2 ^ b<=2 ^ m*2 ^ b:=Nat.mul_le_mul_right _ hn;rw[Nat.pow_add];rw[Nat.add_mul] at this;omega
theorem or_val {n b v:Nat} {nI vI bI:Int} (hn:nI=n) (hvI:vI=v) (hbI:bI=b) (hv:v<2 ^ b) (h:pk n b v<2 ^ 64) :
  bits .or .u64 (IntKind.u64.wrap (nI*2 ^ bI.toNat)) vI=((pk n b v:Nat):Int):=by
 subst hn hvI hbI;have h2:n*2 ^ b+v<18446744073709551616:=h
 have e1:IntKind.u64.wrap ((n:Int)*2 ^ ((b:Int).toNat))=((n*2 ^ b:Nat):Int):=by
  rw[IntKind.wrap_u64,Int.toNat_natCast];have:((n:Int)*2 ^ b)=((n*2 ^ b:Nat):Int):=by simp
  rw[this];omega
 rw[e1,u64_or_nat _ _ (by omega) (by omega)];congr 1;unfold pk;rw[<- Nat.shiftLeft_eq,Nat.shiftLeft_add_eq_or_of_lt hv]
end TagM
namespace TagA
open Go.RowKit TagM
def byt (n i:Nat):Nat:=n/2 ^ (56-8*i)%256
def be8 (n:Nat):ByteArray:=⟨#[UInt8.ofNat (byt n 0),UInt8.ofNat (byt n 1),UInt8.ofNat (byt n 2),UInt8.ofNat (byt n 3),UInt8.ofNat (byt n 4),UInt8.ofNat (byt n 5),UInt8.ofNat (byt n 6),UInt8.ofNat (byt n 7)]⟩
def bytNums (n:Nat):List Int:=[(byt n 0:Nat),(byt n 1:Nat),(byt n 2:Nat),(byt n 3:Nat),(byt n 4:Nat),(byt n 5:Nat),(byt n 6:Nat),(byt n 7:Nat)]
end TagA
namespace TagA
open Go.RowKit TagM
def n3 (K F k:Nat):Nat:=pk (pk (pk 0 8 (K+47)) 3 F) 3 k
def num (K F k C R S:Nat):Nat:=pk (pk (pk (n3 K F k) (cbits k) C) (rbits k) R) 24 S
theorem boxed6 {w w1:World} {a b c d e f:Value} {t:TypeId} (hb:Below (w.alloc (.cells #[a,b,c,d,e,f] t)).heap.size (w.alloc (.cells #[a,b,c,d,e,f] t)) w1) :
  w.heap.size<w1.heap.size/\Below w.heap.size w w1/\w1.cell? ⟨w.heap.size,0,none⟩=some a/\w1.cell? ⟨w.heap.size,1,none⟩=some b/\w1.cell? ⟨w.heap.size,2,none⟩=some c/\w1.cell? ⟨w.heap.size,3,none⟩=some d/\w1.cell? ⟨w.heap.size,4,none⟩=some e/\w1.cell? ⟨w.heap.size,5,none⟩=some f:=by
 have hs:w.heap.size<(w.alloc (.cells #[a,b,c,d,e,f] t)).heap.size:=by simp
 refine ⟨Nat.lt_of_lt_of_le hs hb.size,((Below.refl _ w).alloc (Nat.le_refl _) _).trans (hb.mono (Nat.le_of_lt hs)),?_,?_,?_,?_,?_,?_⟩<;>(rw[hb.cell hs];go_simp)
theorem okN {K F k C R S:Nat} (h:okB K F k C R S=true) : 1<=K/\K<=3/\F<=7/\k<=5/\S<=16777215/\C<10 ^ cdig k/\R<10 ^ rdig k:=by
 simp only[okB,Bool.and_eq_true,btw_true,dig_true,Int.toNat_natCast] at h;obtain ⟨⟨⟨⟨⟨h1,h2⟩,h3⟩,h4⟩,h5⟩,h6⟩:=h;have h5':(C:Int)<((10 ^ cdig k:Nat):Int):=by simpa using h5.2
 have h6':(R:Int)<((10 ^ rdig k:Nat):Int):=by simpa using h6.2
 omega
theorem cpow {k:Nat} (h:k<=5) : 10 ^ cdig k<=2 ^ cbits k:=by
 match k,h with
 | 0,_ | 1,_ | 2,_ | 3,_ | 4,_ | 5,_=>decide
theorem rpow {k:Nat} (h:k<=5) : 10 ^ rdig k<=2 ^ rbits k:=by
 match k,h with
 | 0,_ | 1,_ | 2,_ | 3,_ | 4,_ | 5,_=>decide
end TagA
namespace TagA
open Go.RowKit TagM
def numU (l:List UInt8):Nat:=l.foldl (fun n c=>pk n 8 c.toNat) 0
theorem numU_snoc (l:List UInt8) (c:UInt8):numU (l ++ [c])=pk (numU l) 8 c.toNat:=by simp[numU]
theorem fold_lt:∀ (l:List UInt8) (n m:Nat),n<2 ^ m->l.foldl (fun n c=>pk n 8 c.toNat) n<2 ^ (m+8*l.length)
 | [],n,m,h=>by simpa using h
 | c::l,n,m,h=>by have h2:pk n 8 c.toNat<2 ^ (m+8):=pk_lt h (UInt8.toNat_lt c);have:=fold_lt l _ _ h2;simp only[List.foldl_cons,List.length_cons];rw[show m+8*(l.length+1)=m+8+8*l.length by omega];exact this
theorem numU_lt (l:List UInt8):numU l<2 ^ (8*l.length):=by have:=fold_lt l 0 0 (by decide);simpa [numU] using this
theorem or8 {n:Nat} {c:UInt8} (h:pk n 8 c.toNat<2 ^ 64):bits .or .u64 (IntKind.u64.wrap ((n:Int)*256)) (IntKind.u64.wrap (c.toNat:Int))=((pk n 8 c.toNat:Nat):Int):=by
 have e:=or_val (n:=n) (b:=8) (v:=c.toNat) rfl rfl rfl (UInt8.toNat_lt c) h;have:IntKind.u64.wrap (c.toNat:Int)=(c.toNat:Int):=by rw[IntKind.wrap_u64];have:=UInt8.toNat_lt c;omega
 rw[this,<- e];rfl
theorem take_snoc (s:ByteArray) (k:Nat) (h:k<s.size):s.data.toList.take (k+1)=s.data.toList.take k ++ [s[k]]:=by rw[List.take_succ_eq_append_getElem (by simpa using h)];rfl
theorem numberOf_any (s:ByteArray) (w:World) (hs:s.size=8) :
  Calls prog 58 #[.string s] w fun e w'=>e = .returned (.int .u64 (numU s.data.toList:Nat))/\w'=w:=by
 have HS:Hid (s.size=8):=hs;have hs' : 8<=s.size:=by omega
 clear hs;go_enter func58,ntmps58;go_wp2;go_loop [3,4,5] (fun n _ i=>∃ k:Nat,k<=8/\i = .int .i64 k/\n = .int .u64 (numU (s.data.toList.take k):Nat)) (fun _ _ i=>8-(intOf i).toNat)
 case atStart=>exact ⟨0,Nat.zero_le _,rfl,rfl⟩
 case round=>
  obtain ⟨k,hk,rfl,rfl⟩:=hrel;by_cases hlt:k<8
  ·have hlt':(k:Int)<8:=(by omega);have hlts:k<s.size:=(by omega);have hE:Hid (bits .or .u64 (IntKind.u64.wrap ((numU (s.data.toList.take k):Nat)*256)) (IntKind.u64.wrap (s[k].toNat:Int))=((numU (s.data.toList.take (k+1)):Nat):Int)):=(by rw[take_snoc s k hlts,numU_snoc];refine or8 (Nat.lt_of_lt_of_le (m:=2 ^ (8*(k+1))) ?_ (Nat.pow_le_pow_right (by omega) (by omega)));rw[<- numU_snoc,<- take_snoc s k hlts];refine Nat.lt_of_lt_of_le (numU_lt _) (Nat.pow_le_pow_right (by omega) ?_);have:=List.length_take_le (k+1) s.data.toList;omega);go_wp2;go_round
   case rel=>exact ⟨k+1,by omega,by go_num,by rw[hE.out]⟩
   case measure=>simp[intOf];omega
  ·obtain rfl:k=8:=(by omega);go_wp2;go_ret;exact ⟨by rw[List.take_of_length_le (by simp;have:=HS.out;omega)];rfl,rfl⟩
def fld (n p b:Nat):Nat:=n/2 ^ p%2 ^ b
theorem fld_lt (n p b:Nat):fld n p b<2 ^ b:=Nat.mod_lt _ (Nat.two_pow_pos b)
theorem and_val {n p b:Nat} (hn:n<2 ^ 64) (hb:b<=24):wrap64 (bits .and .u64 ((n:Int)/2 ^ p) (IntKind.u64.wrap (IntKind.u64.wrap (2 ^ b)-1)))=((fld n p b:Nat):Int):=by
 have h24 : 2 ^ b<=2 ^ 24:=Nat.pow_le_pow_right (by omega) hb;have h1 : 1<=2 ^ b:=Nat.two_pow_pos b;have e0:((2:Int) ^ b)=((2 ^ b:Nat):Int):=by simp
 have e1:IntKind.u64.wrap (IntKind.u64.wrap ((2:Int) ^ b)-1)=((2 ^ b-1:Nat):Int):=by rw[e0,IntKind.wrap_u64,IntKind.wrap_u64];omega
 have e2:((n:Int)/2 ^ p)=((n/2 ^ p:Nat):Int):=by simp
 have hd:n/2 ^ p<=n:=Nat.div_le_self _ _;rw[e1,e2,u64_and_nat _ _ (by omega) (by omega),Nat.and_two_pow_sub_one_eq_mod];have hl:=fld_lt n p b;unfold fld at *;unfold wrap64;generalize n/2 ^ p%2 ^ b=z at *;omega
theorem take_any (n L b p:Nat) (bI LI:Int) (w:World) (lb nb:Nat) (hl:w.cell? ⟨lb,0,none⟩=some (.int .i64 LI)) (hf:w.frozen? ⟨lb,0,none⟩=false)
  (hn:w.cell? ⟨nb,0,none⟩=some (.int .u64 n)) (hne:lb≠nb) (hbI:Hid (bI=b)) (hLI:Hid (LI=L)) (hp:Hid (p+b=L)) (hL:L<=64) (hb2:b<=24) (hn64:Hid (n<2 ^ 64)) :
  Calls prog 59 #[.int .i64 bI,.pointer (some ⟨lb,0,none⟩),.pointer (some ⟨nb,0,none⟩)] w fun e w'=>e = .returned (.int .i64 ((fld n p b:Nat):Int))/\∃ d,w'=(w.setCell ⟨lb,0,none⟩ (.int .i64 (p:Int))).drewN d:=by
 obtain rfl:=hbI.out;obtain rfl:=hLI.out;have hb:b<=L:=by have:=hp.out;omega
 have hpI:(p:Int)=(L:Int)-(b:Int):=by have:=hp.out;omega
 have hpN:p=L-b:=by have:=hp.out;omega
 rw[hpI,hpN];have hn1:(0:Int)<=n:=by omega
 have hA:Hid _:=and_val (p:=L-b) hn64.out hb2;clear hbI hLI hp hpI hpN;go_enter func59,ntmps59;go_wp2;go_quiet (fail);go_wp2;rw[hA.out];go_ret;exact ⟨rfl,_,rfl⟩
end TagA
namespace TagA
open Go.RowKit TagM
def noTag:Value:=.agg #[.int .i64 0,.int .i64 0,.int .i64 0,.int .i64 0,.int .i64 0,.int .i64 0]
theorem parse_len (s:ByteArray) (w:World) (hs:s.size≠8) (_hm:s.size<=maxLen) :
  Calls prog 24 #[.string s] w fun e w'=>e = .returned (.tuple #[noTag,.iface 105 (.int .i64 3)])/\Below w.heap.size w w':=by
 unfold maxLen at _hm;have h8:((s.size:Int) != 8)=true:=by simp;omega
 go_enter func24,ntmps24;go_wp2;exact bodyPost_ret (v:=.tuple #[noTag,.iface 105 (.int .i64 3)]) (by simp[results,results24,go_sem,noTag]) rfl ⟨rfl,(Below.refl _ _).alloc (Nat.le_refl _) _⟩
theorem set_drewN (w:World) (d:Nat) (a:Addr) (v:Value):(w.drewN d).setCell a v=(w.setCell a v).drewN d:=rfl
theorem alloc_drewN (w:World) (d:Nat) (o:Obj):(w.drewN d).alloc o=(w.alloc o).drewN d:=rfl
def Kf (n:Nat):Nat:=fld n 56 8
def Ff (n:Nat):Nat:=fld n 53 3
def Pf (n:Nat):Nat:=fld n 50 3
def Cf (n k:Nat):Nat:=fld n (50-cbits k) (cbits k)
def Rf (n k:Nat):Nat:=fld n 24 (rbits k)
def Sf (n:Nat):Nat:=fld n 0 24
def tagV (K F P C R S:Int):Value:=.agg #[.int .i64 K,.int .i64 F,.int .i64 P,.int .i64 C,.int .i64 R,.int .i64 S]
theorem four {w w3:World} {a0 a1 a2 a3 a4 a5 x y t0 t1 t2 t3 t4 t5:Value} {T1 T2 T3 T4:TypeId} {d:Nat} {W:World}
  (hW:W=((((w.alloc (.cells #[a0,a1,a2,a3,a4,a5] T1)).alloc (.cells #[x] T2)).alloc (.cells #[y] T3)).alloc (.cells #[t0,t1,t2,t3,t4,t5] T4)).drewN d) (hb:Below W.heap.size W w3) :
  w.heap.size+1+1+1<w3.heap.size/\Below w.heap.size w w3
  /\ (∀ j:Nat,j<6->w3.cell? ⟨w.heap.size,j,none⟩=(#[a0,a1,a2,a3,a4,a5]:Array Value)[j]?/\w3.frozen? ⟨w.heap.size,j,none⟩=false/\w3.cell? ⟨w.heap.size+1+1+1,j,none⟩=(#[t0,t1,t2,t3,t4,t5]:Array Value)[j]?):=by
 subst hW;have hs:(((((w.alloc (.cells #[a0,a1,a2,a3,a4,a5] T1)).alloc (.cells #[x] T2)).alloc (.cells #[y] T3)).alloc (.cells #[t0,t1,t2,t3,t4,t5] T4)).drewN d).heap.size=w.heap.size+1+1+1+1:=by simp
 refine ⟨by have:=hb.size;omega,?_,?_⟩
 ·refine Below.trans ?_ (hb.mono (by omega));exact below_drewN (((((Below.refl _ w).alloc (Nat.le_refl _) _).alloc (by simp) _).alloc (by simp;omega) _).alloc (by simp;omega) _) _
 ·intro j _;refine ⟨?_,?_,?_⟩
  ·rw[hb.cell (by rw[hs];show w.heap.size < _;omega)];go_simp
  ·rw[hb.frozen (by rw[hs];show w.heap.size < _;omega)];go_simp
  ·rw[hb.cell (by rw[hs];show w.heap.size+1+1+1 < _;omega)];go_simp
theorem parse_part (s:ByteArray) (w:World) (hs:s.size=8) (n:Nat) (hn:n=numU s.data.toList) (hP : 6<=Pf n) :
  Calls prog 24 #[.string s] w fun e w'=>e = .returned (.tuple #[noTag,.iface 105 (.int .i64 3)])/\Below w.heap.size w w':=by
 have h8:((s.size:Int) != 8)=false:=by simp;omega
 have HS:Hid (s.size=8):=hs;have HN:Hid (n=numU s.data.toList):=hn;have HL:Hid (n<2 ^ 64):=by have:=numU_lt s.data.toList;rw[<- hn,show s.data.toList.length=8 by simpa using hs] at this;exact this
 clear hs hn;have r1:=set_drewN;have r2:=alloc_drewN;have f1:((fld n 56 8:Nat):Int)<=255:=by have:=fld_lt n 56 8;omega
 have f3 : 6<=((fld n 50 3:Nat):Int):=by unfold Pf at hP;omega
 clear hP;go_enter func24,ntmps24;go_wp2_with fail;refine (numberOf_any s _ HS.out).mono ?_;rw[<- HN.out];rintro e w2 ⟨rfl,rfl⟩;go_wp2_with fail;refine (take_any n 64 8 56 _ _ _ _ _ ?_ ?_ ?_ ?_ rfl rfl rfl (by omega) (by omega) HL.out).mono ?_
 ·go_simp
 ·go_simp
 ·go_simp
 ·omega
 rintro e w2 ⟨rfl,d1,rfl⟩;go_wp2_with fail;refine (take_any n 56 3 53 _ _ _ _ _ ?_ ?_ ?_ ?_ rfl rfl rfl (by omega) (by omega) HL.out).mono ?_
 ·go_simp
 ·go_simp
 ·go_simp
 ·omega
 rintro e w2 ⟨rfl,d2,rfl⟩;go_wp2_with fail;refine (take_any n 53 3 50 _ _ _ _ _ ?_ ?_ ?_ ?_ rfl rfl rfl (by omega) (by omega) HL.out).mono ?_
 ·go_simp
 ·go_simp
 ·go_simp
 ·omega
 rintro e w2 ⟨rfl,d3,rfl⟩;go_wp2;refine bodyPost_ret (v:=.tuple #[noTag,.iface 105 (.int .i64 3)]) (by simp[results,results24,go_sem,noTag]) rfl ⟨rfl,?_⟩;exact below_drewN (((((Below.refl _ w).alloc (Nat.le_refl _) _).alloc (by simp) _).alloc (by simp;omega) _).alloc (by simp;omega) _) _
theorem parse_8 (s:ByteArray) (w:World) (hT:Tabs w) (hs:s.size=8) (n k:Nat) (hn:n=numU s.data.toList) (hk:k=Pf n) (hk6:k<6) (v:Value)
  (hv:v=if okB ((Kf n:Int)-47) (Ff n) k (Cf n k) (Rf n k) (Sf n) then .tuple #[tagV ((Kf n:Int)-47) (Ff n) k (Cf n k) (Rf n k) (Sf n),.nilIface] else .tuple #[noTag,.iface 105 (.int .i64 3)]) :
  Calls prog 24 #[.string s] w fun e w'=>e = .returned v/\Below w.heap.size w w':=by
 have h8:((s.size:Int) != 8)=false:=by simp;omega
 have HS:Hid (s.size=8):=hs;have HN:Hid (n=numU s.data.toList):=hn;have HL:Hid (n<2 ^ 64):=by have:=numU_lt s.data.toList;rw[<- hn,show s.data.toList.length=8 by simpa using hs] at this;exact this
 have HV:Hid (v = _):=hv;have HK:Hid (k=fld n 50 3):=hk;have HT:Hid (Tabs w):=hT;clear hs hn hv hk hT;have r1:=set_drewN;have r2:=alloc_drewN;have f1:((fld n 56 8:Nat):Int)<=255:=by have:=fld_lt n 56 8;omega
 have f3:(k:Int)<6:=by omega
 have hcb:=cbits_le k;have hrb:=rbits_le k;obtain ⟨q,hq⟩:∃ q:Nat,q+cbits k=50:=⟨50-cbits k,by omega⟩;have hq' : 24+rbits k=q:=by have:=bits_sum k;omega
 have HQ:Hid (q+cbits k=50):=hq;have HQ':Hid (24+rbits k=q):=hq';clear hq hq';have q0:∀ o1 o2 o3 o4:Obj,((((w.alloc o1).alloc o2).alloc o3).alloc o4).cell? ⟨0,k*4,none⟩=some (.int .i64 (cbits k)):=fun o1 o2 o3 o4=>(HT.out.below (((((Below.refl _ w).alloc (Nat.le_refl _) o1).alloc (by simp) o2).alloc (by simp;omega) o3).alloc (by simp;omega) o4) HT.out.size).c0 k hk6;have q2:∀ o1 o2 o3 o4:Obj,((((w.alloc o1).alloc o2).alloc o3).alloc o4).cell? ⟨0,k*4+2,none⟩=some (.int .i64 (rbits k)):=fun o1 o2 o3 o4=>(HT.out.below (((((Below.refl _ w).alloc (Nat.le_refl _) o1).alloc (by simp) o2).alloc (by simp;omega) o3).alloc (by simp;omega) o4) HT.out.size).c2 k hk6;go_enter func24,ntmps24;go_wp2_with fail;refine (numberOf_any s _ HS.out).mono ?_;rw[<- HN.out];rintro e w2 ⟨rfl,rfl⟩;go_wp2_with fail;refine (take_any n 64 8 56 _ _ _ _ _ ?_ ?_ ?_ ?_ rfl rfl rfl (by omega) (by omega) HL.out).mono ?_
 ·go_simp
 ·go_simp
 ·go_simp
 ·omega
 rintro e w2 ⟨rfl,d1,rfl⟩;go_wp2_with fail;refine (take_any n 56 3 53 _ _ _ _ _ ?_ ?_ ?_ ?_ rfl rfl rfl (by omega) (by omega) HL.out).mono ?_
 ·go_simp
 ·go_simp
 ·go_simp
 ·omega
 rintro e w2 ⟨rfl,d2,rfl⟩;go_wp2_with fail;refine (take_any n 53 3 50 _ _ _ _ _ ?_ ?_ ?_ ?_ rfl rfl rfl (by omega) (by omega) HL.out).mono ?_
 ·go_simp
 ·go_simp
 ·go_simp
 ·omega
 rw[<- HK.out];rintro e w2 ⟨rfl,d3,rfl⟩;go_wp2_with fail;refine (take_any n 50 (cbits k) q _ _ _ _ _ ?_ ?_ ?_ ?_ rfl rfl HQ.out (by omega) (by omega) HL.out).mono ?_
 ·go_simp
 ·go_simp
 ·go_simp
 ·omega
 rintro e w2 ⟨rfl,d4,rfl⟩;go_wp2_with fail;refine (take_any n q (rbits k) 24 _ _ _ _ _ ?_ ?_ ?_ ?_ rfl rfl HQ'.out (by have:=HQ.out;omega) (by omega) HL.out).mono ?_
 ·go_simp
 ·go_simp
 ·go_simp
 ·omega
 rintro e w2 ⟨rfl,d5,rfl⟩;go_wp2_with fail;refine (take_any n 24 24 0 _ _ _ _ _ ?_ ?_ ?_ ?_ rfl rfl rfl (by omega) (by omega) HL.out).mono ?_
 ·go_simp
 ·go_simp
 ·go_simp
 ·omega
 rintro e w2 ⟨rfl,d6,rfl⟩;go_wp2_with fail;have hCf:Hid (fld n q (cbits k)=Cf n k):=by unfold Cf;rw[show 50-cbits k=q by have:=HQ.out;omega];rfl
 have hTW:=HT.out.below (below_drewN (((((Below.refl _ w).alloc (Nat.le_refl _) (.cells #[.int .i64 0,.int .i64 0,.int .i64 0,.int .i64 0,.int .i64 0,.int .i64 0] 80)).alloc (by simp) (.cells #[.int .u64 n] 145)).alloc (by simp;omega) (.cells #[.int .i64 0] 3)).alloc (by simp;omega) (.cells #[.int .i64 ((fld n 56 8:Int)-47),.int .i64 (fld n 53 3),.int .i64 k,.int .i64 (fld n q (cbits k)),.int .i64 (fld n 24 (rbits k)),.int .i64 (fld n 0 24)] 80)) (d1+d2+d3+d4+d5+d6)) HT.out.size;refine (check_any _ _ _ _ _ _ _ hTW).mono ?_;clear hTW q0 q2;rintro e w3 ⟨rfl,hb3⟩;obtain ⟨z1,z2,z3⟩:=four rfl hb3;obtain ⟨a0,b0,c0⟩:=z3 0 (by omega);obtain ⟨a1,b1,c1⟩:=z3 1 (by omega);obtain ⟨a2,b2,c2⟩:=z3 2 (by omega);obtain ⟨a3,b3,c3⟩:=z3 3 (by omega);obtain ⟨a4,b4,c4⟩:=z3 4 (by omega);obtain ⟨a5,b5,c5⟩:=z3 5 (by omega);simp at a0 a1 a2 a3 a4 a5 c0 c1 c2 c3 c4 c5;have Z2:Hid _:=z2;clear z3 hb3 z2;by_cases hok:okB ((Kf n:Int)-47) (Ff n) k (Cf n k) (Rf n k) (Sf n)=true
 ·have hcv:checkV ((fld n 56 8:Int)-47) (fld n 53 3) k (fld n q (cbits k)) (fld n 24 (rbits k)) (fld n 0 24) = .nilIface:=by rw[hCf.out];unfold checkV;exact if_pos hok
  have hv:=HV.out;rw[if_pos hok] at hv;have HV2:Hid _:=hv;rw[hcv];clear hv HV hcv hok;go_wp2;rw[HV2.out,<- hCf.out];clear HV2 c0 c1 c2 c3 c4 c5 r1 r2;refine bodyPost_ret (v:=.tuple #[.agg #[.int .i64 ((fld n 56 8:Int)-47),.int .i64 (fld n 53 3),.int .i64 k,.int .i64 (fld n q (cbits k)),.int .i64 (fld n 24 (rbits k)),.int .i64 (fld n 0 24)],.nilIface]) (by simp[results,results24,go_sem,a0,a1,a2,a3,a4,a5]) rfl ⟨rfl,?_⟩;exact (((((Z2.out.setCell (Nat.le_refl _) _).setCell (Nat.le_refl _) _).setCell (Nat.le_refl _) _).setCell (Nat.le_refl _) _).setCell (Nat.le_refl _) _).setCell (Nat.le_refl _) _
 ·have hok:okB ((Kf n:Int)-47) (Ff n) k (Cf n k) (Rf n k) (Sf n)=false:=by simpa using hok
  have hcv:checkV ((fld n 56 8:Int)-47) (fld n 53 3) k (fld n q (cbits k)) (fld n 24 (rbits k)) (fld n 0 24) = .iface 105 (.int .i64 1):=by rw[hCf.out];unfold checkV;exact if_neg (fun h=>by unfold Kf Ff Rf Sf at hok;rw[hok] at h;cases h)
  have hv:=HV.out;rw[hok] at hv;have HV2:Hid _:=hv;rw[hcv];clear hv HV hcv hok;go_wp2;rw[HV2.out];clear HV2 c0 c1 c2 c3 c4 c5 r1 r2;refine bodyPost_ret (v:=.tuple #[noTag,.iface 105 (.int .i64 3)]) (by simp[results,results24,go_sem,noTag,a0,a1,a2,a3,a4,a5]) rfl ⟨rfl,?_⟩;exact (((((Z2.out.setCell (Nat.le_refl _) _).setCell (Nat.le_refl _) _).setCell (Nat.le_refl _) _).setCell (Nat.le_refl _) _).setCell (Nat.le_refl _) _).setCell (Nat.le_refl _) _
end TagA
namespace TagA
open Go.RowKit TagM
def dec (n:Nat):List UInt8:=Lib.decDigits n
theorem keepCell {w w':World} {a:Addr} {v:Value} (hb:Below w.heap.size w w') (h:w.cell? a=some v):w'.cell? a=some v:=by rw[hb.cell (World.block_lt_of_cell? w a h)];exact h
theorem keepBelow {W w w':World} (h:Below W.heap.size W w) (hb:Below w.heap.size w w'):Below W.heap.size W w':=h.trans (hb.mono h.size)
theorem drewBelow {W w:World} (h:Below W.heap.size W w):Below W.heap.size W w.drew:=h.drew
theorem allocCell {w:World} {a:Addr} {v:Value} (o:Obj) (h:w.cell? a=some v):(w.alloc o).cell? a=some v:=keepCell ((Below.refl _ _).alloc (Nat.le_refl _) o) h
theorem allocBelow {W w:World} (o:Obj) (h:Below W.heap.size W w):Below W.heap.size W (w.alloc o):=keepBelow h ((Below.refl _ _).alloc (Nat.le_refl _) o)
theorem dec_len {n d:Nat} (h:n<10 ^ d) (hd : 1<=d):(dec n).length<=d:=by
 unfold dec;rw[Lib.decDigits_length]
 induction d generalizing n with
 | zero=>omega
 | succ d ih=>
  by_cases hn:n<10
  ·rw[Lib.nDigits_small hn];omega
  ·rw[Lib.nDigits_big hn];have h2:n/10<10 ^ d:=by rw[Nat.pow_succ] at h;omega
   have hd1 : 1<=d:=by
    cases d with
    | zero=>simp at h2;omega
    | succ d=>omega
   have:=ih h2 hd1;omega
theorem bytes_inj {a b:ByteArray} (h:a.data.toList=b.data.toList):a=b:=by apply ByteArray.ext;exact Array.toList_inj.1 h
def okP (n:Nat):Bool:=decide (Pf n<6)&&okB ((Kf n:Int)-47) (Ff n) (Pf n) (Cf n (Pf n)) (Rf n (Pf n)) (Sf n)
def parseV (s:ByteArray):Value:=
 if s.size=8/\okP (numU s.data.toList)=true then .tuple #[tagV ((Kf (numU s.data.toList):Int)-47) (Ff (numU s.data.toList)) (Pf (numU s.data.toList)) (Cf (numU s.data.toList) (Pf (numU s.data.toList))) (Rf (numU s.data.toList) (Pf (numU s.data.toList))) (Sf (numU s.data.toList)),.nilIface]
 else .tuple #[noTag,.iface 105 (.int .i64 3)]
theorem parse_any (s:ByteArray) (w:World) (hT:Tabs w) (hm:s.size<=maxLen) :
  Calls prog 24 #[.string s] w fun e w'=>e = .returned (parseV s)/\Below w.heap.size w w':=by
 by_cases h8:s.size=8
 case neg=>
  have e:parseV s = .tuple #[noTag,.iface 105 (.int .i64 3)]:=by unfold parseV;rw[if_neg (fun h=>h8 h.1)]
  rw[e];exact parse_len s w h8 hm
 by_cases hP:Pf (numU s.data.toList)<6
 case neg=>
  have e:parseV s = .tuple #[noTag,.iface 105 (.int .i64 3)]:=by unfold parseV;rw[if_neg];intro h;unfold okP at h;simp[hP] at h
  rw[e];exact parse_part s w h8 _ rfl (by omega)
 have:=parse_8 s w hT h8 _ _ rfl rfl hP _ rfl;have e:parseV s=if okB ((Kf (numU s.data.toList):Int)-47) (Ff (numU s.data.toList)) (Pf (numU s.data.toList)) (Cf (numU s.data.toList) (Pf (numU s.data.toList))) (Rf (numU s.data.toList) (Pf (numU s.data.toList))) (Sf (numU s.data.toList)) then .tuple #[tagV ((Kf (numU s.data.toList):Int)-47) (Ff (numU s.data.toList)) (Pf (numU s.data.toList)) (Cf (numU s.data.toList) (Pf (numU s.data.toList))) (Rf (numU s.data.toList) (Pf (numU s.data.toList))) (Sf (numU s.data.toList)),.nilIface] else .tuple #[noTag,.iface 105 (.int .i64 3)]:=by unfold parseV okP;simp[h8,hP]
 rw[e];exact this
theorem byt_lt (n i:Nat):byt n i<256:=Nat.mod_lt _ (by decide)
theorem byt_toNat (n i:Nat):(UInt8.ofNat (byt n i)).toNat=byt n i:=by rw[UInt8.toNat_ofNat'];have:=byt_lt n i;omega
theorem be8_numU {s:ByteArray} (h:s.size=8):be8 (numU s.data.toList)=s:=by
 obtain ⟨⟨l⟩⟩:=s
 match l,h with
 | [b0,b1,b2,b3,b4,b5,b6,b7],_=>
  have h0:=UInt8.toNat_lt b0;have h1:=UInt8.toNat_lt b1;have h2:=UInt8.toNat_lt b2;have h3:=UInt8.toNat_lt b3;have h4:=UInt8.toNat_lt b4;have h5:=UInt8.toNat_lt b5;have h6:=UInt8.toNat_lt b6;have h7:=UInt8.toNat_lt b7;have key:∀ (i:Nat) (b:UInt8),byt (numU [b0,b1,b2,b3,b4,b5,b6,b7]) i=b.toNat->UInt8.ofNat (byt (numU [b0,b1,b2,b3,b4,b5,b6,b7]) i)=b:=fun i b e=>by rw[e];simp
  unfold be8;show (⟨#[UInt8.ofNat (byt (numU [b0,b1,b2,b3,b4,b5,b6,b7]) 0),UInt8.ofNat (byt (numU [b0,b1,b2,b3,b4,b5,b6,b7]) 1),UInt8.ofNat (byt (numU [b0,b1,b2,b3,b4,b5,b6,b7]) 2),UInt8.ofNat (byt (numU [b0,b1,b2,b3,b4,b5,b6,b7]) 3),UInt8.ofNat (byt (numU [b0,b1,b2,b3,b4,b5,b6,b7]) 4),UInt8.ofNat (byt (numU [b0,b1,b2,b3,b4,b5,b6,b7]) 5),UInt8.ofNat (byt (numU [b0,b1,b2,b3,b4,b5,b6,b7]) 6),UInt8.ofNat (byt (numU [b0,b1,b2,b3,b4,b5,b6,b7]) 7)]⟩:ByteArray)=⟨#[b0,b1,b2,b3,b4,b5,b6,b7]⟩;rw[key 0 b0 ?_,key 1 b1 ?_,key 2 b2 ?_,key 3 b3 ?_,key 4 b4 ?_,key 5 b5 ?_,key 6 b6 ?_,key 7 b7 ?_]
  all_goals
   simp only[numU,List.foldl_cons,List.foldl_nil,pk,byt];simp only[Nat.reducePow,Nat.reduceMul,Nat.reduceSub] at *;omega
theorem div_pow (n a b:Nat):n/2 ^ (a+b)=n/2 ^ a/2 ^ b:=by rw[Nat.pow_add,Nat.div_div_eq_div_mul]
end TagA
end Go.Proofs.YtmolafjalaeoaaaGreatDoor
