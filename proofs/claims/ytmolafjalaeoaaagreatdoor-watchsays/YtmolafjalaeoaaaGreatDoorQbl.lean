/-
  WbI WbK WbL
-/
import Derived.Test.YtmolafjalaeoaaaGreatDoorQbk
import Derived.ProofKit
import Derived.Deep.Slices
set_option maxRecDepth 100000
set_option maxHeartbeats 8000000
namespace Go.Proofs.YtmolafjalaeoaaaGreatDoor
open Tryz
namespace WbA
open Go.RowKit TkW WaM WaW WaB Go.Maps
open RuM (Rl)
open TkA (sbeq_true sbeq_false)
theorem watchFault_any (x:Ci) (rs:List Rl) (q:Option Addr) (cap:Nat) (w:World) {n:Nat} (hn:Fl x rs n) (hr:RsOn w q rs) (hl:rs.length<=9223372036854775807) (hs:∀ r,r ∈ rs->r.nm.size<=9223372036854775807) :
  Calls prog 11 #[.agg (cfw x),.slice q rs.length cap] w fun e w'=>e = .returned (.int .i64 (n:Int))/\Below w.heap.size w w':=by
 have HB0:Hid (∀ o,Below w.heap.size w (w.alloc o)):=fun o=>(Below.refl _ _).alloc (Nat.le_refl _) o;by_cases hx:x.dk/\x.tk/\x.ik
 case neg=>
  have hn1:n=1:=Fl.uniq hn (Or.inl ⟨fun h=>hx ⟨h.1,h.2.1,h.2.2.1⟩,rfl⟩);subst hn1;unfold Ci.dk Ci.tk Ci.ik at hx;obtain ⟨len,late,W,need,span,score,pl⟩:=x;unfold cfw;simp only at hx ⊢;generalize rs.length=m at *;clear hn hr hs;go_enter func11,ntmps11;go_wp2
  all_goals first
   | (exfalso;omega)
   | (go_ret;exact ⟨rfl,HB0.out _⟩)
 case pos=>
  have HN:Hid (Fl x rs n):=hn;have HR:Hid (RsOn w q rs):=hr;have HS:Hid (∀ r,r ∈ rs->r.nm.size<=9223372036854775807):=hs;have HX:Hid (x.dk/\x.tk/\x.ik):=hx;have HCF:Hid (∀ w':World,Below (w.alloc (.cells (cfw x) 25)).heap.size (w.alloc (.cells (cfw x) 25)) w'->w'.heap[w.heap.size]?=some (.cells (cfw x) 25)):=fun w' hb=>(hb.block w.heap.size (by simp)).trans (Go.heap_alloc_new w _);have HBR:Hid (Below (w.alloc (.cells (cfw x) 25)).heap.size (w.alloc (.cells (cfw x) 25)) (w.alloc (.cells (cfw x) 25))):=Below.refl _ _;unfold Ci.dk Ci.tk Ci.ik at hx;obtain ⟨⟨a1,a2,a3,a4⟩,⟨b1,b2,b3,b4⟩,c1,c2,c3,c4⟩:=hx;obtain ⟨m,hm⟩:∃ m,m=rs.length:=⟨_,rfl⟩;have HM:Hid (m=rs.length):=hm;rw[<- hm] at hl ⊢;obtain ⟨len,late,W,need,span,score,pl⟩:=x;unfold cfw at HBR ⊢;simp only at a1 a2 a3 a4 b1 b2 b3 b4 c1 c2 c3 c4 HBR ⊢;have e1:¬ len<1:=by omega
  have e2:¬ 50<len:=by omega
  have e3:¬ late<0:=by omega
  have e4:¬ 50<late:=by omega
  have e5:¬ W<1:=by omega
  have e6:¬ 8<W:=by omega
  have e7:¬ need<1:=by omega
  have e8:¬ W<need:=by omega
  have e9:¬ span<1:=by omega
  have e10:¬ 8<span:=by omega
  have e11:¬ score<1:=by omega
  have e12:¬ span<score:=by omega
  clear hn hr hs hm a1 a2 a3 a4 b1 b2 b3 b4 c1 c2 c3 c4;go_enter func11,ntmps11;go_wp2;go_loopw [5] (fun i V=>∃ j:Nat,j<=16/\i = .int .i64 (j:Int)/\(∀ i,i<j->-1<=pl (i/4) (i%4)/\pl (i/4) (i%4)<=7)/\Below (w.alloc (.cells (cfw ⟨len,late,W,need,span,score,pl⟩) 25)).heap.size (w.alloc (.cells (cfw ⟨len,late,W,need,span,score,pl⟩) 25)) V) (fun i _=>16-(intOf i).toNat)
  case atStart=>exact ⟨0,by omega,rfl,fun i hi=>by omega,HBR.out⟩
  case round=>
   obtain ⟨j,hj,rfl,hpl,hbl⟩:=hrel;have HPL:Hid (∀ i,i<j->-1<=pl (i/4) (i%4)/\pl (i/4) (i%4)<=7):=hpl;have HBL:Hid (Below (w.alloc (.cells (cfw ⟨len,late,W,need,span,score,pl⟩) 25)).heap.size (w.alloc (.cells (cfw ⟨len,late,W,need,span,score,pl⟩) 25)) wr):=hbl;have HBW:Hid (Below w.heap.size w wr):=(HB0.out _).trans (hbl.mono (HB0.out _).size);have hcf:=HCF.out wr hbl;clear hpl hbl;by_cases hlt:j<16
   case pos=>
    rcases (show j=0\/j=1\/j=2\/j=3\/j=4\/j=5\/j=6\/j=7\/j=8\/j=9\/j=10\/j=11\/j=12\/j=13\/j=14\/j=15 by omega) with rfl | rfl | rfl | rfl | rfl | rfl | rfl | rfl | rfl | rfl | rfl | rfl | rfl | rfl | rfl | rfl
    ·have k0:wr.cell? ⟨w.heap.size,6,none⟩=some (.int .i64 (pl 0 0)):=cf_cell hcf 6 _ rfl;clear hcf;by_cases hb : -1<=pl 0 0/\pl 0 0<=7
     ·have hb1:¬ pl 0 0 < -1:=(by omega);have hb2:¬ 7<pl 0 0:=by omega
      have HNX:Hid (∀ i,i<0+1->-1<=pl (i/4) (i%4)/\pl (i/4) (i%4)<=7):=fun i hi=>by
       by_cases hik:i=0
       ·subst hik;exact hb
       ·exact HPL.out i (by omega)
      clear hb;go_wp2;go_roundw
      case rel=>exact ⟨1,by omega,rfl,HNX.out,HBL.out⟩
      case measure=>simp[intOf]
     ·have hn1:n=1:=Fl.uniq HN.out (Or.inl ⟨fun h=>hb (h.2.2.2 0 0 (by omega) (by omega)),rfl⟩);subst hn1;by_cases hb1:pl 0 0 < -1
      ·clear hb;go_wp2;go_ret;exact ⟨rfl,HBW.out⟩
      ·have hb2 : 7<pl 0 0:=(by omega);clear hb;go_wp2;go_ret;exact ⟨rfl,HBW.out⟩
    ·have k0:wr.cell? ⟨w.heap.size,7,none⟩=some (.int .i64 (pl 0 1)):=cf_cell hcf 7 _ rfl;clear hcf;by_cases hb : -1<=pl 0 1/\pl 0 1<=7
     ·have hb1:¬ pl 0 1 < -1:=(by omega);have hb2:¬ 7<pl 0 1:=by omega
      have HNX:Hid (∀ i,i<1+1->-1<=pl (i/4) (i%4)/\pl (i/4) (i%4)<=7):=fun i hi=>by
       by_cases hik:i=1
       ·subst hik;exact hb
       ·exact HPL.out i (by omega)
      clear hb;go_wp2;go_roundw
      case rel=>exact ⟨2,by omega,rfl,HNX.out,HBL.out⟩
      case measure=>simp[intOf]
     ·have hn1:n=1:=Fl.uniq HN.out (Or.inl ⟨fun h=>hb (h.2.2.2 0 1 (by omega) (by omega)),rfl⟩);subst hn1;by_cases hb1:pl 0 1 < -1
      ·clear hb;go_wp2;go_ret;exact ⟨rfl,HBW.out⟩
      ·have hb2 : 7<pl 0 1:=(by omega);clear hb;go_wp2;go_ret;exact ⟨rfl,HBW.out⟩
    ·have k0:wr.cell? ⟨w.heap.size,8,none⟩=some (.int .i64 (pl 0 2)):=cf_cell hcf 8 _ rfl;clear hcf;by_cases hb : -1<=pl 0 2/\pl 0 2<=7
     ·have hb1:¬ pl 0 2 < -1:=(by omega);have hb2:¬ 7<pl 0 2:=by omega
      have HNX:Hid (∀ i,i<2+1->-1<=pl (i/4) (i%4)/\pl (i/4) (i%4)<=7):=fun i hi=>by
       by_cases hik:i=2
       ·subst hik;exact hb
       ·exact HPL.out i (by omega)
      clear hb;go_wp2;go_roundw
      case rel=>exact ⟨3,by omega,rfl,HNX.out,HBL.out⟩
      case measure=>simp[intOf]
     ·have hn1:n=1:=Fl.uniq HN.out (Or.inl ⟨fun h=>hb (h.2.2.2 0 2 (by omega) (by omega)),rfl⟩);subst hn1;by_cases hb1:pl 0 2 < -1
      ·clear hb;go_wp2;go_ret;exact ⟨rfl,HBW.out⟩
      ·have hb2 : 7<pl 0 2:=(by omega);clear hb;go_wp2;go_ret;exact ⟨rfl,HBW.out⟩
    ·have k0:wr.cell? ⟨w.heap.size,9,none⟩=some (.int .i64 (pl 0 3)):=cf_cell hcf 9 _ rfl;clear hcf;by_cases hb : -1<=pl 0 3/\pl 0 3<=7
     ·have hb1:¬ pl 0 3 < -1:=(by omega);have hb2:¬ 7<pl 0 3:=by omega
      have HNX:Hid (∀ i,i<3+1->-1<=pl (i/4) (i%4)/\pl (i/4) (i%4)<=7):=fun i hi=>by
       by_cases hik:i=3
       ·subst hik;exact hb
       ·exact HPL.out i (by omega)
      clear hb;go_wp2;go_roundw
      case rel=>exact ⟨4,by omega,rfl,HNX.out,HBL.out⟩
      case measure=>simp[intOf]
     ·have hn1:n=1:=Fl.uniq HN.out (Or.inl ⟨fun h=>hb (h.2.2.2 0 3 (by omega) (by omega)),rfl⟩);subst hn1;by_cases hb1:pl 0 3 < -1
      ·clear hb;go_wp2;go_ret;exact ⟨rfl,HBW.out⟩
      ·have hb2 : 7<pl 0 3:=(by omega);clear hb;go_wp2;go_ret;exact ⟨rfl,HBW.out⟩
    ·have k0:wr.cell? ⟨w.heap.size,10,none⟩=some (.int .i64 (pl 1 0)):=cf_cell hcf 10 _ rfl;clear hcf;by_cases hb : -1<=pl 1 0/\pl 1 0<=7
     ·have hb1:¬ pl 1 0 < -1:=(by omega);have hb2:¬ 7<pl 1 0:=by omega
      have HNX:Hid (∀ i,i<4+1->-1<=pl (i/4) (i%4)/\pl (i/4) (i%4)<=7):=fun i hi=>by
       by_cases hik:i=4
       ·subst hik;exact hb
       ·exact HPL.out i (by omega)
      clear hb;go_wp2;go_roundw
      case rel=>exact ⟨5,by omega,rfl,HNX.out,HBL.out⟩
      case measure=>simp[intOf]
     ·have hn1:n=1:=Fl.uniq HN.out (Or.inl ⟨fun h=>hb (h.2.2.2 1 0 (by omega) (by omega)),rfl⟩);subst hn1;by_cases hb1:pl 1 0 < -1
      ·clear hb;go_wp2;go_ret;exact ⟨rfl,HBW.out⟩
      ·have hb2 : 7<pl 1 0:=(by omega);clear hb;go_wp2;go_ret;exact ⟨rfl,HBW.out⟩
    ·have k0:wr.cell? ⟨w.heap.size,11,none⟩=some (.int .i64 (pl 1 1)):=cf_cell hcf 11 _ rfl;clear hcf;by_cases hb : -1<=pl 1 1/\pl 1 1<=7
     ·have hb1:¬ pl 1 1 < -1:=(by omega);have hb2:¬ 7<pl 1 1:=by omega
      have HNX:Hid (∀ i,i<5+1->-1<=pl (i/4) (i%4)/\pl (i/4) (i%4)<=7):=fun i hi=>by
       by_cases hik:i=5
       ·subst hik;exact hb
       ·exact HPL.out i (by omega)
      clear hb;go_wp2;go_roundw
      case rel=>exact ⟨6,by omega,rfl,HNX.out,HBL.out⟩
      case measure=>simp[intOf]
     ·have hn1:n=1:=Fl.uniq HN.out (Or.inl ⟨fun h=>hb (h.2.2.2 1 1 (by omega) (by omega)),rfl⟩);subst hn1;by_cases hb1:pl 1 1 < -1
      ·clear hb;go_wp2;go_ret;exact ⟨rfl,HBW.out⟩
      ·have hb2 : 7<pl 1 1:=(by omega);clear hb;go_wp2;go_ret;exact ⟨rfl,HBW.out⟩
    ·have k0:wr.cell? ⟨w.heap.size,12,none⟩=some (.int .i64 (pl 1 2)):=cf_cell hcf 12 _ rfl;clear hcf;by_cases hb : -1<=pl 1 2/\pl 1 2<=7
     ·have hb1:¬ pl 1 2 < -1:=(by omega);have hb2:¬ 7<pl 1 2:=by omega
      have HNX:Hid (∀ i,i<6+1->-1<=pl (i/4) (i%4)/\pl (i/4) (i%4)<=7):=fun i hi=>by
       by_cases hik:i=6
       ·subst hik;exact hb
       ·exact HPL.out i (by omega)
      clear hb;go_wp2;go_roundw
      case rel=>exact ⟨7,by omega,rfl,HNX.out,HBL.out⟩
      case measure=>simp[intOf]
     ·have hn1:n=1:=Fl.uniq HN.out (Or.inl ⟨fun h=>hb (h.2.2.2 1 2 (by omega) (by omega)),rfl⟩);subst hn1;by_cases hb1:pl 1 2 < -1
      ·clear hb;go_wp2;go_ret;exact ⟨rfl,HBW.out⟩
      ·have hb2 : 7<pl 1 2:=(by omega);clear hb;go_wp2;go_ret;exact ⟨rfl,HBW.out⟩
    ·have k0:wr.cell? ⟨w.heap.size,13,none⟩=some (.int .i64 (pl 1 3)):=cf_cell hcf 13 _ rfl;clear hcf;by_cases hb : -1<=pl 1 3/\pl 1 3<=7
     ·have hb1:¬ pl 1 3 < -1:=(by omega);have hb2:¬ 7<pl 1 3:=by omega
      have HNX:Hid (∀ i,i<7+1->-1<=pl (i/4) (i%4)/\pl (i/4) (i%4)<=7):=fun i hi=>by
       by_cases hik:i=7
       ·subst hik;exact hb
       ·exact HPL.out i (by omega)
      clear hb;go_wp2;go_roundw
      case rel=>exact ⟨8,by omega,rfl,HNX.out,HBL.out⟩
      case measure=>simp[intOf]
     ·have hn1:n=1:=Fl.uniq HN.out (Or.inl ⟨fun h=>hb (h.2.2.2 1 3 (by omega) (by omega)),rfl⟩);subst hn1;by_cases hb1:pl 1 3 < -1
      ·clear hb;go_wp2;go_ret;exact ⟨rfl,HBW.out⟩
      ·have hb2 : 7<pl 1 3:=(by omega);clear hb;go_wp2;go_ret;exact ⟨rfl,HBW.out⟩
    ·have k0:wr.cell? ⟨w.heap.size,14,none⟩=some (.int .i64 (pl 2 0)):=cf_cell hcf 14 _ rfl;clear hcf;by_cases hb : -1<=pl 2 0/\pl 2 0<=7
     ·have hb1:¬ pl 2 0 < -1:=(by omega);have hb2:¬ 7<pl 2 0:=by omega
      have HNX:Hid (∀ i,i<8+1->-1<=pl (i/4) (i%4)/\pl (i/4) (i%4)<=7):=fun i hi=>by
       by_cases hik:i=8
       ·subst hik;exact hb
       ·exact HPL.out i (by omega)
      clear hb;go_wp2;go_roundw
      case rel=>exact ⟨9,by omega,rfl,HNX.out,HBL.out⟩
      case measure=>simp[intOf]
     ·have hn1:n=1:=Fl.uniq HN.out (Or.inl ⟨fun h=>hb (h.2.2.2 2 0 (by omega) (by omega)),rfl⟩);subst hn1;by_cases hb1:pl 2 0 < -1
      ·clear hb;go_wp2;go_ret;exact ⟨rfl,HBW.out⟩
      ·have hb2 : 7<pl 2 0:=(by omega);clear hb;go_wp2;go_ret;exact ⟨rfl,HBW.out⟩
    ·have k0:wr.cell? ⟨w.heap.size,15,none⟩=some (.int .i64 (pl 2 1)):=cf_cell hcf 15 _ rfl;clear hcf;by_cases hb : -1<=pl 2 1/\pl 2 1<=7
     ·have hb1:¬ pl 2 1 < -1:=(by omega);have hb2:¬ 7<pl 2 1:=by omega
      have HNX:Hid (∀ i,i<9+1->-1<=pl (i/4) (i%4)/\pl (i/4) (i%4)<=7):=fun i hi=>by
       by_cases hik:i=9
       ·subst hik;exact hb
       ·exact HPL.out i (by omega)
      clear hb;go_wp2;go_roundw
      case rel=>exact ⟨10,by omega,rfl,HNX.out,HBL.out⟩
      case measure=>simp[intOf]
     ·have hn1:n=1:=Fl.uniq HN.out (Or.inl ⟨fun h=>hb (h.2.2.2 2 1 (by omega) (by omega)),rfl⟩);subst hn1;by_cases hb1:pl 2 1 < -1
      ·clear hb;go_wp2;go_ret;exact ⟨rfl,HBW.out⟩
      ·have hb2 : 7<pl 2 1:=(by omega);clear hb;go_wp2;go_ret;exact ⟨rfl,HBW.out⟩
    ·have k0:wr.cell? ⟨w.heap.size,16,none⟩=some (.int .i64 (pl 2 2)):=cf_cell hcf 16 _ rfl;clear hcf;by_cases hb : -1<=pl 2 2/\pl 2 2<=7
     ·have hb1:¬ pl 2 2 < -1:=(by omega);have hb2:¬ 7<pl 2 2:=by omega
      have HNX:Hid (∀ i,i<10+1->-1<=pl (i/4) (i%4)/\pl (i/4) (i%4)<=7):=fun i hi=>by
       by_cases hik:i=10
       ·subst hik;exact hb
       ·exact HPL.out i (by omega)
      clear hb;go_wp2;go_roundw
      case rel=>exact ⟨11,by omega,rfl,HNX.out,HBL.out⟩
      case measure=>simp[intOf]
     ·have hn1:n=1:=Fl.uniq HN.out (Or.inl ⟨fun h=>hb (h.2.2.2 2 2 (by omega) (by omega)),rfl⟩);subst hn1;by_cases hb1:pl 2 2 < -1
      ·clear hb;go_wp2;go_ret;exact ⟨rfl,HBW.out⟩
      ·have hb2 : 7<pl 2 2:=(by omega);clear hb;go_wp2;go_ret;exact ⟨rfl,HBW.out⟩
    ·have k0:wr.cell? ⟨w.heap.size,17,none⟩=some (.int .i64 (pl 2 3)):=cf_cell hcf 17 _ rfl;clear hcf;by_cases hb : -1<=pl 2 3/\pl 2 3<=7
     ·have hb1:¬ pl 2 3 < -1:=(by omega);have hb2:¬ 7<pl 2 3:=by omega
      have HNX:Hid (∀ i,i<11+1->-1<=pl (i/4) (i%4)/\pl (i/4) (i%4)<=7):=fun i hi=>by
       by_cases hik:i=11
       ·subst hik;exact hb
       ·exact HPL.out i (by omega)
      clear hb;go_wp2;go_roundw
      case rel=>exact ⟨12,by omega,rfl,HNX.out,HBL.out⟩
      case measure=>simp[intOf]
     ·have hn1:n=1:=Fl.uniq HN.out (Or.inl ⟨fun h=>hb (h.2.2.2 2 3 (by omega) (by omega)),rfl⟩);subst hn1;by_cases hb1:pl 2 3 < -1
      ·clear hb;go_wp2;go_ret;exact ⟨rfl,HBW.out⟩
      ·have hb2 : 7<pl 2 3:=(by omega);clear hb;go_wp2;go_ret;exact ⟨rfl,HBW.out⟩
    ·have k0:wr.cell? ⟨w.heap.size,18,none⟩=some (.int .i64 (pl 3 0)):=cf_cell hcf 18 _ rfl;clear hcf;by_cases hb : -1<=pl 3 0/\pl 3 0<=7
     ·have hb1:¬ pl 3 0 < -1:=(by omega);have hb2:¬ 7<pl 3 0:=by omega
      have HNX:Hid (∀ i,i<12+1->-1<=pl (i/4) (i%4)/\pl (i/4) (i%4)<=7):=fun i hi=>by
       by_cases hik:i=12
       ·subst hik;exact hb
       ·exact HPL.out i (by omega)
      clear hb;go_wp2;go_roundw
      case rel=>exact ⟨13,by omega,rfl,HNX.out,HBL.out⟩
      case measure=>simp[intOf]
     ·have hn1:n=1:=Fl.uniq HN.out (Or.inl ⟨fun h=>hb (h.2.2.2 3 0 (by omega) (by omega)),rfl⟩);subst hn1;by_cases hb1:pl 3 0 < -1
      ·clear hb;go_wp2;go_ret;exact ⟨rfl,HBW.out⟩
      ·have hb2 : 7<pl 3 0:=(by omega);clear hb;go_wp2;go_ret;exact ⟨rfl,HBW.out⟩
    ·have k0:wr.cell? ⟨w.heap.size,19,none⟩=some (.int .i64 (pl 3 1)):=cf_cell hcf 19 _ rfl;clear hcf;by_cases hb : -1<=pl 3 1/\pl 3 1<=7
     ·have hb1:¬ pl 3 1 < -1:=(by omega);have hb2:¬ 7<pl 3 1:=by omega
      have HNX:Hid (∀ i,i<13+1->-1<=pl (i/4) (i%4)/\pl (i/4) (i%4)<=7):=fun i hi=>by
       by_cases hik:i=13
       ·subst hik;exact hb
       ·exact HPL.out i (by omega)
      clear hb;go_wp2;go_roundw
      case rel=>exact ⟨14,by omega,rfl,HNX.out,HBL.out⟩
      case measure=>simp[intOf]
     ·have hn1:n=1:=Fl.uniq HN.out (Or.inl ⟨fun h=>hb (h.2.2.2 3 1 (by omega) (by omega)),rfl⟩);subst hn1;by_cases hb1:pl 3 1 < -1
      ·clear hb;go_wp2;go_ret;exact ⟨rfl,HBW.out⟩
      ·have hb2 : 7<pl 3 1:=(by omega);clear hb;go_wp2;go_ret;exact ⟨rfl,HBW.out⟩
    ·have k0:wr.cell? ⟨w.heap.size,20,none⟩=some (.int .i64 (pl 3 2)):=cf_cell hcf 20 _ rfl;clear hcf;by_cases hb : -1<=pl 3 2/\pl 3 2<=7
     ·have hb1:¬ pl 3 2 < -1:=(by omega);have hb2:¬ 7<pl 3 2:=by omega
      have HNX:Hid (∀ i,i<14+1->-1<=pl (i/4) (i%4)/\pl (i/4) (i%4)<=7):=fun i hi=>by
       by_cases hik:i=14
       ·subst hik;exact hb
       ·exact HPL.out i (by omega)
      clear hb;go_wp2;go_roundw
      case rel=>exact ⟨15,by omega,rfl,HNX.out,HBL.out⟩
      case measure=>simp[intOf]
     ·have hn1:n=1:=Fl.uniq HN.out (Or.inl ⟨fun h=>hb (h.2.2.2 3 2 (by omega) (by omega)),rfl⟩);subst hn1;by_cases hb1:pl 3 2 < -1
      ·clear hb;go_wp2;go_ret;exact ⟨rfl,HBW.out⟩
      ·have hb2 : 7<pl 3 2:=(by omega);clear hb;go_wp2;go_ret;exact ⟨rfl,HBW.out⟩
    ·have k0:wr.cell? ⟨w.heap.size,21,none⟩=some (.int .i64 (pl 3 3)):=cf_cell hcf 21 _ rfl;clear hcf;by_cases hb : -1<=pl 3 3/\pl 3 3<=7
     ·have hb1:¬ pl 3 3 < -1:=(by omega);have hb2:¬ 7<pl 3 3:=by omega
      have HNX:Hid (∀ i,i<15+1->-1<=pl (i/4) (i%4)/\pl (i/4) (i%4)<=7):=fun i hi=>by
       by_cases hik:i=15
       ·subst hik;exact hb
       ·exact HPL.out i (by omega)
      clear hb;go_wp2;go_roundw
      case rel=>exact ⟨16,by omega,rfl,HNX.out,HBL.out⟩
      case measure=>simp[intOf]
     ·have hn1:n=1:=Fl.uniq HN.out (Or.inl ⟨fun h=>hb (h.2.2.2 3 3 (by omega) (by omega)),rfl⟩);subst hn1;by_cases hb1:pl 3 3 < -1
      ·clear hb;go_wp2;go_ret;exact ⟨rfl,HBW.out⟩
      ·have hb2 : 7<pl 3 3:=(by omega);clear hb;go_wp2;go_ret;exact ⟨rfl,HBW.out⟩
   case neg=>
    have hI:¬ (j:Int)<16:=(by omega);have HPO:Hid (plOk pl):=fun r a hr ha=>by have h1:=HPL.out (r*4+a) (by omega);rw[show (r*4+a)/4=r by omega,show (r*4+a)%4=a by omega] at h1;exact h1
    have HCK:Hid (Ck rs n):=by
     rcases HN.out with ⟨h1,_⟩ | ⟨_,h2⟩
     ·exact absurd ⟨HX.out.1,HX.out.2.1,HX.out.2.2,HPO.out⟩ h1
     ·exact h2
    clear hcf;by_cases h6 : 6<m
    case pos=>have e2:n=2:=Ck.uniq HCK.out (Or.inl ⟨by rw[<- HM.out];exact h6,rfl⟩);subst e2;have h6I:(6:Int)<m:=(by omega);go_wp2;go_ret;exact ⟨rfl,HBW.out⟩
    case neg=>
     have h6I:¬ (6:Int)<m:=(by omega);go_wp2;go_loopw [6] (fun i V=>∃ j:Nat,j<=m/\i = .int .i64 (j:Int)/\(∀ i,i<j->Fit rs i)/\Below w.heap.size w V) (fun i _=>m-(intOf i).toNat)
     case atStart=>exact ⟨0,by omega,rfl,fun i hi=>by omega,HBW.out⟩
     case round=>
      obtain ⟨i,hi,rfl,hfit,hbl⟩:=hrel;have HFIT:Hid (∀ k,k<i->Fit rs k):=hfit;have HB1:Hid (Below w.heap.size w wr):=hbl;by_cases him:i<m
      case neg=>have hII:¬ (i:Int)<m:=(by omega);have e0:n=0:=Ck.uniq HCK.out (Or.inr ⟨by have:=HM.out;omega,Or.inl ⟨fun k hk=>HFIT.out k (by have:=HM.out;omega),rfl⟩⟩);subst e0;clear hfit hbl;go_wp2;go_ret;exact ⟨rfl,HB1.out⟩
      case pos=>
       have hII:(i:Int)<m:=(by omega);have hi':i<rs.length:=(by rw[<- HM.out];exact him);have hne:rs≠[]:=fun e=>(by rw[e] at hi';simp at hi');obtain ⟨g,o,rfl,hg,hc'⟩:=(HR.out.below hbl).at_ hne;have hri:=List.getElem?_eq_getElem hi';obtain ⟨k0,k1,k2,k3,k4,k5⟩:=hc' i _ hri;have hsz:=HS.out _ (List.getElem_mem hi');have HRI:Hid (rs[i]?=some rs[i]):=hri;have HCC:Hid (∀ k r,rs[k]?=some r->wr.cell? ⟨g,o+k*6,none⟩=some (.string r.nm)):=fun k r hk=>(hc' k r hk).1;generalize rs[i]=r at *;obtain ⟨f,hf⟩:=flt_ex r;have HF:Hid (r.flt f):=hf;have HRF:Hid (∀ V,Calls prog 38 #[RuA.rV r] V fun e w'=>e = .returned (.int .i64 (f:Int))/\Below V.heap.size V w'):=fun V=>RuA.rfault_any r V hsz hf;clear hfit hbl hc' hri hf;obtain ⟨rn,rk,rf,rt,rw_,ri⟩:=r;unfold RuA.rV at HRF;simp only at k0 k1 k2 k3 k4 k5 HRF;go_wp2_with fail;refine (HRF.out _).mono ?_;rintro e w2 ⟨rfl,hb2⟩;have HB2:Hid (Below w.heap.size w w2):=HB1.out.trans (hb2.mono HB1.out.size);have HC2:Hid (∀ V,Below w2.heap.size w2 V->∀ k r,rs[k]?=some r->V.cell? ⟨g,o+k*6,none⟩=some (.string r.nm)):=fun V hV k r hk=>(by rw[World.cell?_of_block (w:=w2) (hV.block g (Nat.lt_of_lt_of_le hg hb2.size)),World.cell?_of_block (w:=wr) (hb2.block g hg)];exact HCC.out k r hk);clear hb2 k0 k1 k2 k3 k4 k5;by_cases hf0:f=0
       case neg=>have hfp:(0:Int)<f:=(by omega);have hnok:¬ (Rl.mk rn rk rf rt rw_ ri).ok:=fun h=>hf0 ((RuM.flt_ok HF.out).2 h);have enm:n=f:=Ck.uniq HCK.out (Or.inr ⟨by have:=HM.out;omega,Or.inr ⟨i,_,HRI.out,HFIT.out,Or.inl ⟨hnok,HF.out,hf0⟩⟩⟩);subst enm;clear hnok hf0;go_wp2;go_ret;exact ⟨rfl,HB2.out⟩
       case pos=>
        subst hf0;have HOK:Hid ((Rl.mk rn rk rf rt rw_ ri).ok):=(RuM.flt_ok HF.out).1 rfl;go_wp2;go_loopw [8] (fun x V=>∃ k:Nat,k<=i/\x = .int .i64 (k:Int)/\(∀ y,y ∈ rs.take k->y.nm≠rn)/\Below w2.heap.size w2 V) (fun x _=>i-(intOf x).toNat)
        case atStart=>exact ⟨0,by omega,rfl,fun y hy=>by simp at hy,Below.refl _ _⟩
        case round=>
         obtain ⟨k,hk,rfl,hnm,hbl⟩:=hrel;have HNM:Hid (∀ y,y ∈ rs.take k->y.nm≠rn):=hnm;have HB3:Hid (Below w2.heap.size w2 wr):=hbl;clear hnm hbl;by_cases hki:k<i
         case neg=>
          obtain rfl:k=i:=(by omega);have hKI:¬ (k:Int)<k:=by omega
          have HF2:Hid (∀ x,x<k+1->Fit rs x):=fun x hx=>by
           by_cases hxk:x=k
           ·intro r hr;rw[hxk,HRI.out] at hr;cases hr;rw[hxk];exact ⟨HOK.out,fun y h1=>HNM.out y h1⟩
           ·exact HFIT.out x (by omega)
          have HB4:Hid (Below w.heap.size w wr):=HB2.out.trans (HB3.out.mono HB2.out.size);go_wp2;go_roundw
          case rel=>exact ⟨k+1,by omega,by go_num,HF2.out,HB4.out⟩
          case measure=>simp[intOf];omega
         case pos=>
          have hKI:(k:Int)<i:=(by omega);have hkl:k<rs.length:=(by omega);have hkm:(k:Int)<m:=(by omega);have hrk:=List.getElem?_eq_getElem hkl;have d0:=HC2.out _ HB3.out k _ hrk;have d1:=HC2.out _ HB3.out i _ HRI.out;have HTK:Hid (rs.take (k+1)=rs.take k ++ [rs[k]]):=List.take_succ_eq_append_getElem hkl;have HRK:Hid (rs[k] ∈ rs.take i):=(by refine List.mem_iff_getElem?.2 ⟨k,?_⟩;rw[List.getElem?_take,if_pos hki];exact hrk);simp only at d1;generalize rs[k]=y at *;clear hrk;have HB4:Hid (Below w.heap.size w wr.drew):=(HB2.out.trans (HB3.out.mono HB2.out.size)).drew;by_cases hyn:y.nm=rn
          ·have hye:=sbeq_true hyn;have e7:n=7:=Ck.uniq HCK.out (Or.inr ⟨by have:=HM.out;omega,Or.inr ⟨i,_,HRI.out,HFIT.out,Or.inr ⟨HOK.out,⟨y,HRK.out,hyn⟩,rfl⟩⟩⟩);subst e7;clear hyn;go_wp2;go_region
           all_goals
            go_wp2;go_ret;exact ⟨rfl,HB4.out⟩
          ·have hye:=sbeq_false hyn
           have HNX:Hid (∀ z,z ∈ rs.take (k+1)->z.nm≠rn):=fun z hz=>by
            rw[HTK.out] at hz;rcases List.mem_append.1 hz with h1 | h1
            ·exact HNM.out z h1
            ·simp at h1;subst h1;exact hyn
           clear hyn;go_wp2;go_region
           all_goals
            go_wp2;go_roundw
            case rel=>exact ⟨k+1,by omega,by go_num,HNX.out,HB3.out.drew⟩
            case measure=>simp[intOf];omega
end WbA
namespace WbA
open Go.RowKit TkW WaM WaW WaB Go.Maps
open RuM (Rl)
open TkA (sbeq_true sbeq_false)
structure RsIn (w:World) (q:Option Addr) (cap:Nat) (rs:List Rl):Prop where
 on:RsOn w q rs
 nil:q=none->rs = []/\cap=0
 cap:rs.length<=cap
 len:rs.length<=9223372036854775807
 names:∀ r,r ∈ rs->r.nm.size<=9223372036854775807
theorem RsIn.below {w w':World} {q:Option Addr} {cap:Nat} {rs:List Rl} (h:RsIn w q cap rs) (hb:Below w.heap.size w w'):RsIn w' q cap rs:=⟨h.on.below hb,h.nil,h.cap,h.len,h.names⟩
end WbA
namespace WbA
open Go.ChangeShapes Go.WideShapes Go.ChangeAt Go.RowKit Go.Deep TkW WaM WaW WaB
open RuM (Rl)
open TkM (Sg)
theorem own:ownKnob prog.godebug=none:=by kernel_rfl
theorem laidOut:laidOutB prog=true:=by kernel_rfl
theorem cells3:prog.cellsOf 3=1:=by kernel_rfl
theorem cells9:prog.cellsOf 9=1:=by kernel_rfl
theorem cells43:prog.cellsOf 43=4:=by kernel_rfl
theorem cells45:prog.cellsOf 45=7:=by kernel_rfl
theorem cells32:prog.cellsOf 32=6:=by kernel_rfl
theorem cells25:prog.cellsOf 25=22:=by kernel_rfl
theorem cells23:prog.cellsOf 23=16:=by kernel_rfl
theorem cells22:prog.cellsOf 22=4:=by kernel_rfl
theorem list_of {α:Type} {Q:Nat->α->Prop} (n:Nat) (h:∀ i,i<n->∃ r,Q i r):∃ l:List α,l.length=n/\∀ (k:Nat) (r : α),l[k]?=some r->Q k r:=by
 induction n with
 | zero=>exact ⟨[],rfl,fun k r hk=>by simp at hk⟩
 | succ n ih=>
  obtain ⟨l,hl,hq⟩:=ih (fun i hi=>h i (by omega));obtain ⟨r,hr⟩:=h n (by omega);refine ⟨l ++ [r],by simp[hl],fun k x hk=>?_⟩;rcases Nat.lt_or_ge k l.length with hlt | hge
  ·rw[List.getElem?_append_left hlt] at hk;exact hq k x hk
  ·rw[List.getElem?_append_right hge] at hk
   have:k=n:=by
    rcases Nat.lt_or_ge (k-l.length) 1 with h1 | h1
    ·omega
    ·rw[List.getElem?_eq_none (by simp;omega)] at hk;cases hk
   subst this;rw[hl,Nat.sub_self] at hk;simp at hk;subst hk;exact hr
theorem add_zero (a:Addr):a.add 0=a:=by unfold Addr.add;simp
theorem plain_addr {a:Addr} {w:World} {v:Value} (h:w.cell? a=some v):∃ b o,a=⟨b,o,none⟩/\b<w.heap.size:=by
 obtain ⟨b,o,sp⟩:=a
 have hlt:b<w.heap.size:=by
  rcases Nat.lt_or_ge b w.heap.size with h1 | h1
  ·exact h1
  ·simp[World.cell?,Array.getElem?_eq_none h1] at h
 cases sp with
 | none=>exact ⟨b,o,rfl,hlt⟩
 | some sp=>
  exfalso;unfold World.cell? at h;split at h<;>simp at h
theorem cells_slice {v:Value} {p:Option Addr} {n c:Nat} (hv:∃ p' n' c',v = .slice p' n' c') (h:v.cells.toList = [.slice p n c]):v = .slice p n c:=by obtain ⟨p',n',c',rfl⟩:=hv;simpa [Value.cells] using h
def sgc (x:Sg):List Value:=[.int .i64 x.p,.int .i64 x.s,.int .i64 x.t,.string x.g]
def acc (a:Ac):List Value:=[.string a.kd,.int .i64 a.n,.string a.st]++sgc a.x
section
variable {H : Type} {enc : TypeId × Value → H} {w : World} {base : Nat} {spare : Nat → Bool} {held : Bool}
theorem open_sight {fuel:Nat} {cs:List Value} {x:DataW H×List MemPlace} (hlen:cs.length=4) (h:DataW.trod enc prog w base spare held fuel 43 cs=some x):∃ r:Sg,cs=sgc r:=by
 match cs,hlen with
 | [v0,v1,v2,v3],_=>
  obtain ⟨xs,n,_,hx,_,hl,he⟩:=DataW.trod_struct underlying43 h
  match xs,hl with
  | [y0,y1,y2,y3],_=>
   have e0:DataW.trod enc prog w base spare held n 3 (([v0,v1,v2,v3].drop 0).take (prog.cellsOf 3))=some y0:=he 0 _ rfl;have e1:DataW.trod enc prog w base spare held n 3 (([v0,v1,v2,v3].drop 1).take (prog.cellsOf 3))=some y1:=he 1 _ rfl;have e2:DataW.trod enc prog w base spare held n 3 (([v0,v1,v2,v3].drop 2).take (prog.cellsOf 3))=some y2:=he 2 _ rfl;have e3:DataW.trod enc prog w base spare held n 9 (([v0,v1,v2,v3].drop 3).take (prog.cellsOf 9))=some y3:=he 3 _ rfl;obtain ⟨a0,q0,_,_⟩:=DataW.trod_int underlying3 e0;obtain ⟨a1,q1,_,_⟩:=DataW.trod_int underlying3 e1;obtain ⟨a2,q2,_,_⟩:=DataW.trod_int underlying3 e2;obtain ⟨a3,q3,_,_⟩:=DataW.trod_string underlying9 e3;rw[cells3] at q0 q1 q2;rw[cells9] at q3;simp at q0 q1 q2 q3;subst q0 q1 q2 q3;exact ⟨⟨a0,a1,a2,a3⟩,rfl⟩
theorem open_act {fuel:Nat} {cs:List Value} {x:DataW H×List MemPlace} (hlen:cs.length=7) (h:DataW.trod enc prog w base spare held fuel 45 cs=some x):∃ a:Ac,cs=acc a/\a.st.size<=maxLen:=by
 match cs,hlen with
 | [v0,v1,v2,v3,v4,v5,v6],_=>
  obtain ⟨xs,n,_,hx,_,hl,he⟩:=DataW.trod_struct underlying45 h
  match xs,hl with
  | [y0,y1,y2,y3],_=>
   have e0:DataW.trod enc prog w base spare held n 9 (([v0,v1,v2,v3,v4,v5,v6].drop 0).take (prog.cellsOf 9))=some y0:=he 0 _ rfl;have e1:DataW.trod enc prog w base spare held n 3 (([v0,v1,v2,v3,v4,v5,v6].drop 1).take (prog.cellsOf 3))=some y1:=he 1 _ rfl;have e2:DataW.trod enc prog w base spare held n 9 (([v0,v1,v2,v3,v4,v5,v6].drop 2).take (prog.cellsOf 9))=some y2:=he 2 _ rfl;have e3:DataW.trod enc prog w base spare held n 43 (([v0,v1,v2,v3,v4,v5,v6].drop 3).take (prog.cellsOf 43))=some y3:=he 3 _ rfl;obtain ⟨a0,q0,_,_⟩:=DataW.trod_string underlying9 e0;obtain ⟨a1,q1,_,_⟩:=DataW.trod_int underlying3 e1;obtain ⟨a2,q2,_,w2⟩:=DataW.trod_string underlying9 e2;obtain ⟨r,q3⟩:=open_sight (by rw[cells43];rfl) e3;rw[cells9] at q0 q2;rw[cells3] at q1;rw[cells43] at q3;simp[sgc] at q0 q1 q2 q3;obtain ⟨q3,q4,q5,q6⟩:=q3;subst q0 q1 q2 q3 q4 q5 q6;exact ⟨⟨a0,a1,a2,r⟩,rfl,w2⟩
theorem open_acts {fuel:Nat} {cs:List Value} {x:DataW H×List MemPlace} (h:DataW.trod enc prog w base spare held fuel 27 cs=some x):∃ p cap ac,cs = [.slice p (List.length ac) cap]/\AcsOn w.heap.size w p ac/\ac.length<=9223372036854775807:=by
 have hmx:maxLen=9223372036854775807:=by decide
 rcases open_slice underlying27 h with ⟨rfl,_⟩ | ⟨a,len,cap,m,n,D,Pl,rfl,hb,hle,hcap,hm,_,hel⟩
 ·exact ⟨none,0,[],rfl,⟨fun r hr=>absurd hr List.not_mem_nil,fun hn=>absurd rfl hn⟩,by simp⟩
 ·have hml:len<=m:=by rw[hm];split<;>omega
  obtain ⟨rs,hrl,hrs⟩:=list_of (Q:=fun i (r:Ac)=>r.st.size<=maxLen/\∀ j u,(acc r)[j]?=some u->w.cell? ((a.add (i*7)).add j)=some u) len (fun i hi=>by
   obtain ⟨cs',hc,ht⟩:=hel i (by omega);rw[cells45] at hc;obtain ⟨_,hlen,hcell⟩:=World.cells?_some hc;obtain ⟨r,rfl,hrt⟩:=open_act hlen ht;refine ⟨r,hrt,fun j u hj=>?_⟩
   have hj7:j<7:=by
    rcases Nat.lt_or_ge j 7 with h | h
    ·exact h
    ·rw[List.getElem?_eq_none (by show 7<=j;exact h)] at hj;cases hj
   rw[hcell j hj7];exact hj)
  refine ⟨some a,cap,rs,by rw[hrl],⟨fun r hr=>?_,fun hne=>?_⟩,by omega⟩
  ·obtain ⟨k,hk⟩:=List.getElem?_of_mem hr;rw[<- hmx];exact (hrs k r hk).1
  ·have h0 : 0<rs.length:=List.length_pos_iff.2 hne;have hf:=(hrs 0 _ (List.getElem?_eq_getElem h0)).2 0 _ rfl;rw[Nat.zero_mul,add_zero,add_zero] at hf;obtain ⟨b,o,rfl,hlt⟩:=plain_addr hf;refine ⟨b,o,rfl,hlt,fun k r hk=>?_⟩;have hc:=(hrs k r hk).2;have e1:(⟨b,o,none⟩:Addr).add (k*7)=⟨b,o+k*7,none⟩:=by unfold Addr.add;split<;>simp_all
   have e2:∀ j,(⟨b,o+k*7,none⟩:Addr).add j=⟨b,o+k*7+j,none⟩:=fun j=>by unfold Addr.add;split<;>simp_all
   rw[e1] at hc;have k0:=hc 0 _ rfl;have k1:=hc 1 _ rfl;have k2:=hc 2 _ rfl;have k3:=hc 3 _ rfl;have k4:=hc 4 _ rfl;have k5:=hc 5 _ rfl;have k6:=hc 6 _ rfl;rw[e2] at k0 k1 k2 k3 k4 k5 k6;exact ⟨k0,k1,k2,k3,k4,k5,k6⟩
theorem open_ruleC {fuel:Nat} {cs:List Value} {x:DataW H×List MemPlace} (hlen:cs.length=6) (h:DataW.trod enc prog w base spare held fuel 32 cs=some x):∃ r:Rl,cs=rcl r/\r.nm.size<=maxLen:=by
 match cs,hlen with
 | [v0,v1,v2,v3,v4,v5],_=>
  obtain ⟨xs,n,_,hx,_,hl,he⟩:=DataW.trod_struct underlying32 h
  match xs,hl with
  | [y0,y1,y2,y3,y4,y5],_=>
   have e0:DataW.trod enc prog w base spare held n 9 (([v0,v1,v2,v3,v4,v5].drop 0).take (prog.cellsOf 9))=some y0:=he 0 _ rfl;have e1:DataW.trod enc prog w base spare held n 3 (([v0,v1,v2,v3,v4,v5].drop 1).take (prog.cellsOf 3))=some y1:=he 1 _ rfl;have e2:DataW.trod enc prog w base spare held n 3 (([v0,v1,v2,v3,v4,v5].drop 2).take (prog.cellsOf 3))=some y2:=he 2 _ rfl;have e3:DataW.trod enc prog w base spare held n 3 (([v0,v1,v2,v3,v4,v5].drop 3).take (prog.cellsOf 3))=some y3:=he 3 _ rfl;have e4:DataW.trod enc prog w base spare held n 3 (([v0,v1,v2,v3,v4,v5].drop 4).take (prog.cellsOf 3))=some y4:=he 4 _ rfl;have e5:DataW.trod enc prog w base spare held n 3 (([v0,v1,v2,v3,v4,v5].drop 5).take (prog.cellsOf 3))=some y5:=he 5 _ rfl;obtain ⟨a0,q0,_,w0⟩:=DataW.trod_string underlying9 e0;obtain ⟨a1,q1,_,_⟩:=DataW.trod_int underlying3 e1;obtain ⟨a2,q2,_,_⟩:=DataW.trod_int underlying3 e2;obtain ⟨a3,q3,_,_⟩:=DataW.trod_int underlying3 e3;obtain ⟨a4,q4,_,_⟩:=DataW.trod_int underlying3 e4;obtain ⟨a5,q5,_,_⟩:=DataW.trod_int underlying3 e5;rw[cells9] at q0;rw[cells3] at q1 q2 q3 q4 q5;simp at q0 q1 q2 q3 q4 q5;subst q0 q1 q2 q3 q4 q5;exact ⟨⟨a0,a1,a2,a3,a4,a5⟩,rfl,w0⟩
theorem open_rules {fuel:Nat} {cs:List Value} {x:DataW H×List MemPlace} (h:DataW.trod enc prog w base spare held fuel 26 cs=some x):∃ p cap rs,cs = [.slice p (List.length rs) cap]/\RsIn w p cap rs:=by
 have hmx:maxLen=9223372036854775807:=by decide
 rcases open_slice underlying26 h with ⟨rfl,_⟩ | ⟨a,len,cap,m,n,D,Pl,rfl,hb,hle,hcap,hm,_,hel⟩
 ·exact ⟨none,0,[],rfl,⟨fun hn=>absurd rfl hn⟩,fun _=>⟨rfl,rfl⟩,Nat.le_refl _,Nat.zero_le _,fun r hr=>absurd hr List.not_mem_nil⟩
 ·have hml:len<=m:=by rw[hm];split<;>omega
  obtain ⟨rs,hrl,hrs⟩:=list_of (Q:=fun i (r:Rl)=>r.nm.size<=maxLen/\∀ j u,(rcl r)[j]?=some u->w.cell? ((a.add (i*6)).add j)=some u) len (fun i hi=>by
   obtain ⟨cs',hc,ht⟩:=hel i (by omega);rw[cells32] at hc;obtain ⟨_,hlen,hcell⟩:=World.cells?_some hc;obtain ⟨r,rfl,hrt⟩:=open_ruleC hlen ht;refine ⟨r,hrt,fun j u hj=>?_⟩
   have hj7:j<6:=by
    rcases Nat.lt_or_ge j 6 with h | h
    ·exact h
    ·rw[List.getElem?_eq_none (by show 6<=j;exact h)] at hj;cases hj
   rw[hcell j hj7];exact hj)
  refine ⟨some a,cap,rs,by rw[hrl],⟨⟨fun hne=>?_⟩,(fun e=>by cases e),by omega,by omega,fun r hr=>?_⟩⟩
  ·have h0 : 0<rs.length:=List.length_pos_iff.2 hne;have hf:=(hrs 0 _ (List.getElem?_eq_getElem h0)).2 0 _ rfl;rw[Nat.zero_mul,add_zero,add_zero] at hf;obtain ⟨b,o,rfl,hlt⟩:=plain_addr hf;refine ⟨b,o,rfl,hlt,fun k r hk=>?_⟩;have hc:=(hrs k r hk).2;have e1:(⟨b,o,none⟩:Addr).add (k*6)=⟨b,o+k*6,none⟩:=by unfold Addr.add;split<;>simp_all
   have e2:∀ j,(⟨b,o+k*6,none⟩:Addr).add j=⟨b,o+k*6+j,none⟩:=fun j=>by unfold Addr.add;split<;>simp_all
   rw[e1] at hc;have k0:=hc 0 _ rfl;have k1:=hc 1 _ rfl;have k2:=hc 2 _ rfl;have k3:=hc 3 _ rfl;have k4:=hc 4 _ rfl;have k5:=hc 5 _ rfl;rw[e2] at k0 k1 k2 k3 k4 k5;exact ⟨k0,k1,k2,k3,k4,k5⟩
  ·obtain ⟨k,hk⟩:=List.getElem?_of_mem hr;rw[<- hmx];exact (hrs k r hk).1
end
end WbA
end Go.Proofs.YtmolafjalaeoaaaGreatDoor
