/-
  EpD WaX
-/
import Derived.Test.YtmolafjalaeoaaaGreatDoorQaw
set_option maxRecDepth 100000
set_option maxHeartbeats 8000000
namespace Go.Proofs.YtmolafjalaeoaaaGreatDoor
open Tryz
namespace EpA
open TkM (Sg)
open Go.RowKit EpM EpW TkW Go.Maps
theorem zero73 (w:World):(zeroValue 123).run prog w = .ok nilS w:=by kernel_rfl
theorem wpList_lookup_held {P:Program} (w:World) {ops:Array Oper} {rest:List Oper} {o:Oper} {a:Act} {Q:Exit->Act->World->Prop}
  (hg:o.guard=none) (m x:Operand) (t:TypeId) (hop:o.op=Op.lookup t m x false)
  (k e:TypeId) (z:Value) (K:Keyed P k) (ht:P.underlying t=some (.map k e)) (hz:(zeroValue e).run P w = .ok z w) (b n:Nat) (D:DataW Value)
  (hm:a.eval m = .map (some b)) (hown:w.ownsMap P k heldV b n D) (key:Value) (kl:Lit) (hx:a.eval x=key) (hkey:keyOf P k key=some kl) (v:Value) (hv:D.atKey kl (.held z) = .held v)
  (hK:wpList P ops Q rest (a.put o.dst v) w) :
  wpList P ops Q (o::rest) a w:=by
 refine wpList_plain hg fun K' hK'=>?_;obtain ⟨u,ps,hrun,hR⟩:=hown.lookup K ht hz (zd:=.held z) (zp:=[]) rfl hkey;rw[hv] at hR;unfold heldV at hR;simp at hR;obtain ⟨rfl,_⟩:=hR;unfold Oper.wp;simp[execOp,hop,hm,hx,hrun,Result.andThen];exact hK' _ _ hK
theorem ptrDesk (w:World) (size late:Nat):DeskAt ((w.alloc (.map #[] 0)).alloc (.cells #[.int .i64 (size:Int),.int .i64 (late:Int),.int .i64 0,.map (some w.heap.size)] 161)) (w.heap.size+1) (fun b=>w.heap.size<=b/\b<w.heap.size+2) size late 0 [] 0:=by
 refine ⟨w.heap.size,0,.map [],fun _=>nilS,?_⟩;refine ⟨?_,?_,Nat.le_refl _,by omega,by omega,fun k _=>rfl,fun k _=>World.ownsRow_nil _ _ _ _,fun k b _ h=>by simp[nilS,Value.ownBlock] at h,fun k k' _ _ _ b h=>by simp[nilS,Value.ownBlock] at h⟩
 ·have:=Go.heap_alloc_new (w.alloc (.map #[] 0)) (.cells #[.int .i64 (size:Int),.int .i64 (late:Int),.int .i64 0,.map (some w.heap.size)] 161);simpa using this
 ·exact (World.ownsMap_made w prog 3 heldV).alloc _
theorem new_ok (size late:Nat) (w:World) (h0 : 1<=size) (h1:size<=50) (h2:late<=50) :
  Calls prog 31 #[.int .i64 (size:Int),.int .i64 (late:Int)] w fun e w'=>e = .returned (.tuple #[.pointer (some ⟨w.heap.size+1,0,none⟩),.nilIface])/\w'.heap.size=w.heap.size+2/\DeskAt w' (w.heap.size+1) (fun b=>w.heap.size<=b/\b<w.heap.size+2) size late 0 [] 0/\Below w.heap.size w w':=by
 have hmm:=@run_makeMap prog;have b1:btw (size:Int) 1 50=true:=by simp[btw];omega
 have b2:btw (late:Int) 0 50=true:=by simp[btw];omega
 have HD:Hid _:=ptrDesk w size late;go_enter func31,ntmps31;go_wp2_with fail;refine (between_is b1 _).mono ?_;rintro e w' ⟨rfl,rfl⟩;go_wp2_with fail;refine (between_is b2 _).mono ?_;rintro e w' ⟨rfl,rfl⟩;go_wp2;go_ret2;exact ⟨rfl,by simp,HD.out,((Below.refl _ _).alloc (Nat.le_refl _) _).alloc (by simp) _⟩
theorem new_bad (size late:Int) (w:World) (h:¬ (1<=size/\size<=50/\0<=late/\late<=50)) :
  Calls prog 31 #[.int .i64 size,.int .i64 late] w fun e w'=>e = .returned (.tuple #[.pointer none,.iface 105 (.int .i64 1)])/\w'=w:=by
 cases b1:btw size 1 50 with
 | false=>
  go_enter func31,ntmps31;go_wp2_with fail;refine (between_is b1 _).mono ?_;rintro e w' ⟨rfl,rfl⟩;go_wp2;go_ret2;exact ⟨rfl,rfl⟩
 | true=>
  have b2:btw late 0 50=false:=by simp[btw] at b1 ⊢;omega
  go_enter func31,ntmps31;go_wp2_with fail;refine (between_is b1 _).mono ?_;rintro e w' ⟨rfl,rfl⟩;go_wp2_with fail;refine (between_is b2 _).mono ?_;rintro e w' ⟨rfl,rfl⟩;go_wp2;go_ret2;exact ⟨rfl,rfl⟩
def less (F:Nat->Prop) (v:Value):Nat->Prop:=fun b=>F b/\v.ownBlock≠some b
section
variable {w : World} {db : Nat} {F : Nat → Prop} {size late now : Nat} {all : List Sg} {lo : Nat}
theorem taken {mb n:Nat} {D:DataW Value} {h:Nat->Value} {w1 w2:World} (d:DeskIn w db mb n D h F size late now all lo) (hT:w.grownBy w1 (some mb)) (hO:w1.ownsMap prog 3 heldV mb n (D.del (.int .i64 (lo:Int)))) (hG:w1.grownBy w2 (h lo).ownBlock) :
  DeskIn w2 db mb n (D.del (.int .i64 (lo:Int))) h (less F (h lo)) size late now all (lo+1) where
 cells:=by rw[hG.block db (Nat.lt_of_lt_of_le d.lt hT.size) (fun e=>(d.rne (Nat.le_refl _) e.symm).1 rfl),hT.block db d.lt (fun e=>d.ne (by simpa using e.symm))];exact d.cells
 own:=hO.kept hG (fun e=>(d.rne (Nat.le_refl _) e.symm).2 rfl)
 room:=d.room
 fd:=⟨d.fd,fun e=>(d.rne (Nat.le_refl _) e).1 rfl⟩
 fm:=⟨d.fm,fun e=>(d.rne (Nat.le_refl _) e).2 rfl⟩
 key:=fun k hk=>by rw[Maps.atKey_del_other (fun e=>by simp at e;omega)];exact d.key k (by omega)
 row:=fun k hk=>own_keep (d.row k (by omega)) (fun b hb=>by
  have hlt:=own_lt (d.row k (by omega)) hb;rw[hG.block b (Nat.lt_of_lt_of_le hlt hT.size) (fun e=>d.apart lo k (Nat.le_refl _) (by omega) (by omega) b e.symm hb),hT.block b hlt (fun e=>(d.rne (by omega) hb).2 (by simpa using e))])
 fr:=fun k b hk hb=>⟨d.fr k b (by omega) hb,fun e=>d.apart lo k (Nat.le_refl _) (by omega) (by omega) b e hb⟩
 apart:=fun k k' hk hk'=>d.apart k k' (by omega) (by omega)
theorem take_any (d:DeskAt w db F size late now all lo) (hlo:lo<=1000) (hal:all.length<=100000) :
  Calls prog 75 #[.pointer (some ⟨db,0,none⟩),.int .i64 (lo:Int)] w fun e w'=>∃ v,e = .returned v/\w'.ownsRow 0 43 4 v (grp size all lo).length (sgcs (sorted (grp size all lo)))/\(∀ b,v.ownBlock=some b->F b/\b<w.heap.size)/\DeskAt w' db (less F v) size late now all (lo+1)/\Kp F w w':=by
 obtain ⟨mb,n,D,h,d⟩:=d.out;have c3:=d.c3;have hown:=d.own;have hkey:=d.key lo (Nat.le_refl _);have HD:Hid (DeskIn w db mb n D h F size late now all lo):=d;clear d;go_enter func75,ntmps75;go_wp2_with (first | (at_lookup;refine wpList_lookup_held _ rfl _ _ 159 rfl 3 123 nilS law3 underlying159 (zero73 _) mb n D rfl hown _ _ rfl (keyOf_int_mk underlying3 (WalkArith.wf_i64 (by omega))) _ hkey ?_) | (at_delete;refine wpList_delete_own _ rfl _ _ 159 3 rfl 123 law3 underlying159 heldV mb n D rfl hown _ _ rfl (keyOf_int_mk underlying3 (WalkArith.wf_i64 (by omega))) ?_;intro w1 hown1 hturn1));have hg1:=hturn1.grown;have hrow:w1.ownsRow 0 43 4 (h lo) (grp size all lo).length (sgcs (grp size all lo)):=own_keep (HD.out.row lo (Nat.le_refl _)) (fun b hb=>hg1.block b (own_lt (HD.out.row lo (Nat.le_refl _)) hb) (fun e=>(HD.out.rne (Nat.le_refl _) hb).2 (by simpa using e)));refine (sort_any (h lo) (grp size all lo) w1 hrow (Nat.le_trans (grp_length _ _ _) hal)).mono ?_;rintro e w2 ⟨rfl,hrow2,hg2⟩;have HR:Hid (w2.ownsRow 0 43 4 (h lo) (grp size all lo).length (sgcs (sorted (grp size all lo)))):=hrow2;have HG:Hid (w1.grownBy w2 (h lo).ownBlock):=hg2;have HT:Hid (w.grownBy w1 (some mb)):=hg1;have HO:Hid (w1.ownsMap prog 3 heldV mb n (D.del (.int .i64 (lo:Int)))):=hown1;clear hrow2 hg2 hg1 hown1 hturn1 hrow hown hkey;go_wp2;go_ret;exact ⟨h lo,rfl,HR.out,fun b hb=>⟨HD.out.fr lo b (Nat.le_refl _) hb,own_lt (HD.out.row lo (Nat.le_refl _)) hb⟩,⟨mb,n,_,h,taken HD.out HT.out HO.out HG.out⟩,(grown_kp HT.out (fun k hk=>by simp at hk;exact hk ▸ HD.out.fm)).trans (grown_kp HG.out (fun k hk=>HD.out.fr lo k (Nat.le_refl _) hk))⟩
end
end EpA
namespace WaB
open Go.RowKit TkW WaM WaW Go.Maps
open RuM (Rl)
structure Ci where
 len:Int
 late:Int
 W:Int
 need:Int
 span:Int
 score:Int
 pl:Nat->Nat->Int
def Ci.dk (x:Ci):Prop:=1<=x.len/\x.len<=50/\0<=x.late/\x.late<=50
def Ci.tk (x:Ci):Prop:=1<=x.W/\x.W<=8/\1<=x.need/\x.need<=x.W
def Ci.ik (x:Ci):Prop:=1<=x.span/\x.span<=8/\1<=x.score/\x.score<=x.span
def Ci.ok (x:Ci):Prop:=x.dk/\x.tk/\x.ik/\plOk x.pl
def Fl (x:Ci) (rs:List Rl) (n:Nat):Prop:=(¬ x.ok/\n=1)\/(x.ok/\Ck rs n)
theorem Fl.uniq {x:Ci} {rs:List Rl} {n m:Nat} (h:Fl x rs n) (h':Fl x rs m):n=m:=by
 rcases h with ⟨h1,h2⟩ | ⟨h1,h2⟩<;>rcases h' with ⟨k1,k2⟩ | ⟨k1,k2⟩
 ·omega
 ·exact absurd k1 h1
 ·exact absurd h1 k1
 ·exact h2.uniq k2
theorem Fl.ex (x:Ci) (rs:List Rl):∃ n,Fl x rs n:=by
 by_cases h:x.ok
 ·obtain ⟨n,hn⟩:=Ck.ex rs;exact ⟨n,Or.inr ⟨h,hn⟩⟩
 ·exact ⟨1,Or.inl ⟨h,rfl⟩⟩
def cfw (x:Ci):Array Value:=#[.int .i64 x.len,.int .i64 x.late,.int .i64 x.W,.int .i64 x.need,.int .i64 x.span,.int .i64 x.score,.int .i64 (x.pl 0 0),.int .i64 (x.pl 0 1),.int .i64 (x.pl 0 2),.int .i64 (x.pl 0 3),.int .i64 (x.pl 1 0),.int .i64 (x.pl 1 1),.int .i64 (x.pl 1 2),.int .i64 (x.pl 1 3),.int .i64 (x.pl 2 0),.int .i64 (x.pl 2 1),.int .i64 (x.pl 2 2),.int .i64 (x.pl 2 3),.int .i64 (x.pl 3 0),.int .i64 (x.pl 3 1),.int .i64 (x.pl 3 2),.int .i64 (x.pl 3 3)]
def Cf.ci (c:Cf):Ci:=⟨c.len,c.late,c.W,c.need,c.span,c.score,c.pl⟩
theorem Ci.ok.cf {x:Ci} (h:x.ok):∃ c:Cf,c.Ok/\Cf.ci c=x:=by
 obtain ⟨⟨a1,a2,a3,a4⟩,⟨b1,b2,b3,b4⟩,⟨c1,c2,c3,c4⟩,hp⟩:=h;obtain ⟨len,late,W,need,span,score,pl⟩:=x;simp only at a1 a2 a3 a4 b1 b2 b3 b4 c1 c2 c3 c4;refine ⟨⟨len.toNat,late.toNat,W.toNat,need.toNat,span.toNat,score.toNat,pl⟩,⟨?_,?_,?_,?_,?_,?_,?_,?_,?_,?_,?_,hp⟩,?_⟩
 any_goals (simp only;omega)
 simp only[Cf.ci,Ci.mk.injEq,and_true];omega
theorem cf_cell {V:World} {b:Nat} {x:Ci} (h:V.heap[b]?=some (.cells (cfw x) 25)) (i:Nat) (v:Value) (hv:(cfw x)[i]?=some v):V.cell? ⟨b,i,none⟩=some v:=by simp only[World.cell?,h,Option.isSome_none,Bool.false_eq_true,if_false];exact hv
theorem new_bad1 (x:Ci) (v:Value) (w:World) (h:¬ x.dk) :
  Calls prog 10 #[.agg (cfw x),v] w fun e w'=>e = .returned (.tuple #[.pointer none,.iface 105 (.int .i64 1)])/\Below w.heap.size w w':=by
 have HD:Hid (∀ V,Calls prog 31 #[.int .i64 x.len,.int .i64 x.late] V fun e w'=>e = .returned (.tuple #[.pointer none,.iface 105 (.int .i64 1)])/\w'=V):=fun V=>EpA.new_bad x.len x.late V h;have HB0:Hid (∀ o,Below w.heap.size w (w.alloc o)):=fun o=>(Below.refl _ _).alloc (Nat.le_refl _) o;obtain ⟨len,late,W,need,span,score,pl⟩:=x;unfold cfw;simp only at HD ⊢;clear h;go_enter func10,ntmps10;go_wp2_with fail;refine (HD.out _).mono ?_;rintro e w1 ⟨rfl,rfl⟩;go_wp2;go_ret2;exact ⟨rfl,HB0.out _⟩
theorem new_bad2 (x:Ci) (v:Value) (w:World) (hd:x.dk) (h:¬ x.tk) :
  Calls prog 10 #[.agg (cfw x),v] w fun e w'=>e = .returned (.tuple #[.pointer none,.iface 105 (.int .i64 1)])/\Below w.heap.size w w':=by
 have HD:Hid (∀ V:World,Calls prog 31 #[.int .i64 x.len,.int .i64 x.late] V fun e w'=>e = .returned (.tuple #[.pointer (some ⟨V.heap.size+1,0,none⟩),.nilIface])/\Below V.heap.size V w'):=fun V=>by
  have e1:x.len=(x.len.toNat:Int):=by have:=hd.1;omega
  have e2:x.late=(x.late.toNat:Int):=by have:=hd.2.2.1;omega
  rw[e1,e2];refine (EpA.new_ok x.len.toNat x.late.toNat V (by have:=hd.1;omega) (by have:=hd.2.1;omega) (by have:=hd.2.2.2;omega)).mono ?_;rintro e w' ⟨rfl,h1,h2,h3⟩;exact ⟨rfl,h3⟩
 have HT:Hid (∀ V,Calls prog 32 #[.int .i64 x.W,.int .i64 x.need] V fun e w'=>e = .returned (.tuple #[.pointer none,.iface 105 (.int .i64 1)])/\w'=V):=fun V=>TkA.new_bad x.W x.need V h;have HB0:Hid (∀ o,Below w.heap.size w (w.alloc o)):=fun o=>(Below.refl _ _).alloc (Nat.le_refl _) o;have HCF:Hid (∀ w':World,Below (w.alloc (.cells (cfw x) 25)).heap.size (w.alloc (.cells (cfw x) 25)) w'->w'.heap[w.heap.size]?=some (.cells (cfw x) 25)):=fun w' hb=>(hb.block w.heap.size (by simp)).trans (Go.heap_alloc_new w _);obtain ⟨len,late,W,need,span,score,pl⟩:=x;unfold cfw;simp only at HD HT ⊢;clear h hd;go_enter func10,ntmps10;go_wp2_with fail;refine (HD.out _).mono ?_;rintro e w1 ⟨rfl,hb1⟩;have hcf:=HCF.out w1 hb1;have c2:w1.cell? ⟨w.heap.size,2,none⟩=some (.int .i64 W):=cf_cell hcf 2 _ rfl;have c3:w1.cell? ⟨w.heap.size,3,none⟩=some (.int .i64 need):=cf_cell hcf 3 _ rfl;have HB1:Hid (Below w.heap.size w w1):=(HB0.out _).trans (hb1.mono (HB0.out _).size);clear hcf hb1;go_wp2_with fail;refine (HT.out _).mono ?_;rintro e w2 ⟨rfl,rfl⟩;go_wp2;go_ret2;exact ⟨rfl,HB1.out⟩
theorem new_bad3 (x:Ci) (v:Value) (w:World) (hd:x.dk) (ht:x.tk) (h:¬ x.ik) :
  Calls prog 10 #[.agg (cfw x),v] w fun e w'=>e = .returned (.tuple #[.pointer none,.iface 105 (.int .i64 1)])/\Below w.heap.size w w':=by
 have HD:Hid (∀ V:World,Calls prog 31 #[.int .i64 x.len,.int .i64 x.late] V fun e w'=>e = .returned (.tuple #[.pointer (some ⟨V.heap.size+1,0,none⟩),.nilIface])/\Below V.heap.size V w'):=fun V=>by
  have e1:x.len=(x.len.toNat:Int):=by have:=hd.1;omega
  have e2:x.late=(x.late.toNat:Int):=by have:=hd.2.2.1;omega
  rw[e1,e2];refine (EpA.new_ok x.len.toNat x.late.toNat V (by have:=hd.1;omega) (by have:=hd.2.1;omega) (by have:=hd.2.2.2;omega)).mono ?_;rintro e w' ⟨rfl,h1,h2,h3⟩;exact ⟨rfl,h3⟩
 have HT:Hid (∀ V:World,Calls prog 32 #[.int .i64 x.W,.int .i64 x.need] V fun e w'=>e = .returned (.tuple #[.pointer (some ⟨V.heap.size+1,0,none⟩),.nilIface])/\Below V.heap.size V w'):=fun V=>by
  have e1:x.W=(x.W.toNat:Int):=by have:=ht.1;omega
  have e2:x.need=(x.need.toNat:Int):=by have:=ht.2.2.1;omega
  rw[e1,e2];refine (TkA.new_ok x.W.toNat x.need.toNat V (by have:=ht.1;omega) (by have:=ht.2.1;omega) (by have:=ht.2.2.1;omega) (by have:=ht.2.2.2;omega)).mono ?_;rintro e w' ⟨rfl,h1,h2,h3⟩;exact ⟨rfl,h3⟩
 have HI:Hid (∀ tb V,Calls prog 33 #[.pointer (some ⟨tb,0,none⟩),.int .i64 x.span,.int .i64 x.score] V fun e w'=>e = .returned (.tuple #[.pointer none,.iface 105 (.int .i64 1)])/\w'=V):=fun tb V=>InA.inNew_bad tb x.span x.score V h;have HB0:Hid (∀ o,Below w.heap.size w (w.alloc o)):=fun o=>(Below.refl _ _).alloc (Nat.le_refl _) o;have HCF:Hid (∀ w':World,Below (w.alloc (.cells (cfw x) 25)).heap.size (w.alloc (.cells (cfw x) 25)) w'->w'.heap[w.heap.size]?=some (.cells (cfw x) 25)):=fun w' hb=>(hb.block w.heap.size (by simp)).trans (Go.heap_alloc_new w _);obtain ⟨len,late,W,need,span,score,pl⟩:=x;unfold cfw;simp only at HD HT HI ⊢;clear h hd ht;go_enter func10,ntmps10;go_wp2_with fail;refine (HD.out _).mono ?_;rintro e w1 ⟨rfl,hb1⟩;have HA1:Hid (Below _ _ w1):=hb1;have hcf:=HCF.out w1 HA1.out;have c2:w1.cell? ⟨w.heap.size,2,none⟩=some (.int .i64 W):=cf_cell hcf 2 _ rfl;have c3:w1.cell? ⟨w.heap.size,3,none⟩=some (.int .i64 need):=cf_cell hcf 3 _ rfl;clear hcf hb1;go_wp2_with fail;refine (HT.out _).mono ?_;rintro e w2 ⟨rfl,hb2⟩;have HA2:Hid (Below _ _ w2):=HA1.out.trans (hb2.mono HA1.out.size);have hcf:=HCF.out w2 HA2.out;have c4:w2.cell? ⟨w.heap.size,4,none⟩=some (.int .i64 span):=cf_cell hcf 4 _ rfl;have c5:w2.cell? ⟨w.heap.size,5,none⟩=some (.int .i64 score):=cf_cell hcf 5 _ rfl;clear hcf hb2 c2 c3;go_wp2_with fail;refine (HI.out _ _).mono ?_;rintro e w3 ⟨rfl,rfl⟩;go_wp2;go_ret2;exact ⟨rfl,(HB0.out _).trans (HA2.out.mono (HB0.out _).size)⟩
theorem new_bad4 (x:Ci) (v:Value) (w:World) (hd:x.dk) (ht:x.tk) (hi:x.ik) (h:¬ plOk x.pl) :
  Calls prog 10 #[.agg (cfw x),v] w fun e w'=>e = .returned (.tuple #[.pointer none,.iface 105 (.int .i64 1)])/\Below w.heap.size w w':=by
 have HD:Hid (∀ V:World,Calls prog 31 #[.int .i64 x.len,.int .i64 x.late] V fun e w'=>e = .returned (.tuple #[.pointer (some ⟨V.heap.size+1,0,none⟩),.nilIface])/\Below V.heap.size V w'):=fun V=>by
  have e1:x.len=(x.len.toNat:Int):=by have:=hd.1;omega
  have e2:x.late=(x.late.toNat:Int):=by have:=hd.2.2.1;omega
  rw[e1,e2];refine (EpA.new_ok x.len.toNat x.late.toNat V (by have:=hd.1;omega) (by have:=hd.2.1;omega) (by have:=hd.2.2.2;omega)).mono ?_;rintro e w' ⟨rfl,h1,h2,h3⟩;exact ⟨rfl,h3⟩
 have HT:Hid (∀ V:World,Calls prog 32 #[.int .i64 x.W,.int .i64 x.need] V fun e w'=>e = .returned (.tuple #[.pointer (some ⟨V.heap.size+1,0,none⟩),.nilIface])/\Below V.heap.size V w'):=fun V=>by
  have e1:x.W=(x.W.toNat:Int):=by have:=ht.1;omega
  have e2:x.need=(x.need.toNat:Int):=by have:=ht.2.2.1;omega
  rw[e1,e2];refine (TkA.new_ok x.W.toNat x.need.toNat V (by have:=ht.1;omega) (by have:=ht.2.1;omega) (by have:=ht.2.2.1;omega) (by have:=ht.2.2.2;omega)).mono ?_;rintro e w' ⟨rfl,h1,h2,h3⟩;exact ⟨rfl,h3⟩
 have HI:Hid (∀ (tb:Nat) (V:World),Calls prog 33 #[.pointer (some ⟨tb,0,none⟩),.int .i64 x.span,.int .i64 x.score] V fun e w'=>e = .returned (.tuple #[.pointer (some ⟨V.heap.size,0,none⟩),.nilIface])/\Below V.heap.size V w'):=fun tb V=>by
  have e1:x.span=(x.span.toNat:Int):=by have:=hi.1;omega
  have e2:x.score=(x.score.toNat:Int):=by have:=hi.2.2.1;omega
  rw[e1,e2];refine (InA.inNew_ok tb x.span.toNat x.score.toNat V (by have:=hi.1;omega) (by have:=hi.2.1;omega) (by have:=hi.2.2.1;omega) (by have:=hi.2.2.2;omega)).mono ?_;rintro e w' ⟨rfl,h1,h2,h3⟩;exact ⟨rfl,h3⟩
 have HP:Hid (∀ V:World,Calls prog 34 #[.agg (plw x.pl)] V fun e w'=>e = .returned (.bool false)/\Below V.heap.size V w'):=fun V=>arePlaces_is x.pl (b:=false) (by constructor<;>intro k;cases k;exact absurd k h) V;have HB0:Hid (∀ o,Below w.heap.size w (w.alloc o)):=fun o=>(Below.refl _ _).alloc (Nat.le_refl _) o;have HCF:Hid (∀ w':World,Below (w.alloc (.cells (cfw x) 25)).heap.size (w.alloc (.cells (cfw x) 25)) w'->w'.heap[w.heap.size]?=some (.cells (cfw x) 25)):=fun w' hb=>(hb.block w.heap.size (by simp)).trans (Go.heap_alloc_new w _);obtain ⟨len,late,W,need,span,score,pl⟩:=x;unfold cfw;unfold plw at HP;simp only at HD HT HI HP ⊢;clear h hd ht hi;go_enter func10,ntmps10;go_wp2_with fail;refine (HD.out _).mono ?_;rintro e w1 ⟨rfl,hb1⟩;have HA1:Hid (Below _ _ w1):=hb1;have hcf:=HCF.out w1 HA1.out;have c2:w1.cell? ⟨w.heap.size,2,none⟩=some (.int .i64 W):=cf_cell hcf 2 _ rfl;have c3:w1.cell? ⟨w.heap.size,3,none⟩=some (.int .i64 need):=cf_cell hcf 3 _ rfl;clear hcf hb1;go_wp2_with fail;refine (HT.out _).mono ?_;rintro e w2 ⟨rfl,hb2⟩;have HA2:Hid (Below _ _ w2):=HA1.out.trans (hb2.mono HA1.out.size);have hcf:=HCF.out w2 HA2.out;have c4:w2.cell? ⟨w.heap.size,4,none⟩=some (.int .i64 span):=cf_cell hcf 4 _ rfl;have c5:w2.cell? ⟨w.heap.size,5,none⟩=some (.int .i64 score):=cf_cell hcf 5 _ rfl;clear hcf hb2 c2 c3;go_wp2_with fail;refine (HI.out _ _).mono ?_;rintro e w3 ⟨rfl,hb3⟩;have HA3:Hid (Below _ _ w3):=HA2.out.trans (hb3.mono HA2.out.size);have hcf:=HCF.out w3 HA3.out;have c6:w3.cell? ⟨w.heap.size,6,none⟩=some (.int .i64 (pl 0 0)):=cf_cell hcf 6 _ rfl;have c7:w3.cell? ⟨w.heap.size,7,none⟩=some (.int .i64 (pl 0 1)):=cf_cell hcf 7 _ rfl;have c8:w3.cell? ⟨w.heap.size,8,none⟩=some (.int .i64 (pl 0 2)):=cf_cell hcf 8 _ rfl;have c9:w3.cell? ⟨w.heap.size,9,none⟩=some (.int .i64 (pl 0 3)):=cf_cell hcf 9 _ rfl;have c10:w3.cell? ⟨w.heap.size,10,none⟩=some (.int .i64 (pl 1 0)):=cf_cell hcf 10 _ rfl;have c11:w3.cell? ⟨w.heap.size,11,none⟩=some (.int .i64 (pl 1 1)):=cf_cell hcf 11 _ rfl;have c12:w3.cell? ⟨w.heap.size,12,none⟩=some (.int .i64 (pl 1 2)):=cf_cell hcf 12 _ rfl;have c13:w3.cell? ⟨w.heap.size,13,none⟩=some (.int .i64 (pl 1 3)):=cf_cell hcf 13 _ rfl;have c14:w3.cell? ⟨w.heap.size,14,none⟩=some (.int .i64 (pl 2 0)):=cf_cell hcf 14 _ rfl;have c15:w3.cell? ⟨w.heap.size,15,none⟩=some (.int .i64 (pl 2 1)):=cf_cell hcf 15 _ rfl;have c16:w3.cell? ⟨w.heap.size,16,none⟩=some (.int .i64 (pl 2 2)):=cf_cell hcf 16 _ rfl;have c17:w3.cell? ⟨w.heap.size,17,none⟩=some (.int .i64 (pl 2 3)):=cf_cell hcf 17 _ rfl;have c18:w3.cell? ⟨w.heap.size,18,none⟩=some (.int .i64 (pl 3 0)):=cf_cell hcf 18 _ rfl;have c19:w3.cell? ⟨w.heap.size,19,none⟩=some (.int .i64 (pl 3 1)):=cf_cell hcf 19 _ rfl;have c20:w3.cell? ⟨w.heap.size,20,none⟩=some (.int .i64 (pl 3 2)):=cf_cell hcf 20 _ rfl;have c21:w3.cell? ⟨w.heap.size,21,none⟩=some (.int .i64 (pl 3 3)):=cf_cell hcf 21 _ rfl;clear hcf hb3 c4 c5;go_wp2_with fail;refine (HP.out _).mono ?_;rintro e w4 ⟨rfl,hb4⟩;have HA4:Hid (Below _ _ w4):=HA3.out.trans (hb4.mono HA3.out.size);clear hb4;clear c6 c7 c8 c9 c10 c11 c12 c13 c14 c15 c16 c17 c18 c19 c20 c21;go_wp2;go_ret2;exact ⟨rfl,(HB0.out _).trans (HA4.out.mono (HB0.out _).size)⟩
theorem new_bad5 (x:Ci) (rs:List Rl) (q:Option Addr) (cap:Nat) {n:Nat} (w:World) (hd:x.dk) (ht:x.tk) (hi:x.ik) (hp:plOk x.pl) (hn:Ck rs n) (hn0:n≠0) (hr:RsOn w q rs) (hsz:∀ r,r ∈ rs->r.nm.size<=9223372036854775807) (hc:rs.length<=cap) (hl:rs.length<=9223372036854775807) :
  Calls prog 10 #[.agg (cfw x),.slice q rs.length cap] w fun e w'=>e = .returned (.tuple #[.pointer none,.iface 105 (.int .i64 (n:Int))])/\Below w.heap.size w w':=by
 have HD:Hid (∀ V:World,Calls prog 31 #[.int .i64 x.len,.int .i64 x.late] V fun e w'=>e = .returned (.tuple #[.pointer (some ⟨V.heap.size+1,0,none⟩),.nilIface])/\Below V.heap.size V w'):=fun V=>by
  have e1:x.len=(x.len.toNat:Int):=by have:=hd.1;omega
  have e2:x.late=(x.late.toNat:Int):=by have:=hd.2.2.1;omega
  rw[e1,e2];refine (EpA.new_ok x.len.toNat x.late.toNat V (by have:=hd.1;omega) (by have:=hd.2.1;omega) (by have:=hd.2.2.2;omega)).mono ?_;rintro e w' ⟨rfl,h1,h2,h3⟩;exact ⟨rfl,h3⟩
 have HT:Hid (∀ V:World,Calls prog 32 #[.int .i64 x.W,.int .i64 x.need] V fun e w'=>e = .returned (.tuple #[.pointer (some ⟨V.heap.size+1,0,none⟩),.nilIface])/\Below V.heap.size V w'):=fun V=>by
  have e1:x.W=(x.W.toNat:Int):=by have:=ht.1;omega
  have e2:x.need=(x.need.toNat:Int):=by have:=ht.2.2.1;omega
  rw[e1,e2];refine (TkA.new_ok x.W.toNat x.need.toNat V (by have:=ht.1;omega) (by have:=ht.2.1;omega) (by have:=ht.2.2.1;omega) (by have:=ht.2.2.2;omega)).mono ?_;rintro e w' ⟨rfl,h1,h2,h3⟩;exact ⟨rfl,h3⟩
 have HI:Hid (∀ (tb:Nat) (V:World),Calls prog 33 #[.pointer (some ⟨tb,0,none⟩),.int .i64 x.span,.int .i64 x.score] V fun e w'=>e = .returned (.tuple #[.pointer (some ⟨V.heap.size,0,none⟩),.nilIface])/\Below V.heap.size V w'):=fun tb V=>by
  have e1:x.span=(x.span.toNat:Int):=by have:=hi.1;omega
  have e2:x.score=(x.score.toNat:Int):=by have:=hi.2.2.1;omega
  rw[e1,e2];refine (InA.inNew_ok tb x.span.toNat x.score.toNat V (by have:=hi.1;omega) (by have:=hi.2.1;omega) (by have:=hi.2.2.1;omega) (by have:=hi.2.2.2;omega)).mono ?_;rintro e w' ⟨rfl,h1,h2,h3⟩;exact ⟨rfl,h3⟩
 have HP:Hid (∀ V:World,Calls prog 34 #[.agg (plw x.pl)] V fun e w'=>e = .returned (.bool true)/\Below V.heap.size V w'):=fun V=>arePlaces_is x.pl (b:=true) (by simp[hp]) V
 have HR:Hid (∀ V:World,Below w.heap.size w V->Calls prog 35 #[.slice q rs.length cap] V fun e w'=>e = .returned (.iface 105 (.int .i64 (n:Int)))/\Below V.heap.size V w'):=fun V hb=>by
  have h1:=checkRules_is rs q cap hn V (hr.below hb) hsz hc hl;have ee:RuA.errV n = .iface 105 (.int .i64 (n:Int)):=by unfold RuA.errV;rw[if_neg hn0]
  rw[ee] at h1;exact h1
 have HB0:Hid (∀ o,Below w.heap.size w (w.alloc o)):=fun o=>(Below.refl _ _).alloc (Nat.le_refl _) o;have HCF:Hid (∀ w':World,Below (w.alloc (.cells (cfw x) 25)).heap.size (w.alloc (.cells (cfw x) 25)) w'->w'.heap[w.heap.size]?=some (.cells (cfw x) 25)):=fun w' hb=>(hb.block w.heap.size (by simp)).trans (Go.heap_alloc_new w _);obtain ⟨len,late,W,need,span,score,pl⟩:=x;unfold cfw;unfold plw at HP;simp only at HD HT HI HP ⊢;generalize rs.length=m at *;clear hd ht hi hp hn hn0 hr hsz hc hl;go_enter func10,ntmps10;go_wp2_with fail;refine (HD.out _).mono ?_;rintro e w1 ⟨rfl,hb1⟩;have HA1:Hid (Below _ _ w1):=hb1;have hcf:=HCF.out w1 HA1.out;have c2:w1.cell? ⟨w.heap.size,2,none⟩=some (.int .i64 W):=cf_cell hcf 2 _ rfl;have c3:w1.cell? ⟨w.heap.size,3,none⟩=some (.int .i64 need):=cf_cell hcf 3 _ rfl;clear hcf hb1;go_wp2_with fail;refine (HT.out _).mono ?_;rintro e w2 ⟨rfl,hb2⟩;have HA2:Hid (Below _ _ w2):=HA1.out.trans (hb2.mono HA1.out.size);have hcf:=HCF.out w2 HA2.out;have c4:w2.cell? ⟨w.heap.size,4,none⟩=some (.int .i64 span):=cf_cell hcf 4 _ rfl;have c5:w2.cell? ⟨w.heap.size,5,none⟩=some (.int .i64 score):=cf_cell hcf 5 _ rfl;clear hcf hb2 c2 c3;go_wp2_with fail;refine (HI.out _ _).mono ?_;rintro e w3 ⟨rfl,hb3⟩;have HA3:Hid (Below _ _ w3):=HA2.out.trans (hb3.mono HA2.out.size);have hcf:=HCF.out w3 HA3.out;have c6:w3.cell? ⟨w.heap.size,6,none⟩=some (.int .i64 (pl 0 0)):=cf_cell hcf 6 _ rfl;have c7:w3.cell? ⟨w.heap.size,7,none⟩=some (.int .i64 (pl 0 1)):=cf_cell hcf 7 _ rfl;have c8:w3.cell? ⟨w.heap.size,8,none⟩=some (.int .i64 (pl 0 2)):=cf_cell hcf 8 _ rfl;have c9:w3.cell? ⟨w.heap.size,9,none⟩=some (.int .i64 (pl 0 3)):=cf_cell hcf 9 _ rfl;have c10:w3.cell? ⟨w.heap.size,10,none⟩=some (.int .i64 (pl 1 0)):=cf_cell hcf 10 _ rfl;have c11:w3.cell? ⟨w.heap.size,11,none⟩=some (.int .i64 (pl 1 1)):=cf_cell hcf 11 _ rfl;have c12:w3.cell? ⟨w.heap.size,12,none⟩=some (.int .i64 (pl 1 2)):=cf_cell hcf 12 _ rfl;have c13:w3.cell? ⟨w.heap.size,13,none⟩=some (.int .i64 (pl 1 3)):=cf_cell hcf 13 _ rfl;have c14:w3.cell? ⟨w.heap.size,14,none⟩=some (.int .i64 (pl 2 0)):=cf_cell hcf 14 _ rfl;have c15:w3.cell? ⟨w.heap.size,15,none⟩=some (.int .i64 (pl 2 1)):=cf_cell hcf 15 _ rfl;have c16:w3.cell? ⟨w.heap.size,16,none⟩=some (.int .i64 (pl 2 2)):=cf_cell hcf 16 _ rfl;have c17:w3.cell? ⟨w.heap.size,17,none⟩=some (.int .i64 (pl 2 3)):=cf_cell hcf 17 _ rfl;have c18:w3.cell? ⟨w.heap.size,18,none⟩=some (.int .i64 (pl 3 0)):=cf_cell hcf 18 _ rfl;have c19:w3.cell? ⟨w.heap.size,19,none⟩=some (.int .i64 (pl 3 1)):=cf_cell hcf 19 _ rfl;have c20:w3.cell? ⟨w.heap.size,20,none⟩=some (.int .i64 (pl 3 2)):=cf_cell hcf 20 _ rfl;have c21:w3.cell? ⟨w.heap.size,21,none⟩=some (.int .i64 (pl 3 3)):=cf_cell hcf 21 _ rfl;clear hcf hb3 c4 c5;go_wp2_with fail;refine (HP.out _).mono ?_;rintro e w4 ⟨rfl,hb4⟩;have HA4:Hid (Below _ _ w4):=HA3.out.trans (hb4.mono HA3.out.size);clear hb4;clear c6 c7 c8 c9 c10 c11 c12 c13 c14 c15 c16 c17 c18 c19 c20 c21;go_wp2_with fail;refine (HR.out _ ((HB0.out _).trans (HA4.out.mono (HB0.out _).size))).mono ?_;rintro e w5 ⟨rfl,hb5⟩;have HB5:Hid (Below w.heap.size w w5):=((HB0.out _).trans (HA4.out.mono (HB0.out _).size)).trans (hb5.mono ((HB0.out _).trans (HA4.out.mono (HB0.out _).size)).size);clear hb5;go_wp2;go_ret2;exact ⟨rfl,HB5.out⟩
end WaB
end Go.Proofs.YtmolafjalaeoaaaGreatDoor
