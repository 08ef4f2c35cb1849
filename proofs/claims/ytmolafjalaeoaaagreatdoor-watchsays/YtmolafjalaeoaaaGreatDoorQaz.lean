/-
  EpF
-/
import Derived.Test.YtmolafjalaeoaaaGreatDoorQay
set_option maxRecDepth 100000
set_option maxHeartbeats 8000000
namespace Go.Proofs.YtmolafjalaeoaaaGreatDoor
open Tryz
namespace EpA
open TkM (Sg)
open Tk0
open Go.RowKit EpM EpW TkW Go.Maps
theorem info61:(prog.info? 43).map (fun i=>(i.zero,i.size,i.bytes))=some (some (.agg #[.int .i64 0,.int .i64 0,.int .i64 0,.string ⟨#[]⟩]),4,40):=by kernel_rfl
def more (F:Nat->Prop) (w w':World):Nat->Prop:=fun b=>F b\/(w.heap.size<=b/\b<w'.heap.size)
section
variable {w : World} {db : Nat} {F : Nat → Prop} {size late now : Nat} {all : List Sg} {lo : Nat}
theorem add_bad (x:Sg) (d:DeskAt w db F size late now all lo) (hx:okS now x=false) (ht:x.g.size<=maxLen) :
  Calls prog 123 #[.pointer (some ⟨db,0,none⟩),.agg #[.int .i64 x.p,.int .i64 x.s,.int .i64 x.t,.string x.g]] w fun e w'=>e = .returned (.iface 105 (.int .i64 1))/\Below w.heap.size w w':=by
 have HD:Hid (∀ o,DeskAt (w.alloc o) db F size late now all lo):=fun o=>d.below ((Below.refl _ w).alloc (Nat.le_refl _) o);have hi:∀ W,DeskAt W db F size late now all lo->Calls prog 145 #[.pointer (some ⟨db,0,none⟩),.agg #[.int .i64 x.p,.int .i64 x.s,.int .i64 x.t,.string x.g]] W fun e w'=>e = .returned (.bool false)/\Below W.heap.size W w':=fun W dW=>hx ▸ isSight_any x dW ht;clear d hx;go_enter func123,ntmps123;go_wp2_with fail;refine (hi _ (HD.out _)).mono ?_;rintro e w1 ⟨rfl,hb⟩;have HB:Hid (Below w.heap.size w w1):=((Below.refl _ w).alloc (Nat.le_refl _) _).trans (hb.mono (by simp));clear hb;go_wp2;go_ret;exact ⟨rfl,HB.out⟩
theorem add_late (x:Sg) (d:DeskAt w db F size late now all lo) (h0 : 0<size) (h1:size<=50) (h2:late<=50) (h3:now<=1000) (hx:okS now x=true) (hl:epo size x<closedN size late now) :
  Calls prog 123 #[.pointer (some ⟨db,0,none⟩),.agg #[.int .i64 x.p,.int .i64 x.s,.int .i64 x.t,.string x.g]] w fun e w'=>e = .returned (.iface 105 (.int .i64 6))/\Below w.heap.size w w':=by
 have mixed:prog.follows .mixedOrders=true:=by kernel_rfl
 have ok:=okS_iff.1 hx;have ht:x.g.size<=maxLen:=by have:=ok.g;unfold maxLen;omega
 obtain ⟨T,hT⟩:∃ T:Nat,x.t=(T:Int):=⟨x.t.toNat,by have:=ok.t0;omega⟩;obtain ⟨k,hk⟩:∃ k,k=epo size x:=⟨_,rfl⟩;obtain ⟨c,hc⟩:∃ c,c=closedN size late now:=⟨_,rfl⟩;have hkT:((T:Int)/(size:Int))=(k:Int):=by rw[hk];unfold epo;rw[hT];simp
 rw[<- hk,<- hc] at hl;have hlI:(k:Int)<c:=by omega
 have hc9:c<=1000:=by rw[hc];exact Nat.le_trans closedN_le h3
 have hk9:(k:Int)<=1000:=by omega
 have HC:Hid (c=closedN size late now):=hc;have HD:Hid (DeskAt w db F size late now all lo):=d;have hdb:=d.lt;have c0:w.cell? ⟨db,0,none⟩=some (.int .i64 (size:Int)):=by obtain ⟨mb,m,D,h,d⟩:=d.out;exact d.c0
 have HI:Hid (∀ W,DeskAt W db F size late now all lo->Calls prog 145 #[.pointer (some ⟨db,0,none⟩),.agg #[.int .i64 x.p,.int .i64 x.s,.int .i64 x.t,.string x.g]] W fun e w'=>e = .returned (.bool true)/\Below W.heap.size W w'):=fun W dW=>hx ▸ isSight_any x dW ht;clear d hk hc hx ok;obtain ⟨xp,xs,xt,xg⟩:=x;simp only at hT HI ⊢;subst hT;have hn:((size:Int) == 0)=false:=by simp;omega
 go_enter func123,ntmps123;go_wp2_with fail;refine (HI.out _ (HD.out.below ((Below.refl _ w).alloc (Nat.le_refl _) _))).mono ?_;rintro e w1 ⟨rfl,hb⟩;have HB:Hid (Below w.heap.size w w1):=((Below.refl _ w).alloc (Nat.le_refl _) _).trans (hb.mono (by simp));have e0:w1.cell? ⟨db,0,none⟩=some (.int .i64 (size:Int)):=by rw[HB.out.cell hdb];exact c0
 have e2:w1.cell? ⟨w.heap.size,2,none⟩=some (.int .i64 (T:Int)):=by rw[hb.cell (by simp)];simp
 clear hb;go_wp2;go_quiet (fail);go_wp2_with fail;have HD2:Hid (DeskAt (w1.drewN nq) db F size late now all lo):=(HD.out.below HB.out).below (drewN_below _ _);refine (closed_is HC.out HD2.out h0 h1 h2 h3).mono ?_;rintro e w2 ⟨rfl,q2,rfl⟩;go_wp2;go_ret;exact ⟨rfl,HB.out.trans ((drewN_below _ _).mono HB.out.size)⟩
theorem lookup_run {V:World} {mb n:Nat} {D:DataW Value} (hown:V.ownsMap prog 3 heldV mb n D) {k:Nat} (hk:k<=1000) {v:Value} (hv:D.atKey (.int .i64 (k:Int)) (.held nilS) = .held v) :
  (Instr.lookup 159 (.map (some mb)) (.int .i64 (k:Int)) false).run prog V = .ok v V:=by
 obtain ⟨u,ps,hrun,hR⟩:=hown.lookup law3 underlying159 (zero73 V) (zd:=.held nilS) (zp:=[]) rfl (keyOf_int_mk underlying3 (WalkArith.wf_i64 (n:=(k:Int)) (by omega)));rw[hv] at hR;unfold heldV at hR;simp at hR;obtain ⟨rfl,_⟩:=hR;exact hrun
theorem keyLit (k:Nat):WideAt.IsKeyLit (.int .i64 (k:Int)):=by simp[WideAt.IsKeyLit]
theorem added {W U V w4:World} {mb m:Nat} {D:DataW Value} {h:Nat->Value} {c k g cap:Nat} {x:Sg} (d:DeskIn W db mb m D h F size late now all c) (hk:k=epo size x) (hck:c<=k)
  (hU:Below W.heap.size W U) (ho:V.ownsRow 0 43 4 (.slice (some ⟨g,0,none⟩) ((grp size all k).length+1) cap) ((grp size all k).length+1) (sgcs (grp size all k) ++ [.int .i64 x.p,.int .i64 x.s,.int .i64 x.t,.string x.g]))
  (hV:U.grownBy V (h k).ownBlock) (hat:(h k).ownBlock=some g\/g=U.heap.size) (h4:V.grownBy w4 (some mb)) (hm:w4.ownsMap prog 3 heldV mb (m+1) (D.put (.int .i64 (k:Int)) (.held (.slice (some ⟨g,0,none⟩) ((grp size all k).length+1) cap))))
  (hw:w.heap.size<=W.heap.size):DeskIn w4 db mb (m+1) (D.put (.int .i64 (k:Int)) (.held (.slice (some ⟨g,0,none⟩) ((grp size all k).length+1) cap))) (fun j=>if j=k then .slice (some ⟨g,0,none⟩) ((grp size all k).length+1) cap else h j) (more F w w4) size late now (all ++ [x]) c:=by
 have hsz1:=hU.size;have hsz2:=hV.size;have hsz3:=h4.size;have hg:g<V.heap.size:=own_lt ho rfl
 have hgm:g≠mb:=by
  intro e;rcases hat with hat | hat
  ·exact (d.rne hck hat).2 e
  ·have:=d.mlt;omega
 have old:∀ b,b<W.heap.size->b≠mb->(h k).ownBlock≠some b->w4.heap[b]?=W.heap[b]?:=fun b h1 h2 h3=>by rw[h4.block b (by omega) (fun e=>h2 (by simpa using e)),hV.block b (by omega) (fun e=>h3 e.symm),hU.block b h1]
 refine ⟨?_,hm,?_,Or.inl d.fd,Or.inl d.fm,?_,?_,?_,?_⟩
 ·rw[old db d.lt (fun e=>d.ne e.symm) (fun e=>(d.rne hck e).1 rfl)];exact d.cells
 ·have:=d.room;simp;omega
 ·intro j hj;by_cases hjk:j=k
  ·subst hjk;rw[if_pos rfl,Maps.atKey_put_same d.own.isMap (keyLit j)]
  ·rw[if_neg hjk,Maps.atKey_put_other (fun e=>hjk (by simp at e;omega))];exact d.key j hj
 ·intro j hj;by_cases hjk:j=k
  ·subst hjk;rw[if_pos rfl];have e1:grp size (all ++ [x]) j=grp size all j ++ [x]:=(by rw[hk];exact grp_snoc_same all x);rw[e1,sgcs_snoc,List.length_append];refine own_keep ho (fun b hb=>?_);simp[Value.ownBlock] at hb;subst hb;exact h4.block g hg (fun e=>hgm (by simpa using e))
  ·rw[if_neg hjk,grp_snoc_other _ _ (by rw[<- hk];exact hjk)];exact own_keep (d.row j hj) (fun b hb=>old b (own_lt (d.row j hj) hb) (d.rne hj hb).2 (fun e=>d.apart k j hck hj (fun e=>hjk e.symm) b e hb))
 ·intro j b hj hb;by_cases hjk:j=k
  ·subst hjk;rw[if_pos rfl] at hb;simp[Value.ownBlock] at hb;subst hb;rcases hat with hat | hat
   ·exact Or.inl (d.fr j g hj hat)
   ·exact Or.inr ⟨by omega,by omega⟩
  ·rw[if_neg hjk] at hb;exact Or.inl (d.fr j b hj hb)
 ·have key:∀ j,c<=j->j≠k->(h j).ownBlock≠some g:=by
   intro j hj hjk e;rcases hat with hat | hat
   ·exact d.apart k j hck hj (fun e=>hjk e.symm) g hat e
   ·have:=own_lt (d.row j hj) e;omega
  intro j j' hj hj' hne b hb;by_cases h1:j=k
  ·have h2:j'≠k:=fun e=>hne (h1.trans e.symm);rw[if_pos h1] at hb;rw[if_neg h2];simp[Value.ownBlock] at hb;subst hb;exact key j' hj' h2
  ·rw[if_neg h1] at hb;by_cases h2:j'=k
   ·rw[if_pos h2];intro e;simp[Value.ownBlock] at e;subst e;exact key j hj h1 hb
   ·rw[if_neg h2];exact d.apart j j' hj hj' hne b hb
theorem add_ok (x:Sg) (d:DeskAt w db F size late now all (closedN size late now)) (h0 : 0<size) (h1:size<=50) (h2:late<=50) (h3:now<=1000) (hal:all.length<=100000) (hF:∀ b,F b->b<w.heap.size) (hx:okS now x=true) (hl:closedN size late now<=epo size x) :
  Calls prog 123 #[.pointer (some ⟨db,0,none⟩),.agg #[.int .i64 x.p,.int .i64 x.s,.int .i64 x.t,.string x.g]] w fun e w'=>e = .returned .nilIface/\DeskAt w' db (more F w w') size late now (all ++ [x]) (closedN size late now)/\Kp F w w':=by
 have mixed:prog.follows .mixedOrders=true:=by kernel_rfl
 obtain ⟨i0,hi,hz0,hz1,hz2⟩:=info_parts info61;have ok:=okS_iff.1 hx;have ht:x.g.size<=maxLen:=by have:=ok.g;unfold maxLen;omega
 obtain ⟨T,hT⟩:∃ T:Nat,x.t=(T:Int):=⟨x.t.toNat,by have:=ok.t0;omega⟩;have hT9:T<=1000:=by have:=ok.t1;omega
 obtain ⟨k,hk⟩:∃ k,k=epo size x:=⟨_,rfl⟩;obtain ⟨c,hc⟩:∃ c,c=closedN size late now:=⟨_,rfl⟩;have hkT:((T:Int)/(size:Int))=(k:Int):=by rw[hk];unfold epo;rw[hT];simp
 have hk9:k<=1000:=by rw[hk];unfold epo;rw[hT];exact Nat.le_trans (Nat.div_le_self _ _) (by simpa using hT9)
 rw[<- hk,<- hc] at hl;rw[<- hc] at d;rw[<- hc];have hlI:¬ (k:Int)<c:=by omega
 have hk9I:(k:Int)<=1000:=by omega
 have HC:Hid (c=closedN size late now):=hc;have HK:Hid (k=epo size x):=hk;have HD:Hid (DeskAt w db F size late now all c):=d;have HF:Hid (∀ b,F b->b<w.heap.size):=hF;have hdb:=d.lt;have c0:w.cell? ⟨db,0,none⟩=some (.int .i64 (size:Int)):=by obtain ⟨mb,m,D,h,d⟩:=d.out;exact d.c0
 have HI:Hid (∀ W,DeskAt W db F size late now all c->Calls prog 145 #[.pointer (some ⟨db,0,none⟩),.agg #[.int .i64 x.p,.int .i64 x.s,.int .i64 x.t,.string x.g]] W fun e w'=>e = .returned (.bool true)/\Below W.heap.size W w'):=fun W dW=>hx ▸ isSight_any x dW ht;have hg8:x.g.size<=100000:=by have:=ok.g;omega
 clear d hk hc hx ok hF;obtain ⟨xp,xs,xt,xg⟩:=x;simp only at hT HI hg8 ht ⊢;subst hT;have hn:((size:Int) == 0)=false:=by simp;omega
 go_enter func123,ntmps123;go_wp2_with fail;refine (HI.out _ (HD.out.below ((Below.refl _ w).alloc (Nat.le_refl _) _))).mono ?_;rintro e w1 ⟨rfl,hb⟩;have hsz:w.heap.size+1<=w1.heap.size:=by have:=hb.size;simpa using this
 have HB:Hid (Below w.heap.size w w1):=((Below.refl _ w).alloc (Nat.le_refl _) _).trans (hb.mono (by simp));have hbx:w1.heap[w.heap.size]?=some (.cells #[.int .i64 xp,.int .i64 xs,.int .i64 (T:Int),.string xg] 43):=by rw[hb.block _ (by simp)];exact Go.heap_alloc_new w _
 have HBX:Hid (w1.heap[w.heap.size]?=some (.cells #[.int .i64 xp,.int .i64 xs,.int .i64 (T:Int),.string xg] 43)):=hbx;have e0:w1.cell? ⟨db,0,none⟩=some (.int .i64 (size:Int)):=by rw[HB.out.cell hdb];exact c0
 have e2:w1.cell? ⟨w.heap.size,2,none⟩=some (.int .i64 (T:Int)):=by simp[World.cell?,hbx]
 have e3:w1.cell? ⟨w.heap.size,3,none⟩=some (.string xg):=by simp[World.cell?,hbx]
 clear hb hbx;go_wp2;go_quiet (fail);go_wp2_with fail;have HD2:Hid (DeskAt (w1.drewN nq) db F size late now all c):=(HD.out.below HB.out).below (drewN_below _ _);refine (closed_is HC.out HD2.out h0 h1 h2 h3).mono ?_;rintro e w2 ⟨rfl,q2,rfl⟩;go_wp2_with fail;refine (clone_any xg _ hg8).mono ?_;rintro e w3 ⟨rfl,hb3⟩;have hb3':Below w1.heap.size w1 w3:=(drewN_below _ _).trans (hb3.mono (Nat.le_refl _));have hbx3:w3.heap[w.heap.size]?=some (.cells #[.int .i64 xp,.int .i64 xs,.int .i64 (T:Int),.string xg] 43):=by rw[hb3'.block _ (by omega)];exact HBX.out
 have g3:w3.cell? ⟨w.heap.size,3,none⟩=some (.string xg):=by simp[World.cell?,hbx3]
 have f3:w3.frozen? ⟨w.heap.size,3,none⟩=false:=by simp[World.frozen?,hbx3]
 obtain ⟨W,hW⟩:∃ W,W=w3.setCell ⟨w.heap.size,3,none⟩ (.string xg):=⟨_,rfl⟩;have hkW:Kp (fun b=>w.heap.size<=b) w W:=by rw[hW];exact ((below_kp HB.out _).trans (below_kp hb3' _)).trans (set_kp _ _ _ (Nat.le_refl _))
 have hWb:W.heap[w.heap.size]?=some (.cells #[.int .i64 xp,.int .i64 xs,.int .i64 (T:Int),.string xg] 43):=by rw[hW];simp[World.setCell,Array.getElem?_modify,hbx3]
 have hWs:w.heap.size+1<=W.heap.size:=by rw[hW];have:=hb3'.size;simp[World.setCell];omega
 clear hb3 hb3' hbx3;go_wp2;show Code.wp prog _ _ _ (w3.setCell ⟨w.heap.size,3,none⟩ (.string xg));rw[<- hW];clear hW g3 f3 e0 e2 e3 HBX HD2 HB;have hdW:DeskAt W db F size late now all c:=HD.out.move (fun b hb h=>hkW.block b hb (by have:=HF.out b h;omega));obtain ⟨mb,m,D,h,dW⟩:=hdW.out;have HDW:Hid (DeskIn W db mb m D h F size late now all c):=dW;have HKW:Hid (Kp (fun b=>w.heap.size<=b) w W):=hkW
 have hS0:W.drew.cell? ⟨db,3,none⟩=some (.map (some mb))/\W.drew.cell? ⟨w.heap.size,0,none⟩=some (.int .i64 xp)/\W.drew.cell? ⟨w.heap.size,1,none⟩=some (.int .i64 xs)/\W.drew.cell? ⟨w.heap.size,2,none⟩=some (.int .i64 (T:Int))/\W.drew.cell? ⟨w.heap.size,3,none⟩=some (.string xg):=
  ⟨dW.c3,by show W.cell? _ = _;simp[World.cell?,hWb],by show W.cell? _ = _;simp[World.cell?,hWb],by show W.cell? _ = _;simp[World.cell?,hWb],by show W.cell? _ = _;simp[World.cell?,hWb]⟩
 have HL:Hid (∀ V,V.ownsMap prog 3 heldV mb m D->(Instr.lookup 159 (.map (some mb)) (.int .i64 (k:Int)) false).run prog V = .ok (h k) V):=fun V hV=>lookup_run hV hk9 (HDW.out.key k hl);have HU:Hid (Below W.heap.size W (W.alloc (.cells #[.int .i64 xp,.int .i64 xs,.int .i64 (T:Int),.string xg] 43)).drew):=((Below.refl _ W).alloc (Nat.le_refl _) _).drew;have hS1:(W.alloc (.cells #[.int .i64 xp,.int .i64 xs,.int .i64 (T:Int),.string xg] 43)).drew.cell? ⟨db,3,none⟩=some (.map (some mb))/\(W.alloc (.cells #[.int .i64 xp,.int .i64 xs,.int .i64 (T:Int),.string xg] 43)).drew.cell? ⟨w.heap.size,0,none⟩=some (.int .i64 xp)/\(W.alloc (.cells #[.int .i64 xp,.int .i64 xs,.int .i64 (T:Int),.string xg] 43)).drew.cell? ⟨w.heap.size,1,none⟩=some (.int .i64 xs)/\(W.alloc (.cells #[.int .i64 xp,.int .i64 xs,.int .i64 (T:Int),.string xg] 43)).drew.cell? ⟨w.heap.size,2,none⟩=some (.int .i64 (T:Int))/\(W.alloc (.cells #[.int .i64 xp,.int .i64 xs,.int .i64 (T:Int),.string xg] 43)).drew.cell? ⟨w.heap.size,3,none⟩=some (.string xg):=by obtain ⟨s1,s2,s3,s4,s5⟩:=hS0;have hd:=dW.lt;exact ⟨(HU.out.cell hd).trans s1,(HU.out.cell (by show w.heap.size < _;omega)).trans s2,(HU.out.cell (by show w.heap.size < _;omega)).trans s3,(HU.out.cell (by show w.heap.size < _;omega)).trans s4,(HU.out.cell (by show w.heap.size < _;omega)).trans s5⟩
 have HROW:Hid ((W.alloc (.cells #[.int .i64 xp,.int .i64 xs,.int .i64 (T:Int),.string xg] 43)).drew.ownsRow 0 43 4 (h k) (grp size all k).length (sgcs (grp size all k))):=own_keep (dW.row k hl) (fun b hb=>HU.out.block b (own_lt (dW.row k hl) hb));have HMAP:Hid ((W.alloc (.cells #[.int .i64 xp,.int .i64 xs,.int .i64 (T:Int),.string xg] 43)).drew.ownsMap prog 3 heldV mb m D):=(dW.own.alloc _).drew
 have HNEW:Hid (∀ j u,([.int .i64 xp,.int .i64 xs,.int .i64 (T:Int),.string xg]:List Value)[j]?=some u->(W.alloc (.cells #[.int .i64 xp,.int .i64 xs,.int .i64 (T:Int),.string xg] 43)).drew.cell? ((⟨W.heap.size,0,none⟩:Addr).add j)=some u):=by
  intro j u hj;rw[addr_add];show (W.alloc _).cell? _ = _
  match j,hj with
  | 0,hj=>simp at hj;subst hj;simp
  | 1,hj=>simp at hj;subst hj;simp
  | 2,hj=>simp at hj;subst hj;simp
  | 3,hj=>simp at hj;subst hj;simp
 have hgl:(grp size all k).length<=100000:=Nat.le_trans (grp_length _ _ _) hal;have HML:Hid ((grp size all k).length+1<=maxLen):=by show _<=_;unfold maxLen;omega
 have HBY:Hid (((grp size all k).length+1)*40<=140737488355328):=by show _<=_;omega
 have HMM:Hid (m<maxLen):=by show _ < _;have:=dW.room;unfold maxLen;omega
 have HOLD:Hid (∀ V,(W.alloc (.cells #[.int .i64 xp,.int .i64 xs,.int .i64 (T:Int),.string xg] 43)).drew.grownBy V (h k).ownBlock->∀ b,b=db\/b=w.heap.size->V.heap[b]?=(W.alloc (.cells #[.int .i64 xp,.int .i64 xs,.int .i64 (T:Int),.string xg] 43)).drew.heap[b]?):=by
  intro V hV b hb;refine hV.block b ?_ (fun e=>?_)
  ·have:=HU.out.size;have:=HDW.out.lt;rcases hb with rfl | rfl<;>omega
  ·rcases hb with rfl | rfl
   ·exact (HDW.out.rne hl e.symm).1 rfl
   ·have:=HF.out _ (HDW.out.fr k _ hl e.symm);omega
 clear hkW hWb hdW dW hgl;refine wp_region_held_drew (S:=fun V=>V.cell? ⟨db,3,none⟩=some (.map (some mb))/\V.cell? ⟨w.heap.size,0,none⟩=some (.int .i64 xp)/\V.cell? ⟨w.heap.size,1,none⟩=some (.int .i64 xs)/\V.cell? ⟨w.heap.size,2,none⟩=some (.int .i64 (T:Int))/\V.cell? ⟨w.heap.size,3,none⟩=some (.string xg)) (by kernel_rfl) hS0 (fun _=>?_);refine tk 0 27 (.pointer (some ⟨db,0,none⟩)) rfl rfl (by kernel_rfl) (fun _ _ _ h=>h) (Or.inl ⟨by rfl,fun wx _=>by go_simp⟩) hS0 ?_;simp only[Act.put,sA,sB,sC];refine tk 1 28 (.pointer (some ⟨db,0,none⟩)) rfl rfl (by kernel_rfl) (fun _ _ _ h=>h) (Or.inl ⟨by rfl,fun wx _=>by go_simp⟩) hS0 ?_;simp only[Act.put,sA,sB,sC];refine tk 2 29 (.pointer (some ⟨db,3,none⟩)) rfl rfl (by kernel_rfl) (fun _ _ _ h=>h) (Or.inl ⟨by rfl,fun wx _=>by go_simp⟩) hS0 ?_;simp only[Act.put,sA,sB,sC];refine tk 3 30 (.map (some mb)) rfl rfl (by kernel_rfl) (fun _ _ _ h=>h) (Or.inl ⟨by rfl,fun wx hS=>by (try dsimp only at hS);obtain ⟨s3,b0,b1,b2,b3⟩:=hS;go_simp⟩) hS0 ?_;simp only[Act.put,sA,sB,sC];refine tk 4 31 (.int .i64 (k:Int)) rfl rfl (by kernel_rfl) (fun _ _ _ h=>h) (Or.inl ⟨by rfl,fun wx _=>by go_simp⟩) hS0 ?_;simp only[Act.put,sA,sB,sC];refine tk 5 32 (.pointer (some ⟨db,0,none⟩)) rfl rfl (by kernel_rfl) (fun _ _ _ h=>h) (Or.inl ⟨by rfl,fun wx _=>by go_simp⟩) hS0 ?_;simp only[Act.put,sA,sB,sC];refine tk 6 33 (.pointer (some ⟨db,0,none⟩)) rfl rfl (by kernel_rfl) (fun _ _ _ h=>h) (Or.inl ⟨by rfl,fun wx _=>by go_simp⟩) hS0 ?_;simp only[Act.put,sA,sB,sC];refine tk 7 34 (.pointer (some ⟨db,3,none⟩)) rfl rfl (by kernel_rfl) (fun _ _ _ h=>h) (Or.inl ⟨by rfl,fun wx _=>by go_simp⟩) hS0 ?_;simp only[Act.put,sA,sB,sC];refine tk 8 35 (.map (some mb)) rfl rfl (by kernel_rfl) (fun _ _ _ h=>h) (Or.inl ⟨by rfl,fun wx hS=>by (try dsimp only at hS);obtain ⟨s3,b0,b1,b2,b3⟩:=hS;go_simp⟩) hS0 ?_;simp only[Act.put,sA,sB,sC];refine tk 9 36 (.int .i64 (k:Int)) rfl rfl (by kernel_rfl) (fun _ _ _ h=>h) (Or.inl ⟨by rfl,fun wx _=>by go_simp⟩) hS0 ?_;simp only[Act.put,sA,sB,sC];refine tk 11 38 (.agg #[.int .i64 xp,.int .i64 xs,.int .i64 (T:Int),.string xg]) rfl rfl (by kernel_rfl) (fun _ _ _ h=>h) (Or.inl ⟨by rfl,fun wx hS=>by (try dsimp only at hS);obtain ⟨s3,b0,b1,b2,b3⟩:=hS;go_simp⟩) hS0 ?_;simp only[Act.put,sA,sB,sC];refine wpAnyH_ready (rs:=[10,12]) (by kernel_rfl) (by simp) ?_;refine AllReadyH.cons rfl (fun K hK=>?_) (AllReadyH.cons rfl (fun K hK=>?_) AllReadyH.nil)
 ·have hrun:=HL.out W.drew HDW.out.own;go_simp;clear hrun;refine hK.out _ _ hS0 (fun _=>?_);clear hK K;refine wpAnyH_ready (rs:=[12]) (by kernel_rfl) (by simp) ?_;refine AllReadyH.cons rfl (fun K hK=>?_) AllReadyH.nil;go_simp;refine hK.out _ _ hS1 (fun _=>?_);clear hK K;refine wpAnyH_ready (rs:=[13]) (by kernel_rfl) (by simp) ?_;refine AllReadyH.cons rfl (fun K hK=>?_) AllReadyH.nil;refine step_append_lies _ (by rfl) (.tmp 37) (.tmp 39) 123 (by rfl) 0 43 i0 (.agg #[.int .i64 0,.int .i64 0,.int .i64 0,.string ⟨#[]⟩]) 4 40 underlying123 hi hz0 hz1 hz2 rfl (by omega) (h k) (grp size all k).length (sgcs (grp size all k)) (by rfl) HROW.out ⟨W.heap.size,0,none⟩ 1 1 [.int .i64 xp,.int .i64 xs,.int .i64 (T:Int),.string xg] (by rfl) rfl HNEW.out (fun u hu=>by simp at hu;rcases hu with rfl | rfl | rfl | rfl<;>rfl) (by omega) HML.out HBY.out (Nat.zero_le _) _ rfl ?_;intro g cap V hown hgrow hat hlt;have hvk:∀ a:Addr,a.block=db\/a.block=w.heap.size->V.cell? a=(W.alloc (.cells #[.int .i64 xp,.int .i64 xs,.int .i64 (T:Int),.string xg] 43)).drew.cell? a:=fun a ha=>World.cell?_of_block (HOLD.out V hgrow a.block ha);have hSV:V.cell? ⟨db,3,none⟩=some (.map (some mb))/\V.cell? ⟨w.heap.size,0,none⟩=some (.int .i64 xp)/\V.cell? ⟨w.heap.size,1,none⟩=some (.int .i64 xs)/\V.cell? ⟨w.heap.size,2,none⟩=some (.int .i64 (T:Int))/\V.cell? ⟨w.heap.size,3,none⟩=some (.string xg):=by obtain ⟨s1,s2,s3,s4,s5⟩:=hS1;exact ⟨(hvk _ (Or.inl rfl)).trans s1,(hvk _ (Or.inr rfl)).trans s2,(hvk _ (Or.inr rfl)).trans s3,(hvk _ (Or.inr rfl)).trans s4,(hvk _ (Or.inr rfl)).trans s5⟩
  have hmV:V.ownsMap prog 3 heldV mb m D:=HMAP.out.kept hgrow (fun e=>(HDW.out.rne hl e.symm).2 rfl);refine hK.out _ _ hSV (fun _=>?_);clear hK K;change wpAnyH _ _ _ _ _ _ _ (Act.put _ (some 40) _) _;simp only[Act.put,sA,sB,sC];obtain ⟨w4,hrun4,hm4,hg4⟩:=hmV.update (val:=.slice (some ⟨g,0,none⟩) ((grp size all k).length+1) cap) (d:=.held (.slice (some ⟨g,0,none⟩) ((grp size all k).length+1) cap)) (ps:=[]) law3 underlying159 HMM.out (keyOf_int_mk underlying3 (WalkArith.wf_i64 (n:=(k:Int)) (by omega))) rfl;refine wpAnyH_ready (rs:=[14]) (by kernel_rfl) (by simp) ?_;refine AllReadyH.cons rfl (fun K hK=>?_) AllReadyH.nil;go_simp;have hS4:w4.cell? ⟨db,3,none⟩=some (.map (some mb))/\w4.cell? ⟨w.heap.size,0,none⟩=some (.int .i64 xp)/\w4.cell? ⟨w.heap.size,1,none⟩=some (.int .i64 xs)/\w4.cell? ⟨w.heap.size,2,none⟩=some (.int .i64 (T:Int))/\w4.cell? ⟨w.heap.size,3,none⟩=some (.string xg):=by obtain ⟨s1,s2,s3,s4,s5⟩:=hSV;have hn1:some db≠some mb:=fun e=>HDW.out.ne (by simpa using e.symm);have hn2:some w.heap.size≠some mb:=fun e=>(by have:=HF.out mb HDW.out.fm;simp at e;omega);exact ⟨hg4.cell s1 hn1,hg4.cell s2 hn2,hg4.cell s3 hn2,hg4.cell s4 hn2,hg4.cell s5 hn2⟩
  refine hK.out _ _ hS4 (fun _=>?_);clear hK K;refine wpAnyH_done (by kernel_rfl) ?_ _;have HFIN:Hid (DeskAt w4 db (more F w w4) size late now (all ++ [⟨xp,xs,(T:Int),xg⟩]) c/\Kp F w w4):=by refine ⟨⟨mb,m+1,_,_,added (x:=⟨xp,xs,(T:Int),xg⟩) HDW.out HK.out hl HU.out hown hgrow hat hg4 hm4 (by omega)⟩,?_⟩;refine ((HKW.out.mono (G:=F) (fun b hb h=>by omega)).then (below_kp HU.out F) (fun _ _ h=>h)).trans ((grown_kp hgrow (fun b hb=>HDW.out.fr k b hl hb)).trans (grown_kp hg4 (fun b hb=>by simp at hb;exact hb ▸ HDW.out.fm)))
  clear hown hgrow hat hlt hvk hSV hmV hrun4 hm4 hg4 hS4;go_wp2;go_ret;exact ⟨rfl,HFIN.out⟩
 ·go_simp;refine hK.out _ _ hS1 (fun _=>?_);clear hK K;refine wpAnyH_ready (rs:=[10]) (by kernel_rfl) (by simp) ?_;refine AllReadyH.cons rfl (fun K hK=>?_) AllReadyH.nil;have hrun:=HL.out _ HMAP.out;go_simp;clear hrun;refine hK.out _ _ hS1 (fun _=>?_);clear hK K;refine wpAnyH_ready (rs:=[13]) (by kernel_rfl) (by simp) ?_;refine AllReadyH.cons rfl (fun K hK=>?_) AllReadyH.nil;refine step_append_lies _ (by rfl) (.tmp 37) (.tmp 39) 123 (by rfl) 0 43 i0 (.agg #[.int .i64 0,.int .i64 0,.int .i64 0,.string ⟨#[]⟩]) 4 40 underlying123 hi hz0 hz1 hz2 rfl (by omega) (h k) (grp size all k).length (sgcs (grp size all k)) (by rfl) HROW.out ⟨W.heap.size,0,none⟩ 1 1 [.int .i64 xp,.int .i64 xs,.int .i64 (T:Int),.string xg] (by rfl) rfl HNEW.out (fun u hu=>by simp at hu;rcases hu with rfl | rfl | rfl | rfl<;>rfl) (by omega) HML.out HBY.out (Nat.zero_le _) _ rfl ?_;intro g cap V hown hgrow hat hlt;have hvk:∀ a:Addr,a.block=db\/a.block=w.heap.size->V.cell? a=(W.alloc (.cells #[.int .i64 xp,.int .i64 xs,.int .i64 (T:Int),.string xg] 43)).drew.cell? a:=fun a ha=>World.cell?_of_block (HOLD.out V hgrow a.block ha);have hSV:V.cell? ⟨db,3,none⟩=some (.map (some mb))/\V.cell? ⟨w.heap.size,0,none⟩=some (.int .i64 xp)/\V.cell? ⟨w.heap.size,1,none⟩=some (.int .i64 xs)/\V.cell? ⟨w.heap.size,2,none⟩=some (.int .i64 (T:Int))/\V.cell? ⟨w.heap.size,3,none⟩=some (.string xg):=by obtain ⟨s1,s2,s3,s4,s5⟩:=hS1;exact ⟨(hvk _ (Or.inl rfl)).trans s1,(hvk _ (Or.inr rfl)).trans s2,(hvk _ (Or.inr rfl)).trans s3,(hvk _ (Or.inr rfl)).trans s4,(hvk _ (Or.inr rfl)).trans s5⟩
  have hmV:V.ownsMap prog 3 heldV mb m D:=HMAP.out.kept hgrow (fun e=>(HDW.out.rne hl e.symm).2 rfl);refine hK.out _ _ hSV (fun _=>?_);clear hK K;change wpAnyH _ _ _ _ _ _ _ (Act.put _ (some 40) _) _;simp only[Act.put,sA,sB,sC];obtain ⟨w4,hrun4,hm4,hg4⟩:=hmV.update (val:=.slice (some ⟨g,0,none⟩) ((grp size all k).length+1) cap) (d:=.held (.slice (some ⟨g,0,none⟩) ((grp size all k).length+1) cap)) (ps:=[]) law3 underlying159 HMM.out (keyOf_int_mk underlying3 (WalkArith.wf_i64 (n:=(k:Int)) (by omega))) rfl;refine wpAnyH_ready (rs:=[14]) (by kernel_rfl) (by simp) ?_;refine AllReadyH.cons rfl (fun K hK=>?_) AllReadyH.nil;go_simp;have hS4:w4.cell? ⟨db,3,none⟩=some (.map (some mb))/\w4.cell? ⟨w.heap.size,0,none⟩=some (.int .i64 xp)/\w4.cell? ⟨w.heap.size,1,none⟩=some (.int .i64 xs)/\w4.cell? ⟨w.heap.size,2,none⟩=some (.int .i64 (T:Int))/\w4.cell? ⟨w.heap.size,3,none⟩=some (.string xg):=by obtain ⟨s1,s2,s3,s4,s5⟩:=hSV;have hn1:some db≠some mb:=fun e=>HDW.out.ne (by simpa using e.symm);have hn2:some w.heap.size≠some mb:=fun e=>(by have:=HF.out mb HDW.out.fm;simp at e;omega);exact ⟨hg4.cell s1 hn1,hg4.cell s2 hn2,hg4.cell s3 hn2,hg4.cell s4 hn2,hg4.cell s5 hn2⟩
  refine hK.out _ _ hS4 (fun _=>?_);clear hK K;refine wpAnyH_done (by kernel_rfl) ?_ _;have HFIN:Hid (DeskAt w4 db (more F w w4) size late now (all ++ [⟨xp,xs,(T:Int),xg⟩]) c/\Kp F w w4):=by refine ⟨⟨mb,m+1,_,_,added (x:=⟨xp,xs,(T:Int),xg⟩) HDW.out HK.out hl HU.out hown hgrow hat hg4 hm4 (by omega)⟩,?_⟩;refine ((HKW.out.mono (G:=F) (fun b hb h=>by omega)).then (below_kp HU.out F) (fun _ _ h=>h)).trans ((grown_kp hgrow (fun b hb=>HDW.out.fr k b hl hb)).trans (grown_kp hg4 (fun b hb=>by simp at hb;exact hb ▸ HDW.out.fm)))
  clear hown hgrow hat hlt hvk hSV hmV hrun4 hm4 hg4 hS4;go_wp2;go_ret;exact ⟨rfl,HFIN.out⟩
theorem add_any (x:Sg) (d:DeskAt w db F size late now all (closedN size late now)) (h0 : 0<size) (h1:size<=50) (h2:late<=50) (h3:now<=1000) (hal:all.length<=100000) (hF:∀ b,F b->b<w.heap.size) (ht:x.g.size<=maxLen) :
  Calls prog 123 #[.pointer (some ⟨db,0,none⟩),.agg #[.int .i64 x.p,.int .i64 x.s,.int .i64 x.t,.string x.g]] w fun e w'=>e = .returned (errV (addF size late now x))/\DeskAt w' db (more F w w') size late now (if addF size late now x=0 then all ++ [x] else all) (closedN size late now)/\Kp F w w':=by
 cases hx:okS now x with
 | false=>
  have e:addF size late now x=1:=by simp[addF,hx]
  rw[e];refine (add_bad x d hx ht).mono ?_;rintro e w' ⟨rfl,hb⟩;exact ⟨rfl,(d.below hb).mono (fun b _ h=>Or.inl h),below_kp hb F⟩
 | true=>
  by_cases hl:epo size x<closedN size late now
  ·have e:addF size late now x=6:=(by simp[addF,hx,hl]);rw[e];refine (add_late x d h0 h1 h2 h3 hx hl).mono ?_;rintro e w' ⟨rfl,hb⟩;exact ⟨rfl,(d.below hb).mono (fun b _ h=>Or.inl h),below_kp hb F⟩
  ·have e:addF size late now x=0:=(by simp[addF,hx,hl]);rw[e];exact add_ok x d h0 h1 h2 h3 hal hF hx (by omega)
end
end EpA
end Go.Proofs.YtmolafjalaeoaaaGreatDoor
