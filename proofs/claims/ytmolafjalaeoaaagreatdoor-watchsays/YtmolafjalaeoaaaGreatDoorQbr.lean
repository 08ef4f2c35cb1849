/-
  EqB WeA
-/
import Derived.Test.YtmolafjalaeoaaaGreatDoorQbq
set_option maxRecDepth 100000
set_option maxHeartbeats 8000000
namespace Go.Proofs.YtmolafjalaeoaaaGreatDoor
open Go.Proofs.Tryz
namespace EqA
open TkM (Sg)
open Tk0
open Go.RowKit EpM TkW Go.Maps EpW
open EpA
section
variable {w : World} {rb : Nat} {X : Array Value} {F : Nat → Prop} {size late now : Nat} {all : List Sg}
theorem radded {Z U V:World} {v:Value} {g cap:Nat} {x:Sg} (d:RefIn Z rb X v F size late now all) (hU:Below Z.heap.size Z U)
  (ho:V.ownsRow 0 221 5 (.slice (some ⟨g,0,none⟩) (all.length+1) cap) (all.length+1) (rscs size all ++ [.int .i64 x.p,.int .i64 x.s,.int .i64 x.t,.string x.g,.int .i64 (epo size x:Int)]))
  (hV:U.grownBy V v.ownBlock) (hat:v.ownBlock=some g\/g=U.heap.size) (hR:V.heap[rb]?=some (dob X size late now v)) (hw:w.heap.size<=Z.heap.size) :
  RefIn (V.setCell ⟨rb,38,none⟩ (.slice (some ⟨g,0,none⟩) (all.length+1) cap)) rb X (.slice (some ⟨g,0,none⟩) (all.length+1) cap) (more F w (V.setCell ⟨rb,38,none⟩ (.slice (some ⟨g,0,none⟩) (all.length+1) cap))) size late now (all ++ [x]):=by
 have hsz1:=hU.size;have hsz2:=hV.size;have hg:g<V.heap.size:=own_lt ho rfl
 have hgr:g≠rb:=by
  rcases hat with hat | hat
  ·exact d.ne hat
  ·have:=d.lt;omega
 refine ⟨?_,d.xs,?_,Or.inl d.fd,?_⟩
 ·exact dob_set3 d.xs hR _
 ·rw[rscs_snoc,List.length_append];refine own_keep ho (fun b hb=>?_);simp[Value.ownBlock] at hb;subst hb;exact Below.heap_setCell _ _ _ _ hgr
 ·intro b hb;simp[Value.ownBlock] at hb;subst hb;rcases hat with hat | hat
  ·exact Or.inl (d.fr g hat)
  ·exact Or.inr ⟨by omega,by simpa [World.setCell] using hg⟩
theorem radd_ok (x:Sg) (d:RefAt w rb X F size late now all) (h0 : 0<size) (h1:size<=50) (h2:late<=50) (h3:now<=1000) (hx:okS now x=true) (hl:closedN size late now<=epo size x) (hal:all.length<=100000) (hF:∀ b,F b->b<w.heap.size) :
  Calls prog 88 #[.pointer (some ⟨rb,35,none⟩),.agg #[.int .i64 x.p,.int .i64 x.s,.int .i64 x.t,.string x.g]] w fun e w'=>e = .returned (.int .i64 0)/\RefAt w' rb X (more F w w') size late now (all ++ [x])/\Kp F w w':=by
 obtain ⟨i0,hi,hz0,hz1,hz2⟩:=info_parts info93;have HF:Hid (∀ b,F b->b<w.heap.size):=hF;clear hF;have mixed:prog.follows .mixedOrders=true:=by kernel_rfl
 have ok:=okS_iff.1 hx;obtain ⟨T,hT⟩:∃ T:Nat,x.t=(T:Int):=⟨x.t.toNat,by have:=ok.t0;omega⟩;have hT9:T<=1000:=by have:=ok.t1;omega
 obtain ⟨k,hk⟩:∃ k,k=epo size x:=⟨_,rfl⟩;obtain ⟨c,hc⟩:∃ c,c=closedN size late now:=⟨_,rfl⟩;have hkT:((T:Int)/(size:Int))=(k:Int):=by rw[hk];unfold epo;rw[hT];simp
 rw[<- hk,<- hc] at hl;have hk9:k<=1000:=by rw[hk];unfold epo;rw[hT];exact Nat.le_trans (Nat.div_le_self _ _) (by simpa using hT9)
 have hlI:¬ (k:Int)<c:=by omega
 have hk9I:(k:Int)<=1000:=by omega
 have HK:Hid (k=epo size x):=hk;have HC:Hid (c=closedN size late now):=hc;obtain ⟨g0,g1,g2,g3,g4,g5,g6⟩:=sgGood hx;have HD:Hid (RefAt w rb X F size late now all):=d;obtain ⟨v,d⟩:=d.out;have c0:=d.c0;have c2:=d.c2;have hrb:=d.lt;clear d hk hc hx ok;obtain ⟨xp,xs,xt,xg⟩:=x;simp only at hT g0 g1 g2 g3 g4 g5 g6 ⊢;subst hT;have g4':¬ (T:Int)<0:=by omega
 have g5':¬ now<T:=by simp at g5;omega
 have g5'':decide (now<T)=false:=by simpa using g5'
 have g6':((xg.size:Int) == 8)=true:=by simp at g6 ⊢;omega
 have hn:((size:Int) == 0)=false:=by simp;omega
 have hwrap:IntKind.i64.wrap (k:Int)=(k:Int):=by rw[IntKind.wrap_i64];omega
 have HB:Hid (∀ q,Below w.heap.size w ((w.alloc (.cells #[.int .i64 xp,.int .i64 xs,.int .i64 (T:Int),.string xg] 43)).drewN q)):=fun q=>((Below.refl _ w).alloc (Nat.le_refl _) _).trans ((drewN_below _ q).mono (by simp));go_enter func88,ntmps88;go_wp2;go_quiet (fail);obtain ⟨W,hW⟩:∃ W,W=(w.alloc (.cells #[.int .i64 xp,.int .i64 xs,.int .i64 (T:Int),.string xg] 43)).drewN nq:=⟨_,rfl⟩;have hbW:Below w.heap.size w W:=by rw[hW];exact HB.out _
 have HBW:Hid (Below w.heap.size w W):=hbW;have b2:W.cell? ⟨w.heap.size,2,none⟩=some (.int .i64 (T:Int)):=by rw[hW];show (w.alloc _).cell? _ = _;simp
 have r0:W.cell? ⟨rb,35,none⟩=some (.int .i64 (size:Int)):=by rw[hbW.cell hrb];exact c0
 have HDW:Hid (RefAt W rb X F size late now all):=HD.out.below hbW;have HCL:Hid (∀ n,Calls prog 80 #[.pointer (some ⟨rb,35,none⟩)] (W.drewN n) fun e w'=>e = .returned (.int .i64 (c:Int))/\∃ m,w'=W.drewN m):=fun n=>(rclosed_is HC.out (HDW.out.below (drewN_below _ n)) h0 h1 h2 h3).mono (fun _ _ h=>⟨h.1,by obtain ⟨q,hq⟩:=h.2;exact ⟨n+q,by rw[hq,World.drewN_drewN]⟩⟩);have HWX:Hid (W.heap[w.heap.size]?=some (.cells #[.int .i64 xp,.int .i64 xs,.int .i64 (T:Int),.string xg] 43)):=by show _ = _;rw[hW];exact Go.heap_alloc_new w _
 clear hbW;show Exit.then _ _ _ _ ((w.alloc (.cells #[.int .i64 xp,.int .i64 xs,.int .i64 (T:Int),.string xg] 43)).drewN nq);rw[<- hW];clear hW c0 c2;go_wp2;go_big_quiet (with_reducible exact HCL.out _);go_wp2;obtain ⟨Z,hZ⟩:∃ Z,Z=W.drewN nq:=⟨_,rfl⟩;have hbZ:Below w.heap.size w Z:=by rw[hZ];exact HBW.out.trans ((drewN_below _ _).mono HBW.out.size)
 have hZb:Z.heap[w.heap.size]?=some (.cells #[.int .i64 xp,.int .i64 xs,.int .i64 (T:Int),.string xg] 43):=by rw[hZ];exact HWX.out
 have hZs:w.heap.size+1<=Z.heap.size:=(Array.getElem?_eq_some_iff.1 hZb).1;rw[<- hZ];clear hZ;obtain ⟨v,dZ⟩:=(HD.out.below hbZ).out;have HDZ:Hid (RefIn Z rb X v F size late now all):=dZ;have HXS:Hid (X.size=46):=dZ.xs;have HBZ:Hid (Below w.heap.size w Z):=hbZ
 have hS0:Z.drew.cell? ⟨rb,35,none⟩=some (.int .i64 (size:Int))/\Z.drew.cell? ⟨w.heap.size,0,none⟩=some (.int .i64 xp)/\Z.drew.cell? ⟨w.heap.size,1,none⟩=some (.int .i64 xs)/\Z.drew.cell? ⟨w.heap.size,2,none⟩=some (.int .i64 (T:Int))/\Z.drew.cell? ⟨w.heap.size,3,none⟩=some (.string xg):=
  ⟨dZ.c0,by show Z.cell? _ = _;simp[World.cell?,hZb],by show Z.cell? _ = _;simp[World.cell?,hZb],by show Z.cell? _ = _;simp[World.cell?,hZb],by show Z.cell? _ = _;simp[World.cell?,hZb]⟩
 have HU:Hid (Below Z.heap.size Z (Z.alloc (.cells #[.int .i64 xp,.int .i64 xs,.int .i64 (T:Int),.string xg,.int .i64 (k:Int)] 221)).drew):=((Below.refl _ Z).alloc (Nat.le_refl _) _).drew;have hS1:(Z.alloc (.cells #[.int .i64 xp,.int .i64 xs,.int .i64 (T:Int),.string xg,.int .i64 (k:Int)] 221)).drew.cell? ⟨rb,35,none⟩=some (.int .i64 (size:Int))/\(Z.alloc (.cells #[.int .i64 xp,.int .i64 xs,.int .i64 (T:Int),.string xg,.int .i64 (k:Int)] 221)).drew.cell? ⟨w.heap.size,0,none⟩=some (.int .i64 xp)/\(Z.alloc (.cells #[.int .i64 xp,.int .i64 xs,.int .i64 (T:Int),.string xg,.int .i64 (k:Int)] 221)).drew.cell? ⟨w.heap.size,1,none⟩=some (.int .i64 xs)/\(Z.alloc (.cells #[.int .i64 xp,.int .i64 xs,.int .i64 (T:Int),.string xg,.int .i64 (k:Int)] 221)).drew.cell? ⟨w.heap.size,2,none⟩=some (.int .i64 (T:Int))/\(Z.alloc (.cells #[.int .i64 xp,.int .i64 xs,.int .i64 (T:Int),.string xg,.int .i64 (k:Int)] 221)).drew.cell? ⟨w.heap.size,3,none⟩=some (.string xg):=by obtain ⟨s1,s2,s3,s4,s5⟩:=hS0;have hd:=dZ.lt;exact ⟨(HU.out.cell hd).trans s1,(HU.out.cell (by show w.heap.size < _;omega)).trans s2,(HU.out.cell (by show w.heap.size < _;omega)).trans s3,(HU.out.cell (by show w.heap.size < _;omega)).trans s4,(HU.out.cell (by show w.heap.size < _;omega)).trans s5⟩
 have HROW:Hid ((Z.alloc (.cells #[.int .i64 xp,.int .i64 xs,.int .i64 (T:Int),.string xg,.int .i64 (k:Int)] 221)).drew.ownsRow 0 221 5 v all.length (rscs size all)):=own_keep dZ.own (fun b hb=>HU.out.block b (own_lt dZ.own hb));have l0:Z.drew.cell? ⟨rb,38,none⟩=some v:=dZ.c3;have l1:(Z.alloc (.cells #[.int .i64 xp,.int .i64 xs,.int .i64 (T:Int),.string xg,.int .i64 (k:Int)] 221)).drew.cell? ⟨rb,38,none⟩=some v:=(HU.out.cell dZ.lt).trans dZ.c3
 have HNEW:Hid (∀ j u,([.int .i64 xp,.int .i64 xs,.int .i64 (T:Int),.string xg,.int .i64 (k:Int)]:List Value)[j]?=some u->(Z.alloc (.cells #[.int .i64 xp,.int .i64 xs,.int .i64 (T:Int),.string xg,.int .i64 (k:Int)] 221)).drew.cell? ((⟨Z.heap.size,0,none⟩:Addr).add j)=some u):=by
  intro j u hj;rw[addr_add];show (Z.alloc _).cell? _ = _
  match j,hj with
  | 0,hj=>simp at hj;subst hj;simp
  | 1,hj=>simp at hj;subst hj;simp
  | 2,hj=>simp at hj;subst hj;simp
  | 3,hj=>simp at hj;subst hj;simp
  | 4,hj=>simp at hj;subst hj;simp
 have HML:Hid (all.length+1<=maxLen):=by show _<=_;unfold maxLen;omega
 have HBY:Hid ((all.length+1)*48<=140737488355328):=by show _<=_;omega
 have HOLD:Hid (∀ V,(Z.alloc (.cells #[.int .i64 xp,.int .i64 xs,.int .i64 (T:Int),.string xg,.int .i64 (k:Int)] 221)).drew.grownBy V v.ownBlock->∀ b,b=rb\/b=w.heap.size->V.heap[b]?=(Z.alloc (.cells #[.int .i64 xp,.int .i64 xs,.int .i64 (T:Int),.string xg,.int .i64 (k:Int)] 221)).drew.heap[b]?):=by
  intro V hV b hb;refine hV.block b ?_ (fun e=>?_)
  ·have:=HU.out.size;have:=HDZ.out.lt;rcases hb with rfl | rfl<;>omega
  ·rcases hb with rfl | rfl
   ·exact HDZ.out.ne e.symm rfl
   ·have:=HF.out _ (HDZ.out.fr _ e.symm);omega
 have HUR:Hid ((Z.alloc (.cells #[.int .i64 xp,.int .i64 xs,.int .i64 (T:Int),.string xg,.int .i64 (k:Int)] 221)).drew.heap[rb]?=some (dob X size late now v)):=(HU.out.block rb dZ.lt).trans dZ.cells;clear hbZ hZb dZ HCL HDW b2 r0 HWX;refine wp_region_held_drew (S:=fun V=>V.cell? ⟨rb,35,none⟩=some (.int .i64 (size:Int))/\V.cell? ⟨w.heap.size,0,none⟩=some (.int .i64 xp)/\V.cell? ⟨w.heap.size,1,none⟩=some (.int .i64 xs)/\V.cell? ⟨w.heap.size,2,none⟩=some (.int .i64 (T:Int))/\V.cell? ⟨w.heap.size,3,none⟩=some (.string xg)) (by kernel_rfl) hS0 (fun _=>?_);refine tk 0 53 (.pointer (some ⟨rb,35,none⟩)) rfl rfl (by kernel_rfl) (fun _ _ _ h=>h) (Or.inl ⟨by rfl,fun wx _=>by go_simp⟩) hS0 ?_;simp only[Act.put,sA,sB,sC];refine tk 1 54 (.pointer (some ⟨rb,35,none⟩)) rfl rfl (by kernel_rfl) (fun _ _ _ h=>h) (Or.inl ⟨by rfl,fun wx _=>by go_simp⟩) hS0 ?_;simp only[Act.put,sA,sB,sC];refine tk 2 55 (.pointer (some ⟨rb,35,none⟩)) rfl rfl (by kernel_rfl) (fun _ _ _ h=>h) (Or.inl ⟨by rfl,fun wx _=>by go_simp⟩) hS0 ?_;simp only[Act.put,sA,sB,sC];refine tk 3 56 (.pointer (some ⟨rb,38,none⟩)) rfl rfl (by kernel_rfl) (fun _ _ _ h=>h) (Or.inl ⟨by rfl,fun wx _=>by go_simp⟩) hS0 ?_;simp only[Act.put,sA,sB,sC];refine tk 5 58 (.agg #[.int .i64 xp,.int .i64 xs,.int .i64 (T:Int),.string xg]) rfl rfl (by kernel_rfl) (fun _ _ _ h=>h) (Or.inl ⟨by rfl,fun wx hS=>by (try dsimp only at hS);obtain ⟨r0,b0,b1,b2,b3⟩:=hS;go_simp⟩) hS0 ?_;simp only[Act.put,sA,sB,sC];refine tk 6 59 (.pointer (some ⟨w.heap.size,2,none⟩)) rfl rfl (by kernel_rfl) (fun _ _ _ h=>h) (Or.inl ⟨by rfl,fun wx _=>by go_simp⟩) hS0 ?_;simp only[Act.put,sA,sB,sC];refine tk 7 60 (.int .i64 (T:Int)) rfl rfl (by kernel_rfl) (fun _ _ _ h=>h) (Or.inl ⟨by rfl,fun wx hS=>by (try dsimp only at hS);obtain ⟨r0,b0,b1,b2,b3⟩:=hS;go_simp⟩) hS0 ?_;simp only[Act.put,sA,sB,sC];refine tk 8 61 (.pointer (some ⟨rb,35,none⟩)) rfl rfl (by kernel_rfl) (fun _ _ _ h=>h) (Or.inl ⟨by rfl,fun wx _=>by go_simp⟩) hS0 ?_;simp only[Act.put,sA,sB,sC];refine tk 9 62 (.pointer (some ⟨rb,35,none⟩)) rfl rfl (by kernel_rfl) (fun _ _ _ h=>h) (Or.inl ⟨by rfl,fun wx _=>by go_simp⟩) hS0 ?_;simp only[Act.put,sA,sB,sC];refine tk 10 63 (.pointer (some ⟨rb,35,none⟩)) rfl rfl (by kernel_rfl) (fun _ _ _ h=>h) (Or.inl ⟨by rfl,fun wx _=>by go_simp⟩) hS0 ?_;simp only[Act.put,sA,sB,sC];refine tk 11 64 (.int .i64 (size:Int)) rfl rfl (by kernel_rfl) (fun _ _ _ h=>h) (Or.inl ⟨by rfl,fun wx hS=>by (try dsimp only at hS);obtain ⟨r0,b0,b1,b2,b3⟩:=hS;go_simp⟩) hS0 ?_;simp only[Act.put,sA,sB,sC];refine tk 12 65 (.int .i64 (k:Int)) rfl rfl (by kernel_rfl) (fun _ _ _ h=>h) (Or.inl ⟨by rfl,fun wx _=>by go_simp;omega⟩) hS0 ?_;simp only[Act.put,sA,sB,sC];refine tk 13 66 (.agg #[.int .i64 xp,.int .i64 xs,.int .i64 (T:Int),.string xg,.int .i64 (k:Int)]) rfl rfl (by kernel_rfl) (fun _ _ _ h=>h) (Or.inl ⟨by rfl,fun wx _=>by go_simp⟩) hS0 ?_;simp only[Act.put,sA,sB,sC];refine wpAnyH_ready (rs:=[4,14]) (by kernel_rfl) (by simp) ?_;refine AllReadyH.cons rfl (fun K hK=>?_) (AllReadyH.cons rfl (fun K hK=>?_) AllReadyH.nil)
 ·go_simp;refine hK.out _ _ hS0 (fun _=>?_);clear hK K;refine wpAnyH_ready (rs:=[14]) (by kernel_rfl) (by simp) ?_;refine AllReadyH.cons rfl (fun K hK=>?_) AllReadyH.nil;go_simp;refine hK.out _ _ hS1 (fun _=>?_);clear hK K;refine wpAnyH_ready (rs:=[15]) (by kernel_rfl) (by simp) ?_;refine AllReadyH.cons rfl (fun K hK=>?_) AllReadyH.nil;refine step_append_lies _ (by rfl) (.tmp 57) (.tmp 67) 59 (by rfl) 0 221 i0 (.agg #[.int .i64 0,.int .i64 0,.int .i64 0,.string ⟨#[]⟩,.int .i64 0]) 5 48 underlying59 hi hz0 hz1 hz2 rfl (by omega) v all.length (rscs size all) (by rfl) HROW.out ⟨Z.heap.size,0,none⟩ 1 1 [.int .i64 xp,.int .i64 xs,.int .i64 (T:Int),.string xg,.int .i64 (k:Int)] (by rfl) rfl HNEW.out (fun u hu=>by simp at hu;rcases hu with rfl | rfl | rfl | rfl | rfl<;>rfl) (by omega) HML.out HBY.out (Nat.zero_le _) _ rfl ?_;intro g cap V hown hgrow hat hlt;have hvk:∀ a:Addr,a.block=rb\/a.block=w.heap.size->V.cell? a=(Z.alloc (.cells #[.int .i64 xp,.int .i64 xs,.int .i64 (T:Int),.string xg,.int .i64 (k:Int)] 221)).drew.cell? a:=fun a ha=>World.cell?_of_block (HOLD.out V hgrow a.block ha);have hSV:V.cell? ⟨rb,35,none⟩=some (.int .i64 (size:Int))/\V.cell? ⟨w.heap.size,0,none⟩=some (.int .i64 xp)/\V.cell? ⟨w.heap.size,1,none⟩=some (.int .i64 xs)/\V.cell? ⟨w.heap.size,2,none⟩=some (.int .i64 (T:Int))/\V.cell? ⟨w.heap.size,3,none⟩=some (.string xg):=by obtain ⟨s1,s2,s3,s4,s5⟩:=hS1;exact ⟨(hvk _ (Or.inl rfl)).trans s1,(hvk _ (Or.inr rfl)).trans s2,(hvk _ (Or.inr rfl)).trans s3,(hvk _ (Or.inr rfl)).trans s4,(hvk _ (Or.inr rfl)).trans s5⟩
  have hVR:V.heap[rb]?=some (dob X size late now v):=(HOLD.out V hgrow rb (Or.inl rfl)).trans HUR.out;have hV3:V.cell? ⟨rb,38,none⟩=some v:=by exact dob_c3 HXS.out hVR
  have hVf:V.frozen? ⟨rb,38,none⟩=false:=by exact dob_fz hVR _
  have HVR:Hid (V.heap[rb]?=some (dob X size late now v)):=hVR;clear hVR;refine hK.out _ _ hSV (fun _=>?_);clear hK K;change wpAnyH _ _ _ _ _ _ _ (Act.put _ (some 68) _) _;simp only[Act.put,sA,sB,sC];refine tk 16 69 (.pointer (some ⟨rb,35,none⟩)) rfl rfl (by kernel_rfl) (fun _ _ _ h=>h) (Or.inl ⟨by rfl,fun wx _=>by go_simp⟩) hSV ?_;simp only[Act.put,sA,sB,sC];refine tk 17 70 (.pointer (some ⟨rb,38,none⟩)) rfl rfl (by kernel_rfl) (fun _ _ _ h=>h) (Or.inl ⟨by rfl,fun wx _=>by go_simp⟩) hSV ?_;simp only[Act.put,sA,sB,sC];refine wpAnyH_ready (rs:=[18]) (by kernel_rfl) (by simp) ?_;refine AllReadyH.cons rfl (fun K hK=>?_) AllReadyH.nil;go_simp;have hS4:(V.setCell ⟨rb,38,none⟩ (.slice (some ⟨g,0,none⟩) (all.length+1) cap)).cell? ⟨rb,35,none⟩=some (.int .i64 (size:Int))/\(V.setCell ⟨rb,38,none⟩ (.slice (some ⟨g,0,none⟩) (all.length+1) cap)).cell? ⟨w.heap.size,0,none⟩=some (.int .i64 xp)/\(V.setCell ⟨rb,38,none⟩ (.slice (some ⟨g,0,none⟩) (all.length+1) cap)).cell? ⟨w.heap.size,1,none⟩=some (.int .i64 xs)/\(V.setCell ⟨rb,38,none⟩ (.slice (some ⟨g,0,none⟩) (all.length+1) cap)).cell? ⟨w.heap.size,2,none⟩=some (.int .i64 (T:Int))/\(V.setCell ⟨rb,38,none⟩ (.slice (some ⟨g,0,none⟩) (all.length+1) cap)).cell? ⟨w.heap.size,3,none⟩=some (.string xg):=by obtain ⟨s1,s2,s3,s4,s5⟩:=hSV;have hn2:w.heap.size≠rb:=(by omega);have e:∀ a:Addr,a.block=w.heap.size->(V.setCell ⟨rb,38,none⟩ (.slice (some ⟨g,0,none⟩) (all.length+1) cap)).cell? a=V.cell? a:=fun a ha=>World.cell?_of_block (Below.heap_setCell _ _ _ _ (by rw[ha];exact hn2));refine ⟨?_,(e _ rfl).trans s2,(e _ rfl).trans s3,(e _ rfl).trans s4,(e _ rfl).trans s5⟩;exact dob_c0 HXS.out (dob_set3 HXS.out HVR.out _)
  refine hK.out _ _ hS4 (fun _=>?_);clear hK K;refine wpAnyH_done (by kernel_rfl) ?_ _;have HFIN:Hid (RefAt (V.setCell ⟨rb,38,none⟩ (.slice (some ⟨g,0,none⟩) (all.length+1) cap)) rb X (more F w (V.setCell ⟨rb,38,none⟩ (.slice (some ⟨g,0,none⟩) (all.length+1) cap))) size late now (all ++ [⟨xp,xs,(T:Int),xg⟩])/\Kp F w (V.setCell ⟨rb,38,none⟩ (.slice (some ⟨g,0,none⟩) (all.length+1) cap))):=by refine ⟨⟨_,radded (x:=⟨xp,xs,(T:Int),xg⟩) HDZ.out HU.out (by rw[<- HK.out];exact hown) hgrow hat HVR.out (by omega)⟩,?_⟩;exact (((below_kp HBZ.out F).trans (below_kp HU.out F)).trans (grown_kp hgrow (fun b hb=>HDZ.out.fr b hb))).trans (set_kp _ _ _ HDZ.out.fd)
  clear hown hgrow hat hlt hvk hSV hS4 hV3 hVf HVR;go_wp2;go_ret;exact ⟨rfl,HFIN.out⟩
 ·go_simp;refine hK.out _ _ hS1 (fun _=>?_);clear hK K;refine wpAnyH_ready (rs:=[4]) (by kernel_rfl) (by simp) ?_;refine AllReadyH.cons rfl (fun K hK=>?_) AllReadyH.nil;go_simp;refine hK.out _ _ hS1 (fun _=>?_);clear hK K;refine wpAnyH_ready (rs:=[15]) (by kernel_rfl) (by simp) ?_;refine AllReadyH.cons rfl (fun K hK=>?_) AllReadyH.nil;refine step_append_lies _ (by rfl) (.tmp 57) (.tmp 67) 59 (by rfl) 0 221 i0 (.agg #[.int .i64 0,.int .i64 0,.int .i64 0,.string ⟨#[]⟩,.int .i64 0]) 5 48 underlying59 hi hz0 hz1 hz2 rfl (by omega) v all.length (rscs size all) (by rfl) HROW.out ⟨Z.heap.size,0,none⟩ 1 1 [.int .i64 xp,.int .i64 xs,.int .i64 (T:Int),.string xg,.int .i64 (k:Int)] (by rfl) rfl HNEW.out (fun u hu=>by simp at hu;rcases hu with rfl | rfl | rfl | rfl | rfl<;>rfl) (by omega) HML.out HBY.out (Nat.zero_le _) _ rfl ?_;intro g cap V hown hgrow hat hlt;have hvk:∀ a:Addr,a.block=rb\/a.block=w.heap.size->V.cell? a=(Z.alloc (.cells #[.int .i64 xp,.int .i64 xs,.int .i64 (T:Int),.string xg,.int .i64 (k:Int)] 221)).drew.cell? a:=fun a ha=>World.cell?_of_block (HOLD.out V hgrow a.block ha);have hSV:V.cell? ⟨rb,35,none⟩=some (.int .i64 (size:Int))/\V.cell? ⟨w.heap.size,0,none⟩=some (.int .i64 xp)/\V.cell? ⟨w.heap.size,1,none⟩=some (.int .i64 xs)/\V.cell? ⟨w.heap.size,2,none⟩=some (.int .i64 (T:Int))/\V.cell? ⟨w.heap.size,3,none⟩=some (.string xg):=by obtain ⟨s1,s2,s3,s4,s5⟩:=hS1;exact ⟨(hvk _ (Or.inl rfl)).trans s1,(hvk _ (Or.inr rfl)).trans s2,(hvk _ (Or.inr rfl)).trans s3,(hvk _ (Or.inr rfl)).trans s4,(hvk _ (Or.inr rfl)).trans s5⟩
  have hVR:V.heap[rb]?=some (dob X size late now v):=(HOLD.out V hgrow rb (Or.inl rfl)).trans HUR.out;have hV3:V.cell? ⟨rb,38,none⟩=some v:=by exact dob_c3 HXS.out hVR
  have hVf:V.frozen? ⟨rb,38,none⟩=false:=by exact dob_fz hVR _
  have HVR:Hid (V.heap[rb]?=some (dob X size late now v)):=hVR;clear hVR;refine hK.out _ _ hSV (fun _=>?_);clear hK K;change wpAnyH _ _ _ _ _ _ _ (Act.put _ (some 68) _) _;simp only[Act.put,sA,sB,sC];refine tk 16 69 (.pointer (some ⟨rb,35,none⟩)) rfl rfl (by kernel_rfl) (fun _ _ _ h=>h) (Or.inl ⟨by rfl,fun wx _=>by go_simp⟩) hSV ?_;simp only[Act.put,sA,sB,sC];refine tk 17 70 (.pointer (some ⟨rb,38,none⟩)) rfl rfl (by kernel_rfl) (fun _ _ _ h=>h) (Or.inl ⟨by rfl,fun wx _=>by go_simp⟩) hSV ?_;simp only[Act.put,sA,sB,sC];refine wpAnyH_ready (rs:=[18]) (by kernel_rfl) (by simp) ?_;refine AllReadyH.cons rfl (fun K hK=>?_) AllReadyH.nil;go_simp;have hS4:(V.setCell ⟨rb,38,none⟩ (.slice (some ⟨g,0,none⟩) (all.length+1) cap)).cell? ⟨rb,35,none⟩=some (.int .i64 (size:Int))/\(V.setCell ⟨rb,38,none⟩ (.slice (some ⟨g,0,none⟩) (all.length+1) cap)).cell? ⟨w.heap.size,0,none⟩=some (.int .i64 xp)/\(V.setCell ⟨rb,38,none⟩ (.slice (some ⟨g,0,none⟩) (all.length+1) cap)).cell? ⟨w.heap.size,1,none⟩=some (.int .i64 xs)/\(V.setCell ⟨rb,38,none⟩ (.slice (some ⟨g,0,none⟩) (all.length+1) cap)).cell? ⟨w.heap.size,2,none⟩=some (.int .i64 (T:Int))/\(V.setCell ⟨rb,38,none⟩ (.slice (some ⟨g,0,none⟩) (all.length+1) cap)).cell? ⟨w.heap.size,3,none⟩=some (.string xg):=by obtain ⟨s1,s2,s3,s4,s5⟩:=hSV;have hn2:w.heap.size≠rb:=(by omega);have e:∀ a:Addr,a.block=w.heap.size->(V.setCell ⟨rb,38,none⟩ (.slice (some ⟨g,0,none⟩) (all.length+1) cap)).cell? a=V.cell? a:=fun a ha=>World.cell?_of_block (Below.heap_setCell _ _ _ _ (by rw[ha];exact hn2));refine ⟨?_,(e _ rfl).trans s2,(e _ rfl).trans s3,(e _ rfl).trans s4,(e _ rfl).trans s5⟩;exact dob_c0 HXS.out (dob_set3 HXS.out HVR.out _)
  refine hK.out _ _ hS4 (fun _=>?_);clear hK K;refine wpAnyH_done (by kernel_rfl) ?_ _;have HFIN:Hid (RefAt (V.setCell ⟨rb,38,none⟩ (.slice (some ⟨g,0,none⟩) (all.length+1) cap)) rb X (more F w (V.setCell ⟨rb,38,none⟩ (.slice (some ⟨g,0,none⟩) (all.length+1) cap))) size late now (all ++ [⟨xp,xs,(T:Int),xg⟩])/\Kp F w (V.setCell ⟨rb,38,none⟩ (.slice (some ⟨g,0,none⟩) (all.length+1) cap))):=by refine ⟨⟨_,radded (x:=⟨xp,xs,(T:Int),xg⟩) HDZ.out HU.out (by rw[<- HK.out];exact hown) hgrow hat HVR.out (by omega)⟩,?_⟩;exact (((below_kp HBZ.out F).trans (below_kp HU.out F)).trans (grown_kp hgrow (fun b hb=>HDZ.out.fr b hb))).trans (set_kp _ _ _ HDZ.out.fd)
  clear hown hgrow hat hlt hvk hSV hS4 hV3 hVf HVR;go_wp2;go_ret;exact ⟨rfl,HFIN.out⟩
theorem radd_any (x:Sg) (d:RefAt w rb X F size late now all) (h0 : 0<size) (h1:size<=50) (h2:late<=50) (h3:now<=1000) (hal:all.length<=100000) (hF:∀ b,F b->b<w.heap.size) (ht:x.g.size<=maxLen) :
  Calls prog 88 #[.pointer (some ⟨rb,35,none⟩),.agg #[.int .i64 x.p,.int .i64 x.s,.int .i64 x.t,.string x.g]] w fun e w'=>e = .returned (.int .i64 (addF size late now x:Int))/\RefAt w' rb X (more F w w') size late now (if addF size late now x=0 then all ++ [x] else all)/\Kp F w w':=by
 cases hx:okS now x with
 | false=>
  have e:addF size late now x=1:=by simp[addF,hx]
  rw[e];refine (radd_bad x d hx ht).mono ?_;rintro e w' ⟨rfl,hb⟩;exact ⟨rfl,(d.below hb).mono (fun b _ h=>Or.inl h),below_kp hb F⟩
 | true=>
  by_cases hl:epo size x<closedN size late now
  ·have e:addF size late now x=6:=(by simp[addF,hx,hl]);rw[e];refine (radd_late x d h0 h1 h2 h3 hx hl).mono ?_;rintro e w' ⟨rfl,hb⟩;exact ⟨rfl,(d.below hb).mono (fun b _ h=>Or.inl h),below_kp hb F⟩
  ·have e:addF size late now x=0:=(by simp[addF,hx,hl]);rw[e];exact radd_ok x d h0 h1 h2 h3 hx (by omega) hal hF
end
end EqA
namespace WeA
open Go.RowKit TkW WaM WaW WeW Go.Maps
open TkM (Sg epOf)
open TkA (RfAt)
open RuM (Rl)
section
variable (c : Cf) (s : St) (p : Dp)
theorem dcv_bad (n:Nat) (j:Nat) (hj:j<46):dcv c { s with bad:=n } p j=if j=42 then .int .i64 (n:Int) else dcv c s p j:=by
 by_cases h5:j<35
 ·rw[if_neg (by omega)];exact dcv_lo h5 rfl rfl rfl rfl
 ·rcases hi_cases h5 hj with h | h | h | h | h | h | h | h | h | h | h<;>subst h<;>rfl
theorem dcv_nowh (n:Nat) (j:Nat) (hj:j<46):dcv c { s with nowh:=n } p j=if j=43 then .int .i64 (n:Int) else dcv c s p j:=by
 by_cases h5:j<35
 ·rw[if_neg (by omega)];exact dcv_lo h5 rfl rfl rfl rfl
 ·rcases hi_cases h5 hj with h | h | h | h | h | h | h | h | h | h | h<;>subst h<;>rfl
theorem dcv_late (n:Nat) (j:Nat) (hj:j<46):dcv c { s with late:=n } p j=if j=44 then .int .i64 (n:Int) else dcv c s p j:=by
 by_cases h5:j<35
 ·rw[if_neg (by omega)];exact dcv_lo h5 rfl rfl rfl rfl
 ·rcases hi_cases h5 hj with h | h | h | h | h | h | h | h | h | h | h<;>subst h<;>rfl
theorem dcv_full (n:Nat) (j:Nat) (hj:j<46):dcv c { s with full:=n } p j=if j=45 then .int .i64 (n:Int) else dcv c s p j:=by
 by_cases h5:j<35
 ·rw[if_neg (by omega)];exact dcv_lo h5 rfl rfl rfl rfl
 ·rcases hi_cases h5 hj with h | h | h | h | h | h | h | h | h | h | h<;>subst h<;>rfl
theorem dcv_kv (v:Value) (j:Nat) (hj:j<46):dcv c s { p with kv:=v } j=if j=40 then v else dcv c s p j:=by
 by_cases h5:j<35
 ·rw[if_neg (by omega)];exact dcv_lo h5 rfl rfl rfl rfl
 ·rcases hi_cases h5 hj with h | h | h | h | h | h | h | h | h | h | h<;>subst h<;>rfl
theorem dcv_w {j:Nat} (h31:¬ j<31) (h5:j<35):dcv c s p j = .int .i64 (s.warm (j-31)):=by unfold dcv;rw[if_neg (show ¬ j<22 by omega),if_pos h5,if_neg (show ¬ j=22 by omega),if_neg h31]
theorem dcv_warm {r:Nat} (hr:r<4) (n:Int) (j:Nat) (hj:j<46):dcv c { s with warm:=upd s.warm r n } p j=if j=31+r then .int .i64 n else dcv c s p j:=by
 by_cases h5:j<35
 ·by_cases h31:j<31
  ·rw[if_neg (by omega)];unfold dcv;by_cases h22:j<22
   ·rw[if_pos h22,if_pos h22]
   ·rw[if_neg h22,if_neg h22,if_pos h5,if_pos h5];by_cases hq:j=22
    ·rw[if_pos hq,if_pos hq]
    ·rw[if_neg hq,if_neg hq,if_pos h31,if_pos h31]
  ·rw[dcv_w c _ p h31 h5,dcv_w c s p h31 h5];by_cases he:j=31+r
   ·rw[if_pos he];subst he;simp[upd]
   ·rw[if_neg he];have:j-31≠r:=(by omega);simp[upd,this]
 ·rw[if_neg (by omega)];rcases hi_cases h5 hj with h | h | h | h | h | h | h | h | h | h | h<;>subst h<;>rfl
theorem dcv_pl {r a:Nat} (hr:r<4) (ha:a<4):dcv c s p (6+r*4+a) = .int .i64 (c.pl r a):=by
 unfold dcv;rw[if_pos (by omega),if_neg (by omega)];have h1:(6+r*4+a-6)/4=r:=by omega
 have h2:(6+r*4+a-6)%4=a:=by omega
 rw[h1,h2]
end
structure DTo (w w':World) (rb:Nat) (ow:Nat->Nat) (c:Cf) (rs:List Rl) (s:St) (k q:Nat):Prop where
 out:∃ ow',DaK w' rb ow' c rs s k q/\Wp w w' ow ow'
structure Sf (c:Cf) (s:St):Prop where
 cok:c.Ok
 tim:s.now<=1000
 few:(kn s.all).length<=12
 sok:∀ x,x ∈ s.all->EpM.okS s.now x=true/\0<InA.knd x.g
 use:s.sum<=6000
section
variable {w w' w0 : World} {rb : Nat} {ow : Nat → Nat} {c : Cf} {rs : List Rl} {s s' : St} {k q : Nat} {L : List ByteArray} {p : Dp}
theorem DTo.from_below (hb:Below w0.heap.size w0 w) (h:DTo w w' rb ow c rs s k q):DTo w0 w' rb ow c rs s k q:=by obtain ⟨ow',h1,h2⟩:=h.out;exact ⟨ow',h1,(Wp.below hb ow).trans h2⟩
theorem DTo.from_wp {o0:Nat->Nat} (hp:Wp w0 w o0 ow) (h:DTo w w' rb ow c rs s k q):DTo w0 w' rb o0 c rs s k q:=by obtain ⟨ow',h1,h2⟩:=h.out;exact ⟨ow',h1,hp.trans h2⟩
theorem Da.count (h:Da w rb ow c rs s k q L p) {i:Nat} {v:Value} (hc:∀ j,j<46->dcv c s' p j=if j=i then v else dcv c s p j) (ha:s'.all=s.all):Da (w.setCell ⟨rb,i,none⟩ v) rb ow c rs s' k q L p:=
 Da.own h (by simp[World.setCell]) (fun b _ _ hne=>Below.heap_setCell _ _ _ _ hne) (by rw[EqA.cells_set h.blk,dcs_set hc]) ha (WaB.Ep_all ha k)
theorem DTo.count (h:DaK w rb ow c rs s k q) {i:Nat} {v:Value} (hc:∀ p j,j<46->dcv c s' p j=if j=i then v else dcv c s p j) (ha:s'.all=s.all):DTo w (w.setCell ⟨rb,i,none⟩ v) rb ow c rs s' k q:=by obtain ⟨p,h⟩:=h.out;refine ⟨ow,⟨p,?_⟩,⟨set_kp _ _ _ (by show ow rb≠0;rw[h.ob];decide),fun _ h=>Or.inl h⟩⟩;rw[ha];exact Da.count h (hc p) ha
end
end WeA
end Go.Proofs.YtmolafjalaeoaaaGreatDoor
