/-
  TkB
-/
import Derived.Test.YtmolafjalaeoaaaGreatDoorQah
set_option maxRecDepth 100000
set_option maxHeartbeats 8000000
namespace Go.Proofs.YtmolafjalaeoaaaGreatDoor
open Tryz
namespace TkA
open Go.RowKit TkM TkW Go.Maps
open Tk0
theorem zero125 (w:World):(zeroValue 192).run prog w = .ok (.map none) w:=by kernel_rfl
theorem zero142 (w:World):(zeroValue 235).run prog w = .ok (.map none) w:=by kernel_rfl
theorem zero2 (w:World):(zeroValue 2).run prog w = .ok (.int .i64 0) w:=by kernel_rfl
theorem eql125 (T:Nat) (w:World):(binOp .eql 192 (.map (some T)) (.map none)).run prog w = .ok (.bool false) w:=by kernel_rfl
theorem eqn125 (w:World):(binOp .eql 192 (.map none) (.map none)).run prog w = .ok (.bool true) w:=by kernel_rfl
theorem eql142 (T:Nat) (w:World):(binOp .eql 235 (.map (some T)) (.map none)).run prog w = .ok (.bool false) w:=by kernel_rfl
theorem eqn142 (w:World):(binOp .eql 235 (.map none) (.map none)).run prog w = .ok (.bool true) w:=by kernel_rfl
theorem held_run {V:World} {t e k b n:Nat} {D:DataW Value} (hown:V.ownsMap prog k heldV b n D) (K:Keyed prog k) (ht:prog.underlying t=some (.map k e)) (hz:∀ w,(zeroValue e).run prog w = .ok (.map none) w) {key:Value} {kl:Lit} (hkey:keyOf prog k key=some kl) {o:Option Nat} (hv:∀ zd,D.atKey kl zd=dat zd o) :
  (Instr.lookup t (.map (some b)) key false).run prog V = .ok (.map o) V:=by
 obtain ⟨u,ps,hrun,hR⟩:=hown.lookup K ht (hz V) (zd:=.held (.map none)) (zp:=[]) rfl hkey;rw[hv,dat_nil] at hR;unfold heldV at hR;simp at hR;obtain ⟨rfl,_⟩:=hR;exact hrun
theorem key9 {g:ByteArray} (h:g.size<=maxLen):keyOf prog 9 (.string g)=some (.string g.data.toList):=WideMaps.keyOf_string_mk underlying9 h
theorem key3 {k:Int} (h0 : -1000000<=k) (h:k<=1000000):keyOf prog 3 (.int .i64 k)=some (.int .i64 k):=keyOf_int_mk underlying3 (WalkArith.wf_i64 (n:=k) (by omega))
theorem bytes_ext {a b:ByteArray} (h:a.data.toList=b.data.toList):a=b:=by obtain ⟨⟨a⟩⟩:=a;obtain ⟨⟨b⟩⟩:=b;simp at h;rw[h]
section
variable {w : World} {tb : Nat} {who : Nat → Nat × ByteArray × Nat} {W need n r : Nat} {ep : Nat → List Sg}
structure Mid (w V:World) (x:Sg) (tb mb m m' T S mT mS:Nat) (D D' DT DS:DataW Value) (tr:ByteArray->Option Nat) (sp:ByteArray->Nat->Option Nat) (who:Nat->Nat×ByteArray×Nat) (W need n r:Nat) (ep:Nat->List Sg):Prop where
 d:TrIn w tb mb m D tr sp who W need n r ep
 hT:tr x.g=some T\/(tr x.g=none/\w.heap.size<T)
 hS:sp x.g n=some S\/(sp x.g n=none/\w.heap.size<S)
 hTS:T≠S
 hm:V.ownsMap prog 9 heldV mb m' D'
 hm':m'<=r+1
 hkey:∀ (g:ByteArray) (zd:DataW Value),D'.atKey (.string g.data.toList) zd=dat zd (if g=x.g then some T else tr g)
 ht:V.ownsMap prog 3 heldV T mT DT
 hmT:mT<=r+1
 htk:∀ (e:Nat) (zd:DataW Value),DT.atKey (.int .i64 (e:Int)) zd=dat zd (if e=n then some S else sp x.g e)
 hs:V.ownsMap prog 3 (plainElem prog 2) S mS DS
 hmS:mS<=r
 hsk:∀ (p:Int) (zd:DataW Value),DS.atKey (.int .i64 p) zd=spot x.g (ep n) p zd
 box:V.heap[w.heap.size]?=some (.cells #[.int .i64 x.p,.int .i64 x.s,.int .i64 x.t,.string x.g] 43)
 kp:Kp (of who) w V
 ob:∀ b,b<w.heap.size->of who b->b≠mb->b≠T->V.heap[b]?=w.heap[b]?
theorem Mid.sne {V:World} {x:Sg} {mb m m' T S mT mS:Nat} {D D' DT DS:DataW Value} {tr:ByteArray->Option Nat} {sp:ByteArray->Nat->Option Nat} (h:Mid w V x tb mb m m' T S mT mS D D' DT DS tr sp who W need n r ep):S≠mb/\S≠tb/\S≠w.heap.size:=by
 rcases h.hS with h1 | ⟨_,h1⟩
 ·have hw:=h.d.ws _ _ _ h1;refine ⟨fun e=>?_,fun e=>?_,fun e=>?_⟩
  ·rw[e,h.d.wm] at hw;simp at hw
  ·rw[e,h.d.wt] at hw;simp at hw
  ·have:=h.d.lim _ (h.d.fs h1);omega
 ·have h2:=h.d.lt;have h3:=h.d.mlt;omega
theorem Mid.tne {V:World} {x:Sg} {mb m m' T S mT mS:Nat} {D D' DT DS:DataW Value} {tr:ByteArray->Option Nat} {sp:ByteArray->Nat->Option Nat} (h:Mid w V x tb mb m m' T S mT mS D D' DT DS tr sp who W need n r ep):T≠mb/\T≠tb/\T≠w.heap.size:=by
 rcases h.hT with h1 | ⟨_,h1⟩
 ·have hw:=h.d.wr _ _ h1;refine ⟨fun e=>?_,fun e=>?_,fun e=>?_⟩
  ·rw[e,h.d.wm] at hw;simp at hw
  ·rw[e,h.d.wt] at hw;simp at hw
  ·have:=h.d.lim _ (h.d.fr h1);omega
 ·have h2:=h.d.lt;have h3:=h.d.mlt;omega
theorem Mid.done {V V':World} {x:Sg} {mb m m' T S mT mS:Nat} {D D' DT DS:DataW Value} {tr:ByteArray->Option Nat} {sp:ByteArray->Nat->Option Nat} {c:Int} (h:Mid w V x tb mb m m' T S mT mS D D' DT DS tr sp who W need n r ep) (hx:okS x=true) (hl:(ep n).length<6000)
  (hg:V.grownBy V' (some S)) (hc:c=sumAt x.g x.p (ep n)) (ho:V'.ownsMap prog 3 (plainElem prog 2) S (mS+1) (DS.put (.int .i64 x.p) (.lit (.int .i64 (c+x.s))))) :
  ∃ who',TrAt V' tb who' W need n (r+1) (ep1 ep n x)/\Kp (of who) w V'/\∀ b,of who' b->of who b\/w.heap.size<=b:=by
 have hs:=hg.size;have h0:=h.kp.size;have hne:=h.sne;have tne:=h.tne;have hT':tr x.g=some T\/(tr x.g=none/\w.heap.size<=T):=h.hT.imp id (fun h=>⟨h.1,by omega⟩);have hS':sp x.g n=some S\/(sp x.g n=none/\w.heap.size<=S):=h.hS.imp id (fun h=>⟨h.1,by omega⟩);refine ⟨who1 who x.g n T S,⟨mb,m',D',_,_,kept h.d hx hl hT' hS' h.hTS (Nat.lt_of_lt_of_le h.ht.lt hs) (Nat.lt_of_lt_of_le h.hs.lt hs) (Nat.le_trans h0 hs) (fun b h1 h2 h3 h4 h5=>?_) (h.hm.kept hg (fun e=>hne.1 (by simpa using e.symm))) h.hm' h.hkey (h.ht.kept hg (fun e=>h.hTS (by simpa using e))) h.hmT h.htk ho (by have:=h.hmS;omega) (fun p zd=>?_)⟩,?_,fun b hb=>who1_new h.d hT' hS' hb⟩
 ·rw[hg.block b (by omega) (fun e=>h5 (by simpa using e))];exact h.ob b h1 h2 h3 h4
 ·by_cases hp:p=x.p
  ·subst hp;rw[Maps.atKey_put_same h.hs.isMap (keyInt x.p)];unfold spot;have ha:at1 x.g x.p x=true:=at1_iff.2 ⟨rfl,rfl⟩;rw[seenAt_snoc,sumAt_snoc,ha,hc];simp
  ·rw[Maps.atKey_put_other (fun e=>hp (by simpa using e)),h.hsk];unfold spot
   have ha:at1 x.g p x=false:=by
    cases h':at1 x.g p x
    ·rfl
    ·exact absurd (at1_iff.1 h').2.symm hp
   rw[seenAt_snoc,sumAt_snoc,ha];simp
 ·refine h.kp.then (grown_kp (F:=fun b=>b=S) hg (fun k hk=>by simpa using hk.symm)) (fun i hi hF=>?_);have hF:i=S:=hF;subst hF;rcases h.hS with h1 | ⟨_,h1⟩
  ·exact h.d.fs h1
  ·omega
theorem Mid.drew {V:World} {x:Sg} {mb m m' T S mT mS:Nat} {D D' DT DS:DataW Value} {tr:ByteArray->Option Nat} {sp:ByteArray->Nat->Option Nat} (h:Mid w V x tb mb m m' T S mT mS D D' DT DS tr sp who W need n r ep):Mid w V.drew x tb mb m m' T S mT mS D D' DT DS tr sp who W need n r ep:=
 ⟨h.d,h.hT,h.hS,h.hTS,h.hm.drew,h.hm',h.hkey,h.ht.drew,h.hmT,h.htk,h.hs.drew,h.hmS,h.hsk,h.box,h.kp.trans (below_kp (drewN_below V 1) _),h.ob⟩
theorem mid_cells {V:World} {x:Sg} {mb m m' T S mT mS:Nat} {D D' DT DS:DataW Value} {tr:ByteArray->Option Nat} {sp:ByteArray->Nat->Option Nat} (h:Mid w V x tb mb m m' T S mT mS D D' DT DS tr sp who W need n r ep) :
  V.drew.cell? ⟨tb,2,none⟩=some (.int .i64 (n:Int))/\V.drew.cell? ⟨w.heap.size,0,none⟩=some (.int .i64 x.p)/\V.drew.cell? ⟨w.heap.size,1,none⟩=some (.int .i64 x.s)/\V.drew.ownsMap prog 3 heldV T mT DT:=by
 have hne:=h.tne;refine ⟨?_,?_,?_,h.ht.drew⟩
 ·show V.cell? _ = _;rw[World.cell?_of_block (w:=w) (h.ob tb h.d.lt h.d.ft (fun e=>h.d.ne e.symm) (fun e=>hne.2.1 e.symm))];exact h.d.c2
 ·show V.cell? _ = _;simp[World.cell?,h.box]
 ·show V.cell? _ = _;simp[World.cell?,h.box]
theorem mid_c (x:Sg) {mb m:Nat} {D:DataW Value} {tr:ByteArray->Option Nat} {sp:ByteArray->Nat->Option Nat} {T S:Nat} (d:TrIn w tb mb m D tr sp who W need n r ep) (hT:tr x.g=some T) (hS:sp x.g n=some S) (q:Nat) :
  ∃ mT DT mS DS,Mid w ((w.alloc (.cells #[.int .i64 x.p,.int .i64 x.s,.int .i64 x.t,.string x.g] 43)).drewN q) x tb mb m m T S mT mS D D DT DS tr sp who W need n r ep:=by
 have hb:Below w.heap.size w ((w.alloc (.cells #[.int .i64 x.p,.int .i64 x.s,.int .i64 x.t,.string x.g] 43)).drewN q):=((Below.refl _ w).alloc (Nat.le_refl _) _).trans ((drewN_below _ q).mono (by simp));have d1:=d.below hb;obtain ⟨mT,DT,t1,t2,t3⟩:=d1.trl _ _ hT;obtain ⟨mS,DS,s1,s2,s3⟩:=d1.spl _ _ _ hS;have hr:=d.room;refine ⟨mT,DT,mS,DS,d,Or.inl hT,Or.inl hS,fun e=>?_,d1.own,by omega,fun g zd=>?_,t1,by omega,fun e zd=>?_,s1,s2,s3,Go.heap_alloc_new w _,below_kp hb _,fun b h1 _ _ _=>hb.block b h1⟩
 ·have h1:=d.wr _ _ hT;rw[e,d.ws _ _ _ hS] at h1;simp at h1
 ·rw[d.key];by_cases h:g=x.g
  ·rw[if_pos h,h,hT]
  ·rw[if_neg h]
 ·rw[t3];by_cases h:e=n
  ·rw[if_pos h,h,hS]
  ·rw[if_neg h]
theorem keep_c (x:Sg) {mb m:Nat} {D:DataW Value} {tr:ByteArray->Option Nat} {sp:ByteArray->Nat->Option Nat} {T S:Nat} (d:TrIn w tb mb m D tr sp who W need n r ep) (hx:okS x=true) (hg:x.g.size<=100000) (hn:n<=1000) (hr:r<=100000) (hl:(ep n).length<6000) (hT:tr x.g=some T) (hS:sp x.g n=some S) :
  Calls prog 108 #[.pointer (some ⟨tb,0,none⟩),.agg #[.int .i64 x.p,.int .i64 x.s,.int .i64 x.t,.string x.g]] w fun e w'=>e = .returned (.tuple #[])/\∃ who',TrAt w' tb who' W need n (r+1) (ep1 ep n x)/\Kp (of who) w w'/\∀ b,of who' b->of who b\/w.heap.size<=b:=by
 have mixed:prog.follows .mixedOrders=true:=by kernel_rfl
 have HX:Hid (okS x=true):=hx;have HL:Hid ((ep n).length<6000):=hl;have HSB:Hid (∀ y,y ∈ ep n->0<=y.s/\y.s<=255):=fun y hy=>(okS_iff.1 (d.ok n y hy)).2;obtain ⟨⟨xp0,xp1⟩,xs0,xs1⟩:=okS_iff.1 hx;have HMQ:Hid (∀ q,∃ mT DT mS DS,Mid w ((w.alloc (.cells #[.int .i64 x.p,.int .i64 x.s,.int .i64 x.t,.string x.g] 43)).drewN q) x tb mb m m T S mT mS D D DT DS tr sp who W need n r ep):=fun q=>mid_c x d hT hS q;obtain ⟨xp,xs,xt,xg⟩:=x;simp only at hT hS hg xp0 xp1 xs0 xs1 ⊢;have hd1:∀ q,TrIn ((w.alloc (.cells #[.int .i64 xp,.int .i64 xs,.int .i64 xt,.string xg] 43)).drewN q) tb mb m D tr sp who W need n r ep:=fun q=>d.below (((Below.refl _ w).alloc (Nat.le_refl _) _).trans ((drewN_below _ q).mono (by simp)));have hrun:∀ q,(Instr.lookup 162 (.map (some mb)) (.string xg) false).run prog ((w.alloc (.cells #[.int .i64 xp,.int .i64 xs,.int .i64 xt,.string xg] 43)).drewN q) = .ok (.map (some T)) ((w.alloc (.cells #[.int .i64 xp,.int .i64 xs,.int .i64 xt,.string xg] 43)).drewN q):=fun q=>held_run (hd1 q).own law9 underlying162 zero125 (key9 (g:=xg) (by unfold maxLen;omega)) (fun zd=>by rw[d.key xg,hT]);have hrun2:∀ q,(Instr.lookup 192 (.map (some T)) (.int .i64 (n:Int)) false).run prog ((w.alloc (.cells #[.int .i64 xp,.int .i64 xs,.int .i64 xt,.string xg] 43)).drewN q) = .ok (.map (some S)) ((w.alloc (.cells #[.int .i64 xp,.int .i64 xs,.int .i64 xt,.string xg] 43)).drewN q):=fun q=>by obtain ⟨mT,DT,h1,_,h3⟩:=(hd1 q).trl xg T hT;exact held_run h1 law3 underlying192 zero142 (key3 (by omega) (by omega)) (fun zd=>by rw[h3,hS])
 have hd0:TrIn (w.alloc (.cells #[.int .i64 xp,.int .i64 xs,.int .i64 xt,.string xg] 43)) tb mb m D tr sp who W need n r ep:=d.below ((Below.refl _ w).alloc (Nat.le_refl _) _);have c3:=hd0.c3;have c2:=hd0.c2;have q1:=eql125 T;have q2:=eql142 S;clear hd1 hd0 hx hl;go_enter func108,ntmps108;go_wp2;go_quiet (fail);go_wp2;clear hrun hrun2 c3 c2 q1 q2;obtain ⟨mT,DT,mS,DS,hM⟩:=HMQ.out nq;obtain ⟨V,hV⟩:∃ V,V=(w.alloc (.cells #[.int .i64 xp,.int .i64 xs,.int .i64 xt,.string xg] 43)).drewN nq:=⟨_,rfl⟩;rw[<- hV] at hM ⊢;have HM:Hid (Mid w V ⟨xp,xs,xt,xg⟩ tb mb m m T S mT mS D D DT DS tr sp who W need n r ep):=hM;have HS0:Hid (∀ V,Mid w V ⟨xp,xs,xt,xg⟩ tb mb m m T S mT mS D D DT DS tr sp who W need n r ep->V.drew.cell? ⟨tb,2,none⟩=some (.int .i64 (n:Int))/\V.drew.cell? ⟨w.heap.size,0,none⟩=some (.int .i64 xp)/\V.drew.cell? ⟨w.heap.size,1,none⟩=some (.int .i64 xs)/\V.drew.ownsMap prog 3 heldV T mT DT):=fun V h=>mid_cells h;clear hM hV HMQ d;have hs0:V.drew.cell? ⟨tb,2,none⟩=some (.int .i64 (n:Int))/\V.drew.cell? ⟨w.heap.size,0,none⟩=some (.int .i64 xp)/\V.drew.cell? ⟨w.heap.size,1,none⟩=some (.int .i64 xs)/\V.drew.ownsMap prog 3 heldV T mT DT:=HS0.out V HM.out;have hS0:=hs0;have HLT:Hid (∀ U:World,U.ownsMap prog 3 heldV T mT DT->(Instr.lookup 192 (.map (some T)) (.int .i64 (n:Int)) false).run prog U = .ok (.map (some S)) U):=fun U hU=>held_run hU law3 underlying192 zero142 (key3 (by omega) (by omega)) (fun zd=>by rw[HM.out.htk,if_pos rfl]);obtain ⟨c,hrunc,hatc,hwc⟩:=HM.out.hs.lookup_int law3 underlying235 underlying2 (zero2 V) (key3 (k:=xp) (by omega) (by omega))
 have HC:Hid (c=sumAt xg xp (ep n)):=by
  rw[HM.out.hsk] at hatc;unfold spot at hatc;cases hse:seenAt xg xp (ep n)
  ·rw[hse] at hatc;simp at hatc;show c = _;rw[sumAt_none hse];omega
  ·rw[hse] at hatc;simp at hatc;exact hatc.symm
 have hcb:=sumAt_bound xg xp (ep n) HSB.out;rw[<- HC.out] at hcb;have hc0 : 0<=c:=hcb.1;have hc1:c<=1530000:=by have:=hcb.2;have:=HL.out;omega
 have hrunc':(Instr.lookup 235 (.map (some S)) (.int .i64 xp) false).run prog V.drew = .ok (.int .i64 c) V.drew:=by obtain ⟨c',hr',ha',_⟩:=(HM.out.hs.drew).lookup_int law3 underlying235 underlying2 (zero2 V.drew) (key3 (k:=xp) (by omega) (by omega));rw[hatc] at ha';simp at ha';rw[ha'];exact hr'
 obtain ⟨w4,hrun4,hm4,hg4⟩:=(HM.out.hs.drew).update (val:=.int .i64 (c+xs)) (d:=.lit (.int .i64 (c+xs))) (ps:=[]) law3 underlying235 (by have:=HM.out.hmS;unfold maxLen;omega) (key3 (k:=xp) (by omega) (by omega)) (plainElem_int underlying2 (WalkArith.wf_i64 (n:=c+xs) (by omega)));have HR:Hid ((Instr.lookup 235 (.map (some S)) (.int .i64 xp) false).run prog V.drew = .ok (.int .i64 c) V.drew):=hrunc';have HU:Hid ((Instr.mapUpdate 235 (.map (some S)) (.int .i64 xp) (.int .i64 (c+xs))).run prog V.drew = .ok () w4):=hrun4;have HFIN:Hid (∃ who',TrAt w4 tb who' W need n (r+1) (ep1 ep n ⟨xp,xs,xt,xg⟩)/\Kp (of who) w w4/\∀ b,of who' b->of who b\/w.heap.size<=b):=HM.out.drew.done (x:=⟨xp,xs,xt,xg⟩) HX.out HL.out hg4 HC.out hm4;have HS4:Hid (w4.cell? ⟨tb,2,none⟩=some (.int .i64 (n:Int))/\w4.cell? ⟨w.heap.size,0,none⟩=some (.int .i64 xp)/\w4.cell? ⟨w.heap.size,1,none⟩=some (.int .i64 xs)/\w4.ownsMap prog 3 heldV T mT DT):=by obtain ⟨s1,s2,s3,s4⟩:=hs0;have hne:=HM.out.sne;exact ⟨hg4.cell s1 (fun e=>hne.2.1 (by simpa using e.symm)),hg4.cell s2 (fun e=>hne.2.2 (by simpa using e.symm)),hg4.cell s3 (fun e=>hne.2.2 (by simpa using e.symm)),s4.kept hg4 (fun e=>HM.out.hTS (by simpa using e))⟩
 clear hrunc hatc hwc hcb hrunc' hrun4 hm4 hg4 hs0;refine wp_region_held_drew (S:=fun U=>U.cell? ⟨tb,2,none⟩=some (.int .i64 (n:Int))/\U.cell? ⟨w.heap.size,0,none⟩=some (.int .i64 xp)/\U.cell? ⟨w.heap.size,1,none⟩=some (.int .i64 xs)/\U.ownsMap prog 3 heldV T mT DT) (by kernel_rfl) hS0 (fun _=>?_);refine tk 0 36 (.map (some T)) rfl rfl (by kernel_rfl) (fun _ _ _ h=>h) (Or.inl ⟨by rfl,fun wx _=>by go_simp⟩) hS0 ?_;simp only[Act.put,sA,sB,sC];refine tk 1 37 (.pointer (some ⟨tb,0,none⟩)) rfl rfl (by kernel_rfl) (fun _ _ _ h=>h) (Or.inl ⟨by rfl,fun wx _=>by go_simp⟩) hS0 ?_;simp only[Act.put,sA,sB,sC];refine tk 2 38 (.pointer (some ⟨tb,0,none⟩)) rfl rfl (by kernel_rfl) (fun _ _ _ h=>h) (Or.inl ⟨by rfl,fun wx _=>by go_simp⟩) hS0 ?_;simp only[Act.put,sA,sB,sC];refine tk 3 39 (.pointer (some ⟨tb,2,none⟩)) rfl rfl (by kernel_rfl) (fun _ _ _ h=>h) (Or.inl ⟨by rfl,fun wx _=>by go_simp⟩) hS0 ?_;simp only[Act.put,sA,sB,sC];refine tk 4 40 (.int .i64 (n:Int)) rfl rfl (by kernel_rfl) (fun _ _ _ h=>h) (Or.inl ⟨by rfl,fun wx hS=>by (try dsimp only at hS);obtain ⟨s1,s2,s3,s4⟩:=hS;go_simp⟩) hS0 ?_;simp only[Act.put,sA,sB,sC];refine tk 5 41 (.map (some S)) rfl rfl (by kernel_rfl) (fun _ _ _ h=>h) (Or.inl ⟨by rfl,fun wx hS=>by (try dsimp only at hS);obtain ⟨s1,s2,s3,s4⟩:=hS;have hrun:=HLT.out _ s4;go_simp⟩) hS0 ?_;simp only[Act.put,sA,sB,sC];refine tk 6 42 (.pointer (some ⟨w.heap.size,0,none⟩)) rfl rfl (by kernel_rfl) (fun _ _ _ h=>h) (Or.inl ⟨by rfl,fun wx _=>by go_simp⟩) hS0 ?_;simp only[Act.put,sA,sB,sC];refine tk 7 43 (.int .i64 xp) rfl rfl (by kernel_rfl) (fun _ _ _ h=>h) (Or.inl ⟨by rfl,fun wx hS=>by (try dsimp only at hS);obtain ⟨s1,s2,s3,s4⟩:=hS;go_simp⟩) hS0 ?_;simp only[Act.put,sA,sB,sC];refine tk 9 45 (.pointer (some ⟨w.heap.size,1,none⟩)) rfl rfl (by kernel_rfl) (fun _ _ _ h=>h) (Or.inl ⟨by rfl,fun wx _=>by go_simp⟩) hS0 ?_;simp only[Act.put,sA,sB,sC];refine tk 10 46 (.int .i64 xs) rfl rfl (by kernel_rfl) (fun _ _ _ h=>h) (Or.inl ⟨by rfl,fun wx hS=>by (try dsimp only at hS);obtain ⟨s1,s2,s3,s4⟩:=hS;go_simp⟩) hS0 ?_;simp only[Act.put,sA,sB,sC];refine wpAnyH_ready (rs:=[8]) (by kernel_rfl) (by simp) ?_;refine AllReadyH.cons rfl (fun K hK=>?_) AllReadyH.nil;have hrun:=HR.out;go_simp;clear hrun;refine hK.out _ _ hS0 (fun _=>?_);clear hK K;refine tk 11 47 (.int .i64 (c+xs)) rfl rfl (by kernel_rfl) (fun _ _ _ h=>h) (Or.inl ⟨by rfl,fun wx _=>by go_simp;exact IntWalk.i64_in _ (by omega)⟩) hS0 ?_;simp only[Act.put,sA,sB,sC];refine wpAnyH_ready (rs:=[12]) (by kernel_rfl) (by simp) ?_;refine AllReadyH.cons rfl (fun K hK=>?_) AllReadyH.nil;have hrun:=HU.out;go_simp;clear hrun;refine hK.out _ _ HS4.out (fun _=>?_);clear hK K;refine wpAnyH_done (by kernel_rfl) ?_ _;clear HS4 HU HR HM;go_wp2;go_end0;exact ⟨rfl,HFIN.out⟩
theorem spot_none {g:ByteArray} {l:List Sg} {p:Int} {zd:DataW Value} (h:seenG g l=false):spot g l p zd=zd:=by unfold spot;rw[if_neg (fun h'=>by rw[seenAt_seen h'] at h;cases h)]
theorem mid_b (x:Sg) {mb m mT:Nat} {D DT:DataW Value} {tr:ByteArray->Option Nat} {sp:ByteArray->Nat->Option Nat} {T:Nat} {V w1:World} (d:TrIn w tb mb m D tr sp who W need n r ep) (hT:tr x.g=some T) (hS:sp x.g n=none) (hb:Below w.heap.size w V) (hsz:w.heap.size<V.heap.size) (hbx:V.heap[w.heap.size]?=some (.cells #[.int .i64 x.p,.int .i64 x.s,.int .i64 x.t,.string x.g] 43))
  (hmT:mT<=r) (htk:∀ (e:Nat) (zd:DataW Value),DT.atKey (.int .i64 (e:Int)) zd=dat zd (sp x.g e)) (hg:(V.alloc (.map #[] 0)).grownBy w1 (some T)) (ho:w1.ownsMap prog 3 heldV T (mT+1) (DT.put (.int .i64 (n:Int)) (.held (.map (some V.heap.size))))) (hmap:IsMap DT) :
  Mid w w1 x tb mb m m T V.heap.size (mT+1) 0 D D (DT.put (.int .i64 (n:Int)) (.held (.map (some V.heap.size)))) (.map []) tr sp who W need n r ep:=by
 have hr:=d.room;have hTlt:=d.lim T (d.fr hT);have hmt:mb≠T:=fun e=>by have h1:=d.wr _ _ hT;rw[<- e,d.wm] at h1;simp at h1
 have d1:=d.below hb;have old:∀ b,b<V.heap.size->b≠T->w1.heap[b]?=V.heap[b]?:=fun b h1 h2=>by rw[hg.block b (by simp;omega) (fun e=>h2 (by simpa using e))];exact Below.heap_alloc V _ b h1
 refine ⟨d,Or.inl hT,Or.inr ⟨hS,hsz⟩,by omega,map_keep d1.own (old mb d1.mlt hmt),by omega,fun g zd=>?_,ho,by omega,fun e zd=>?_,?_,Nat.zero_le _,fun p zd=>?_,?_,?_,fun b h1 _ _ h4=>?_⟩
 ·rw[d.key];by_cases h:g=x.g
  ·rw[if_pos h,h,hT]
  ·rw[if_neg h]
 ·by_cases h:e=n
  ·rw[if_pos h,h,Maps.atKey_put_same hmap (keyInt n)];rfl
  ·rw[if_neg h,Maps.atKey_put_other (fun e'=>h (by simp at e';omega)),htk]
 ·refine map_keep (World.ownsMap_made V prog 3 (plainElem prog 2)) (hg.block _ (by simp) (fun e=>?_));simp at e;omega
 ·rw[spot_none (by rw[<- d.tolde,hS];rfl)];rfl
 ·rw[old _ hsz (by omega)];exact hbx
 ·exact (below_kp hb _).then ((alloc_kp (fun b=>b=T) V _).trans (grown_kp hg (fun k hk=>by simpa using hk.symm))) (fun i _ h=>by rw[show i=T from h];exact d.fr hT)
 ·rw[old b (by omega) h4];exact hb.block b h1
theorem keep_b (x:Sg) {mb m:Nat} {D:DataW Value} {tr:ByteArray->Option Nat} {sp:ByteArray->Nat->Option Nat} {T:Nat} (d:TrIn w tb mb m D tr sp who W need n r ep) (hx:okS x=true) (hg:x.g.size<=100000) (hn:n<=1000) (hr:r<=100000) (hl:(ep n).length<6000) (hT:tr x.g=some T) (hS:sp x.g n=none) :
  Calls prog 108 #[.pointer (some ⟨tb,0,none⟩),.agg #[.int .i64 x.p,.int .i64 x.s,.int .i64 x.t,.string x.g]] w fun e w'=>e = .returned (.tuple #[])/\∃ who',TrAt w' tb who' W need n (r+1) (ep1 ep n x)/\Kp (of who) w w'/\∀ b,of who' b->of who b\/w.heap.size<=b:=by
 have mixed:prog.follows .mixedOrders=true:=by kernel_rfl
 have hmm:=@run_makeMap prog;have HX:Hid (okS x=true):=hx;have HL:Hid ((ep n).length<6000):=hl;have HSB:Hid (∀ y,y ∈ ep n->0<=y.s/\y.s<=255):=fun y hy=>(okS_iff.1 (d.ok n y hy)).2;obtain ⟨⟨xp0,xp1⟩,xs0,xs1⟩:=okS_iff.1 hx;obtain ⟨mT,DT,t1,t2,t3⟩:=d.trl _ _ hT;have hbq:∀ q,Below w.heap.size w ((w.alloc (.cells #[.int .i64 x.p,.int .i64 x.s,.int .i64 x.t,.string x.g] 43)).drewN q):=fun q=>((Below.refl _ w).alloc (Nat.le_refl _) _).trans ((drewN_below _ q).mono (by simp))
 have HMQ:Hid (∀ q w1,(((w.alloc (.cells #[.int .i64 x.p,.int .i64 x.s,.int .i64 x.t,.string x.g] 43)).drewN q).alloc (.map #[] 0)).grownBy w1 (some T)->w1.ownsMap prog 3 heldV T (mT+1) (DT.put (.int .i64 (n:Int)) (.held (.map (some (w.heap.size+1)))))->Mid w w1 x tb mb m m T (w.heap.size+1) (mT+1) 0 D D (DT.put (.int .i64 (n:Int)) (.held (.map (some (w.heap.size+1))))) (.map []) tr sp who W need n r ep):=fun q w1 h1 h2=>by
  have hz:((w.alloc (.cells #[.int .i64 x.p,.int .i64 x.s,.int .i64 x.t,.string x.g] 43)).drewN q).heap.size=w.heap.size+1:=by show (w.alloc _).heap.size = _;simp
  have:=mid_b x d hT hS (hbq q) (by rw[hz];omega) (Go.heap_alloc_new w _) t2 t3 h1 (by rw[hz];exact h2) t1.isMap;rw[hz] at this;exact this
 have hownq:∀ q,(((w.alloc (.cells #[.int .i64 x.p,.int .i64 x.s,.int .i64 x.t,.string x.g] 43)).drewN q).alloc (.map #[] 0)).ownsMap prog 3 heldV T mT DT:=fun q=>(map_keep t1 ((hbq q).block _ t1.lt)).alloc _;obtain ⟨xp,xs,xt,xg⟩:=x;simp only at hT hS hg xp0 xp1 xs0 xs1 t3 hownq hbq ⊢;have hd1:∀ q,TrIn ((w.alloc (.cells #[.int .i64 xp,.int .i64 xs,.int .i64 xt,.string xg] 43)).drewN q) tb mb m D tr sp who W need n r ep:=fun q=>d.below (hbq q);have hrun:∀ q,(Instr.lookup 162 (.map (some mb)) (.string xg) false).run prog ((w.alloc (.cells #[.int .i64 xp,.int .i64 xs,.int .i64 xt,.string xg] 43)).drewN q) = .ok (.map (some T)) ((w.alloc (.cells #[.int .i64 xp,.int .i64 xs,.int .i64 xt,.string xg] 43)).drewN q):=fun q=>held_run (hd1 q).own law9 underlying162 zero125 (key9 (g:=xg) (by unfold maxLen;omega)) (fun zd=>by rw[d.key xg,hT])
 have hrun2:∀ q,(Instr.lookup 192 (.map (some T)) (.int .i64 (n:Int)) false).run prog ((w.alloc (.cells #[.int .i64 xp,.int .i64 xs,.int .i64 xt,.string xg] 43)).drewN q) = .ok (.map none) ((w.alloc (.cells #[.int .i64 xp,.int .i64 xs,.int .i64 xt,.string xg] 43)).drewN q):=fun q=>
  held_run (map_keep t1 ((hbq q).block _ t1.lt)) law3 underlying192 zero142 (key3 (by omega) (by omega)) (fun zd=>by rw[t3,hS])
 have hd0:TrIn (w.alloc (.cells #[.int .i64 xp,.int .i64 xs,.int .i64 xt,.string xg] 43)) tb mb m D tr sp who W need n r ep:=d.below ((Below.refl _ w).alloc (Nat.le_refl _) _);have c3:=hd0.c3;have c2:=hd0.c2;have q1:=eql125 T;have q2:=eqn142;have hmT:mT<maxLen:=by unfold maxLen;omega
 clear hd1 hd0 hx hl t1 t2 t3 hbq;go_enter func108,ntmps108;go_wp2;go_quiet (fail);go_wp2_with (first | (at_mapUpdate;refine wpList_mapUpdate_own _ rfl _ _ _ 192 rfl 3 235 law3 underlying192 _ T mT DT rfl (hownq nq) hmT _ _ _ rfl rfl (key3 (k:=(n:Int)) (by omega) (by omega)) _ [] rfl ?_;intro V hown1 hgrow1));clear hrun hrun2 c3 c2 q1 q2 hownq hmm;have hM:=HMQ.out nq V hgrow1 hown1;clear hown1 hgrow1;obtain ⟨S,hSS⟩:∃ S,S=w.heap.size+1:=⟨_,rfl⟩;obtain ⟨DT',hDT⟩:∃ DT',DT'=DT.put (.int .i64 (n:Int)) (.held (.map (some (w.heap.size+1)))):=⟨_,rfl⟩;obtain ⟨mT',hmT'⟩:∃ mT',mT'=mT+1:=⟨_,rfl⟩;rw[<- hDT,<- hmT',<- hSS] at hM;clear hDT hmT' hmT HMQ d;have HM:Hid (Mid w V ⟨xp,xs,xt,xg⟩ tb mb m m T S mT' 0 D D DT' (.map []) tr sp who W need n r ep):=hM;have HS0:Hid (∀ V,Mid w V ⟨xp,xs,xt,xg⟩ tb mb m m T S mT' 0 D D DT' (.map []) tr sp who W need n r ep->V.drew.cell? ⟨tb,2,none⟩=some (.int .i64 (n:Int))/\V.drew.cell? ⟨w.heap.size,0,none⟩=some (.int .i64 xp)/\V.drew.cell? ⟨w.heap.size,1,none⟩=some (.int .i64 xs)/\V.drew.ownsMap prog 3 heldV T mT' DT'):=fun V h=>mid_cells h;clear hM hSS;have hs0:V.drew.cell? ⟨tb,2,none⟩=some (.int .i64 (n:Int))/\V.drew.cell? ⟨w.heap.size,0,none⟩=some (.int .i64 xp)/\V.drew.cell? ⟨w.heap.size,1,none⟩=some (.int .i64 xs)/\V.drew.ownsMap prog 3 heldV T mT' DT':=HS0.out V HM.out;have hS0:=hs0;have HLT:Hid (∀ U:World,U.ownsMap prog 3 heldV T mT' DT'->(Instr.lookup 192 (.map (some T)) (.int .i64 (n:Int)) false).run prog U = .ok (.map (some S)) U):=fun U hU=>held_run hU law3 underlying192 zero142 (key3 (by omega) (by omega)) (fun zd=>by rw[HM.out.htk,if_pos rfl]);obtain ⟨c,hrunc,hatc,hwc⟩:=HM.out.hs.lookup_int law3 underlying235 underlying2 (zero2 V) (key3 (k:=xp) (by omega) (by omega))
 have HC:Hid (c=sumAt xg xp (ep n)):=by
  rw[HM.out.hsk] at hatc;unfold spot at hatc;cases hse:seenAt xg xp (ep n)
  ·rw[hse] at hatc;simp at hatc;show c = _;rw[sumAt_none hse];omega
  ·rw[hse] at hatc;simp at hatc;exact hatc.symm
 have hcb:=sumAt_bound xg xp (ep n) HSB.out;rw[<- HC.out] at hcb;have hc0 : 0<=c:=hcb.1;have hc1:c<=1530000:=by have:=hcb.2;have:=HL.out;omega
 have hrunc':(Instr.lookup 235 (.map (some S)) (.int .i64 xp) false).run prog V.drew = .ok (.int .i64 c) V.drew:=by obtain ⟨c',hr',ha',_⟩:=(HM.out.hs.drew).lookup_int law3 underlying235 underlying2 (zero2 V.drew) (key3 (k:=xp) (by omega) (by omega));rw[hatc] at ha';simp at ha';rw[ha'];exact hr'
 obtain ⟨w4,hrun4,hm4,hg4⟩:=(HM.out.hs.drew).update (val:=.int .i64 (c+xs)) (d:=.lit (.int .i64 (c+xs))) (ps:=[]) law3 underlying235 (by have:=HM.out.hmS;unfold maxLen;omega) (key3 (k:=xp) (by omega) (by omega)) (plainElem_int underlying2 (WalkArith.wf_i64 (n:=c+xs) (by omega)));have HR:Hid ((Instr.lookup 235 (.map (some S)) (.int .i64 xp) false).run prog V.drew = .ok (.int .i64 c) V.drew):=hrunc';have HU:Hid ((Instr.mapUpdate 235 (.map (some S)) (.int .i64 xp) (.int .i64 (c+xs))).run prog V.drew = .ok () w4):=hrun4;have HFIN:Hid (∃ who',TrAt w4 tb who' W need n (r+1) (ep1 ep n ⟨xp,xs,xt,xg⟩)/\Kp (of who) w w4/\∀ b,of who' b->of who b\/w.heap.size<=b):=HM.out.drew.done (x:=⟨xp,xs,xt,xg⟩) HX.out HL.out hg4 HC.out hm4;have HS4:Hid (w4.cell? ⟨tb,2,none⟩=some (.int .i64 (n:Int))/\w4.cell? ⟨w.heap.size,0,none⟩=some (.int .i64 xp)/\w4.cell? ⟨w.heap.size,1,none⟩=some (.int .i64 xs)/\w4.ownsMap prog 3 heldV T mT' DT'):=by obtain ⟨s1,s2,s3,s4⟩:=hs0;have hne:=HM.out.sne;exact ⟨hg4.cell s1 (fun e=>hne.2.1 (by simpa using e.symm)),hg4.cell s2 (fun e=>hne.2.2 (by simpa using e.symm)),hg4.cell s3 (fun e=>hne.2.2 (by simpa using e.symm)),s4.kept hg4 (fun e=>HM.out.hTS (by simpa using e))⟩
 clear hrunc hatc hwc hcb hrunc' hrun4 hm4 hg4 hs0;refine wp_region_held_drew (S:=fun U=>U.cell? ⟨tb,2,none⟩=some (.int .i64 (n:Int))/\U.cell? ⟨w.heap.size,0,none⟩=some (.int .i64 xp)/\U.cell? ⟨w.heap.size,1,none⟩=some (.int .i64 xs)/\U.ownsMap prog 3 heldV T mT' DT') (by kernel_rfl) hS0 (fun _=>?_);refine tk 0 36 (.map (some T)) rfl rfl (by kernel_rfl) (fun _ _ _ h=>h) (Or.inl ⟨by rfl,fun wx _=>by go_simp⟩) hS0 ?_;simp only[Act.put,sA,sB,sC];refine tk 1 37 (.pointer (some ⟨tb,0,none⟩)) rfl rfl (by kernel_rfl) (fun _ _ _ h=>h) (Or.inl ⟨by rfl,fun wx _=>by go_simp⟩) hS0 ?_;simp only[Act.put,sA,sB,sC];refine tk 2 38 (.pointer (some ⟨tb,0,none⟩)) rfl rfl (by kernel_rfl) (fun _ _ _ h=>h) (Or.inl ⟨by rfl,fun wx _=>by go_simp⟩) hS0 ?_;simp only[Act.put,sA,sB,sC];refine tk 3 39 (.pointer (some ⟨tb,2,none⟩)) rfl rfl (by kernel_rfl) (fun _ _ _ h=>h) (Or.inl ⟨by rfl,fun wx _=>by go_simp⟩) hS0 ?_;simp only[Act.put,sA,sB,sC];refine tk 4 40 (.int .i64 (n:Int)) rfl rfl (by kernel_rfl) (fun _ _ _ h=>h) (Or.inl ⟨by rfl,fun wx hS=>by (try dsimp only at hS);obtain ⟨s1,s2,s3,s4⟩:=hS;go_simp⟩) hS0 ?_;simp only[Act.put,sA,sB,sC];refine tk 5 41 (.map (some S)) rfl rfl (by kernel_rfl) (fun _ _ _ h=>h) (Or.inl ⟨by rfl,fun wx hS=>by (try dsimp only at hS);obtain ⟨s1,s2,s3,s4⟩:=hS;have hrun:=HLT.out _ s4;go_simp⟩) hS0 ?_;simp only[Act.put,sA,sB,sC];refine tk 6 42 (.pointer (some ⟨w.heap.size,0,none⟩)) rfl rfl (by kernel_rfl) (fun _ _ _ h=>h) (Or.inl ⟨by rfl,fun wx _=>by go_simp⟩) hS0 ?_;simp only[Act.put,sA,sB,sC];refine tk 7 43 (.int .i64 xp) rfl rfl (by kernel_rfl) (fun _ _ _ h=>h) (Or.inl ⟨by rfl,fun wx hS=>by (try dsimp only at hS);obtain ⟨s1,s2,s3,s4⟩:=hS;go_simp⟩) hS0 ?_;simp only[Act.put,sA,sB,sC];refine tk 9 45 (.pointer (some ⟨w.heap.size,1,none⟩)) rfl rfl (by kernel_rfl) (fun _ _ _ h=>h) (Or.inl ⟨by rfl,fun wx _=>by go_simp⟩) hS0 ?_;simp only[Act.put,sA,sB,sC];refine tk 10 46 (.int .i64 xs) rfl rfl (by kernel_rfl) (fun _ _ _ h=>h) (Or.inl ⟨by rfl,fun wx hS=>by (try dsimp only at hS);obtain ⟨s1,s2,s3,s4⟩:=hS;go_simp⟩) hS0 ?_;simp only[Act.put,sA,sB,sC];refine wpAnyH_ready (rs:=[8]) (by kernel_rfl) (by simp) ?_;refine AllReadyH.cons rfl (fun K hK=>?_) AllReadyH.nil;have hrun:=HR.out;go_simp;clear hrun;refine hK.out _ _ hS0 (fun _=>?_);clear hK K;refine tk 11 47 (.int .i64 (c+xs)) rfl rfl (by kernel_rfl) (fun _ _ _ h=>h) (Or.inl ⟨by rfl,fun wx _=>by go_simp;exact IntWalk.i64_in _ (by omega)⟩) hS0 ?_;simp only[Act.put,sA,sB,sC];refine wpAnyH_ready (rs:=[12]) (by kernel_rfl) (by simp) ?_;refine AllReadyH.cons rfl (fun K hK=>?_) AllReadyH.nil;have hrun:=HU.out;go_simp;clear hrun;refine hK.out _ _ HS4.out (fun _=>?_);clear hK K;refine wpAnyH_done (by kernel_rfl) ?_ _;clear HS4 HU HR HM;go_wp2;go_end0;exact ⟨rfl,HFIN.out⟩
end
end TkA
end Go.Proofs.YtmolafjalaeoaaaGreatDoor
