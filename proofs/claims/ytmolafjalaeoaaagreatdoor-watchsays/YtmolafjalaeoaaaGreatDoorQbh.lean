/-
  WaJ WaF
-/
import Derived.Test.YtmolafjalaeoaaaGreatDoorQbg
set_option maxRecDepth 100000
set_option maxHeartbeats 8000000
namespace Go.Proofs.YtmolafjalaeoaaaGreatDoor
open Tryz
namespace WaB
open Go.RowKit TkW WaM WaW Go.Maps
open TkM (Sg epOf told whr seenG)
open RuM (Rl)
structure Wq (w w':World) (ow ow':Nat->Nat):Prop where
 wp:Wp w w' ow ow'
 k3:∀ b,b<w.heap.size->ow b=3->w'.heap[b]?=w.heap[b]?/\ow' b=3
theorem Wq.refl (w:World) (ow:Nat->Nat):Wq w w ow ow:=⟨Wp.refl _ _,fun _ _ h=>⟨rfl,h⟩⟩
theorem Wq.trans {a b c:World} {o1 o2 o3:Nat->Nat} (h:Wq a b o1 o2) (k:Wq b c o2 o3):Wq a c o1 o3 where
 wp:=h.wp.trans k.wp
 k3:=fun i hi h3=>by obtain ⟨h1,h2⟩:=h.k3 i hi h3;obtain ⟨k1,k2⟩:=k.k3 i (Nat.lt_of_lt_of_le hi h.wp.kp.size) h2;exact ⟨k1.trans h1,k2⟩
theorem Wq.below {a b:World} (h:Below a.heap.size a b) (ow:Nat->Nat):Wq a b ow ow:=⟨Wp.below h ow,fun i hi h3=>⟨h.block i hi,h3⟩⟩
structure Wt (w:World) (wb:Nat) (ow:Nat->Nat) (c:Cf) (rs:List Rl) (s:St) (n m:Nat) (A:List Al) (p:Pt):Prop where
 blk:w.heap[wb]?=some (.cells (wcs c s p) 116)
 ob:ow wb=1
 lim:∀ b,ow b≠0->b<w.heap.size
 kn:Kn w p.kb (kn s.all)
 ok:ow p.kb=2
 desk:EpW.DeskAt w p.db (fun b=>ow b=3) c.len c.late s.now s.all (EpM.closedN c.len c.late s.now)
 trk:∃ who,TrAt w p.tb who c.W c.need n (Ep c s n).flatten.length (epOf (Ep c s n))/\∀ b,of who b->ow b=4
 ins:∃ F f,InA.InAt w p.xb p.tb F c.span c.score m f/\InM.Prs InA.knd (epOf (Ep c s m)) c.W c.need c.span c.score f m/\∀ b,F b->ow b=5
 rul:w.ownsRow 0 32 6 p.rv rs.length (rcs rs)
 orl:∀ b,p.rv.ownBlock=some b->ow b=6
 alr:w.ownsRow 0 86 3 p.av A.length (acs A)
 oal:∀ b,p.av.ownBlock=some b->ow b=7
 anil:A = []->p.av = .slice none 0 0
 cok:c.Ok
 rok:rs.length<=6/\∀ r,r ∈ rs->r.ok
 tim:s.now<=1000
 cls:n<=EpM.closedN c.len c.late s.now
 few:(WaM.kn s.all).length<=12
 sok:∀ x,x ∈ s.all->EpM.okS s.now x=true/\0<InA.knd x.g
 use:s.sum<=6000
section
variable {w w' : World} {wb : Nat} {ow : Nat → Nat} {c : Cf} {rs : List Rl} {s : St} {k n m : Nat} {A : List Al} {p : Pt}
theorem Wt.start (h:Wa w wb ow c rs s k p):Wt w wb ow c rs s k k (alerts c rs s k) p:=⟨h.blk,h.ob,h.lim,h.kn,h.ok,h.desk,h.trk,h.ins,h.rul,h.orl,h.alr,h.oal,h.anil,h.cok,h.rok,h.tim,h.cls,h.few,h.sok,h.use⟩
theorem Wt.wa (h:Wt w wb ow c rs s k k (alerts c rs s k) p):Wa w wb ow c rs s k p:=⟨h.blk,h.ob,h.lim,h.kn,h.ok,h.desk,h.trk,h.ins,h.rul,h.orl,h.alr,h.oal,h.anil,h.cok,h.rok,h.tim,h.cls,h.few,h.sok,h.use⟩
theorem Wt.move (h:Wt w wb ow c rs s n m A p) (hs:w.heap.size<=w'.heap.size) (hk:∀ b,b<w.heap.size->ow b≠0->w'.heap[b]?=w.heap[b]?):Wt w' wb ow c rs s n m A p where
 blk:=by rw[hk wb (h.lim wb (by rw[h.ob];decide)) (by rw[h.ob];decide)];exact h.blk
 ob:=h.ob
 lim:=fun b hb=>Nat.lt_of_lt_of_le (h.lim b hb) hs
 kn:=h.kn.keep (hk _ h.kn.lt (by rw[h.ok];decide))
 ok:=h.ok
 desk:=h.desk.move (fun b hb h3=>hk b hb (by rw[h3];decide))
 trk:=by obtain ⟨who,h1,h2⟩:=h.trk;exact ⟨who,h1.move hs (fun b hb h4=>hk b hb (by rw[h2 b h4];decide)),h2⟩
 ins:=by obtain ⟨F,f,h1,h2,h3⟩:=h.ins;exact ⟨F,f,h1.move hs (fun b hb h4=>hk b hb (by rw[h3 b h4];decide)),h2,h3⟩
 rul:=own_keep h.rul (fun b hb=>hk b (own_lt h.rul hb) (by rw[h.orl b hb];decide))
 orl:=h.orl
 alr:=own_keep h.alr (fun b hb=>hk b (own_lt h.alr hb) (by rw[h.oal b hb];decide))
 oal:=h.oal
 anil:=h.anil
 cok:=h.cok
 rok:=h.rok
 tim:=h.tim
 cls:=h.cls
 few:=h.few
 sok:=h.sok
 use:=h.use
theorem Wt.below (h:Wt w wb ow c rs s n m A p) (hb:Below w.heap.size w w'):Wt w' wb ow c rs s n m A p:=h.move hb.size (fun b h1 _=>hb.block b h1)
theorem Wt.lt (h:Wt w wb ow c rs s n m A p):wb<w.heap.size:=h.lim wb (by rw[h.ob];decide)
theorem Wt.cell (h:Wt w wb ow c rs s n m A p) (i:Nat) (hi:i<39):w.cell? ⟨wb,i,none⟩=some (cv c s p i):=by simp only[World.cell?,h.blk,Option.isSome_none,Bool.false_eq_true,if_false];exact wcs_at c s p hi
theorem Wt.fz (h:Wt w wb ow c rs s n m A p) (i:Nat):w.frozen? ⟨wb,i,none⟩=false:=by simp[World.frozen?,h.blk]
theorem Wt.tell {who who':Nat->Nat×ByteArray×Nat} (h:Wt w wb ow c rs s n m A p) (how:∀ b,of who b->ow b=4) (ht:TrAt w' p.tb who' c.W c.need (n+1) ((Ep c s n).flatten.length+(EpM.sorted (EpM.grp c.len s.all n)).length) (TkA.epc (epOf (Ep c s n)) n (EpM.sorted (EpM.grp c.len s.all n)))) (hkp:Kp (of who) w w') (hnew:∀ b,of who' b->of who b\/w.heap.size<=b) (hc:n+1<=EpM.closedN c.len c.late s.now) :
  Wt w' wb (own3 ow w w' 4) c rs s (n+1) m A p/\Wq w w' ow (own3 ow w w' 4):=by
 have hmv:∀ b l,b<w.heap.size->ow b=l->l≠0->l≠4->w'.heap[b]?=w.heap[b]?:=fun b l hlt hb h0 h4=>hkp.block b hlt (fun hh=>by rw[how b hh] at hb;exact h4 hb.symm);have hlt:∀ b l,ow b=l->l≠0->b<w.heap.size:=fun b l hb h0=>h.lim b (by rw[hb];exact h0);have ho:∀ b l,ow b=l->l≠0->own3 ow w w' 4 b=l:=fun b l hb h0=>by rw[own3_old (hlt b l hb h0)];exact hb
 have hs:=hkp.size;have e1:TkA.epc (epOf (Ep c s n)) n (EpM.sorted (EpM.grp c.len s.all n))=epOf (Ep c s (n+1)):=by funext e;rw[Ep_snoc,TkM.epOf_snoc,Ep_len];unfold TkA.epc;rfl
 have e2:(Ep c s n).flatten.length+(EpM.sorted (EpM.grp c.len s.all n)).length=(Ep c s (n+1)).flatten.length:=by rw[Ep_snoc,List.flatten_append,List.length_append];simp
 rw[e1,e2] at ht;refine ⟨⟨?_,ho _ _ h.ob (by decide),fun b hb=>own3_lim h.lim hs hb,h.kn.keep (hmv _ 2 h.kn.lt h.ok (by decide) (by decide)),ho _ _ h.ok (by decide),?_,?_,?_,?_,fun b hb=>ho b 6 (h.orl b hb) (by decide),?_,fun b hb=>ho b 7 (h.oal b hb) (by decide),h.anil,h.cok,h.rok,h.tim,hc,h.few,h.sok,h.use⟩,⟨Wp.own3_of hkp (fun b hb=>by rw[how b hb];decide),fun b hb h3=>⟨hmv b 3 hb h3 (by decide) (by decide),ho b 3 h3 (by decide)⟩⟩⟩
 ·rw[hmv wb 1 (hlt wb 1 h.ob (by decide)) h.ob (by decide) (by decide)];exact h.blk
 ·exact (h.desk.move (fun b hb h3=>hmv b 3 hb h3 (by decide) (by decide))).mono (fun b hb h3=>ho b 3 h3 (by decide))
 ·refine ⟨who',ht,fun b hb=>?_⟩;rcases hnew b hb with h1 | h1
  ·exact ho b 4 (how b h1) (by decide)
  ·unfold own3;rw[if_pos ⟨h1,ht.lim hb⟩]
 ·obtain ⟨F,f,h1,h2,h3⟩:=h.ins;exact ⟨F,f,h1.move hs (fun b hb h4=>hmv b 5 hb (h3 b h4) (by decide) (by decide)),h2,fun b hb=>ho b 5 (h3 b hb) (by decide)⟩
 ·exact own_keep h.rul (fun b hb=>hmv b 6 (own_lt h.rul hb) (h.orl b hb) (by decide) (by decide))
 ·exact own_keep h.alr (fun b hb=>hmv b 7 (own_lt h.alr hb) (h.oal b hb) (by decide) (by decide))
theorem Wt.next {F F':Nat->Prop} {f':Nat->ByteArray->ByteArray} (h:Wt w wb ow c rs s n m A p) (how:∀ b,F b->ow b=5) (hi:InA.InAt w' p.xb p.tb F' c.span c.score (m+1) f') (hP:InM.Prs InA.knd (epOf (Ep c s (m+1))) c.W c.need c.span c.score f' (m+1)) (hkp:Kp F w w') (hnew:∀ b,F' b->F b\/w.heap.size<=b) :
  Wt w' wb (own3 ow w w' 5) c rs s n (m+1) A p/\Wq w w' ow (own3 ow w w' 5):=by
 have hmv:∀ b l,b<w.heap.size->ow b=l->l≠0->l≠5->w'.heap[b]?=w.heap[b]?:=fun b l hlt hb h0 h4=>hkp.block b hlt (fun hh=>by rw[how b hh] at hb;exact h4 hb.symm);have hlt:∀ b l,ow b=l->l≠0->b<w.heap.size:=fun b l hb h0=>h.lim b (by rw[hb];exact h0);have ho:∀ b l,ow b=l->l≠0->own3 ow w w' 5 b=l:=fun b l hb h0=>by rw[own3_old (hlt b l hb h0)];exact hb
 have hs:=hkp.size;refine ⟨⟨?_,ho _ _ h.ob (by decide),fun b hb=>own3_lim h.lim hs hb,h.kn.keep (hmv _ 2 h.kn.lt h.ok (by decide) (by decide)),ho _ _ h.ok (by decide),?_,?_,?_,?_,fun b hb=>ho b 6 (h.orl b hb) (by decide),?_,fun b hb=>ho b 7 (h.oal b hb) (by decide),h.anil,h.cok,h.rok,h.tim,h.cls,h.few,h.sok,h.use⟩,⟨Wp.own3_of hkp (fun b hb=>by rw[how b hb];decide),fun b hb h3=>⟨hmv b 3 hb h3 (by decide) (by decide),ho b 3 h3 (by decide)⟩⟩⟩
 ·rw[hmv wb 1 (hlt wb 1 h.ob (by decide)) h.ob (by decide) (by decide)];exact h.blk
 ·exact (h.desk.move (fun b hb h3=>hmv b 3 hb h3 (by decide) (by decide))).mono (fun b hb h3=>ho b 3 h3 (by decide))
 ·obtain ⟨who,h1,h2⟩:=h.trk;exact ⟨who,h1.move hs (fun b hb h4=>hmv b 4 hb (h2 b h4) (by decide) (by decide)),fun b hb=>ho b 4 (h2 b hb) (by decide)⟩
 ·refine ⟨F',f',hi,hP,fun b hb=>?_⟩;rcases hnew b hb with h1 | h1
  ·exact ho b 5 (how b h1) (by decide)
  ·unfold own3;rw[if_pos ⟨h1,hi.lim hb⟩]
 ·exact own_keep h.rul (fun b hb=>hmv b 6 (own_lt h.rul hb) (h.orl b hb) (by decide) (by decide))
 ·exact own_keep h.alr (fun b hb=>hmv b 7 (own_lt h.alr hb) (h.oal b hb) (by decide) (by decide))
theorem Wt.alert {g cap:Nat} {a:Al} (h:Wt w wb ow c rs s n m A p) (ho':w'.ownsRow 0 86 3 (.slice (some ⟨g,0,none⟩) (A.length+1) cap) (A.length+1) (acs A ++ [.int .i64 (a.rule:Int),.int .i64 (a.ep:Int),.string a.g])) (hg:w.grownBy w' p.av.ownBlock) (hat:p.av.ownBlock=some g\/w.heap.size<=g) :
  Wt (w'.setCell ⟨wb,33,none⟩ (.slice (some ⟨g,0,none⟩) (A.length+1) cap)) wb (own3 ow w w' 7) c rs s n m (A ++ [a]) { p with av:=.slice (some ⟨g,0,none⟩) (A.length+1) cap }/\Wq w (w'.setCell ⟨wb,33,none⟩ (.slice (some ⟨g,0,none⟩) (A.length+1) cap)) ow (own3 ow w w' 7):=by
 have hs:=hg.size;have hs':(w'.setCell ⟨wb,33,none⟩ (.slice (some ⟨g,0,none⟩) (A.length+1) cap)).heap.size=w'.heap.size:=by simp[World.setCell]
 have hlt:∀ b l,ow b=l->l≠0->b<w.heap.size:=fun b l hb h0=>h.lim b (by rw[hb];exact h0);have ho:∀ b l,ow b=l->l≠0->own3 ow w w' 7 b=l:=fun b l hb h0=>by rw[own3_old (hlt b l hb h0)];exact hb
 have hmv1:∀ b l,b<w.heap.size->ow b=l->l≠0->l≠7->w'.heap[b]?=w.heap[b]?:=fun b l hb hl h0 h7=>hg.block b hb (fun e=>h7 (by rw[<- hl];exact h.oal b e.symm));have hmv:∀ b l,b<w.heap.size->ow b=l->l≠0->l≠1->l≠7->(w'.setCell ⟨wb,33,none⟩ (.slice (some ⟨g,0,none⟩) (A.length+1) cap)).heap[b]?=w.heap[b]?:=fun b l hb hl h0 h1 h7=>by rw[Below.heap_setCell _ _ _ _ (fun e=>h1 (by have e:b=wb:=e;rw[<- hl,e];exact h.ob))];exact hmv1 b l hb hl h0 h7
 have hgw:g≠wb:=by
  intro e;rcases hat with h1 | h1
  ·have:=h.oal g h1;rw[e,h.ob] at this;omega
  ·have:=h.lt;omega
 refine ⟨⟨?_,ho _ _ h.ob (by decide),fun b hb=>by rw[hs'];exact own3_lim h.lim hs hb,h.kn.keep (hmv _ 2 h.kn.lt h.ok (by decide) (by decide) (by decide)),ho _ _ h.ok (by decide),?_,?_,?_,?_,fun b hb=>ho b 6 (h.orl b hb) (by decide),?_,?_,fun e=>by simp at e,h.cok,h.rok,h.tim,h.cls,h.few,h.sok,h.use⟩,⟨⟨?_,fun b hb=>own3_new hb⟩,fun b hb h3=>⟨hmv b 3 hb h3 (by decide) (by decide) (by decide),ho b 3 h3 (by decide)⟩⟩⟩
 ·have hb1:w'.heap[wb]?=some (.cells (wcs c s p) 116):=(hmv1 wb 1 h.lt h.ob (by decide) (by decide)).trans h.blk;simp only[World.setCell,Array.getElem?_modify,hb1,if_true,Option.map_some,Option.isSome_none,Bool.false_eq_true,if_false];rw[wcs_set (c:=c) (s:=s) (s':=s) (p:=p) (p':={ p with av:=.slice (some ⟨g,0,none⟩) (A.length+1) cap }) (fun j hj=>cv_av c s p _ j hj)]
 ·exact (h.desk.move (fun b hb h3=>hmv b 3 hb h3 (by decide) (by decide) (by decide))).mono (fun b hb h3=>ho b 3 h3 (by decide))
 ·obtain ⟨who,h1,h2⟩:=h.trk;exact ⟨who,h1.move (by omega) (fun b hb h4=>hmv b 4 hb (h2 b h4) (by decide) (by decide) (by decide)),fun b hb=>ho b 4 (h2 b hb) (by decide)⟩
 ·obtain ⟨F,f,h1,h2,h3⟩:=h.ins;exact ⟨F,f,h1.move (by omega) (fun b hb h4=>hmv b 5 hb (h3 b h4) (by decide) (by decide) (by decide)),h2,fun b hb=>ho b 5 (h3 b hb) (by decide)⟩
 ·exact own_keep h.rul (fun b hb=>hmv b 6 (own_lt h.rul hb) (h.orl b hb) (by decide) (by decide) (by decide))
 ·rw[List.length_append,acs_snoc];refine own_keep ho' (fun b hb=>Below.heap_setCell _ _ _ _ ?_);have e:b=g:=by simp[Value.ownBlock] at hb;exact hb.symm
  show b≠wb;rw[e];exact hgw
 ·intro b hb;have e:b=g:=by simp[Value.ownBlock] at hb;exact hb.symm
  subst e;rcases hat with h1 | h1
  ·exact ho b 7 (h.oal b h1) (by decide)
  ·unfold own3;rw[if_pos ⟨h1,own_lt ho' rfl⟩]
 ·exact (grown_kp hg (fun b hb=>by rw[h.oal b hb];decide)).trans (set_kp _ _ _ (by show ow wb≠0;rw[h.ob];decide))
end
end WaB
namespace WaB
open Go.RowKit TkW WaM WaW Go.Maps
open TkM (Sg epOf told whr)
open RuM (Rl)
section
variable {w : World} {wb : Nat} {ow : Nat → Nat} {c : Cf} {rs : List Rl} {s : St} {k : Nat}
theorem take_any (x:FrmM.Rd) (r:Nat) (h:WaK w wb ow c rs s k) (hT:TagA.Tabs w) (hr:r<4) (hk:k=s.cl c) (ha : 0<=x.a/\x.a<=3) (hs : 0<=x.s/\x.s<=255) (hg : 0<=x.g/\x.g<=255) (ht:x.t.size=8) (hu:s.sum+1<=6000) :
  Calls prog 84 #[.pointer (some ⟨wb,0,none⟩),.agg #[.int .i64 x.a,.int .i64 x.s,.int .i64 x.g,.string x.t],.int .i64 (c.pl r x.a.toNat)] w fun e w'=>e = .returned (.tuple #[])/\To w w' wb ow c rs (s.read c r x) k:=by
 obtain ⟨xa,xs,xg,xt⟩:=x;simp only at ha hs hg ht ⊢;have HH:Hid (WaK w wb ow c rs s k):=h;have HT:Hid (TagA.Tabs w):=hT;have HSI:Hid (s.read c r ⟨xa,xs,xg,xt⟩=s.read c r ⟨xa,xs,xg,xt⟩):=rfl;obtain ⟨pl,hpl⟩:∃ pl,pl=c.pl r xa.toNat:=⟨_,rfl⟩;have HPL:Hid (pl=c.pl r xa.toNat):=hpl;rw[<- hpl];have hpb : -1<=pl/\pl<=7:=by obtain ⟨p,h⟩:=h.out;rw[hpl];exact h.cok.pl r xa.toNat hr (by omega)
 have hnow:s.now<=1000:=by obtain ⟨p,h⟩:=h.out;exact h.tim
 clear h hT hpl;obtain ⟨X,hX⟩:∃ X,X=w.alloc (.cells #[.int .i64 xa,.int .i64 xs,.int .i64 xg,.string xt] 90):=⟨_,rfl⟩;have hbX:Below w.heap.size w X:=by rw[hX];exact (Below.refl _ _).alloc (Nat.le_refl _) _
 have HBX:Hid (Below w.heap.size w X):=hbX;have hXs:X.heap.size=w.heap.size+1:=by rw[hX];simp
 have HXS:Hid (X.heap.size=w.heap.size+1):=hXs;have hbx:X.heap[w.heap.size]?=some (.cells #[.int .i64 xa,.int .i64 xs,.int .i64 xg,.string xt] 90):=by rw[hX];exact Go.heap_alloc_new w _
 have HBOX:Hid (X.heap[w.heap.size]?=some (.cells #[.int .i64 xa,.int .i64 xs,.int .i64 xg,.string xt] 90)):=hbx;have x1:X.cell? ⟨w.heap.size,1,none⟩=some (.int .i64 xs):=by simp[World.cell?,hbx]
 have x2:X.cell? ⟨w.heap.size,2,none⟩=some (.int .i64 xg):=by simp[World.cell?,hbx]
 have x3:X.cell? ⟨w.heap.size,3,none⟩=some (.string xt):=by simp[World.cell?,hbx]
 have HNW:Hid (∀ V,Below X.heap.size X V->Calls prog 30 #[.pointer (some ⟨wb,0,none⟩)] V fun e w'=>e = .returned (.int .i64 (s.now:Int))/\w'=V):=fun V hV=>now_any (HH.out.below (HBX.out.trans (hV.mono HBX.out.size)));have HSS:Hid (∀ V,Below X.heap.size X V->(V.cell? ⟨w.heap.size,1,none⟩=some (.int .i64 xs)/\V.cell? ⟨w.heap.size,2,none⟩=some (.int .i64 xg)/\V.cell? ⟨w.heap.size,3,none⟩=some (.string xt))/\Below X.heap.size X V):=fun V hV=>⟨⟨TagA.keepCell hV x1,TagA.keepCell hV x2,TagA.keepCell hV x3⟩,hV⟩;have hXX:Below X.heap.size X X:=Below.refl _ _;clear hbX hXs hbx;go_enter func84,ntmps84;go_upto_region 1 with fail
 rw[<- hX];clear hX;go_cut [6] from 7 to 17 (fun a V=>∃ nb:Nat,a = .pointer (some ⟨nb,0,none⟩)/\V.heap[nb]?=some (.cells #[.int .i64 pl,.int .i64 xs,.int .i64 (IntKind.i64.wrap ((s.now:Int)-xg)),.string xt] 43)/\X.heap.size<=nb/\Below X.heap.size X V)
 case first=>
  go_region_held3 (fun V=>(V.cell? ⟨w.heap.size,1,none⟩=some (.int .i64 xs)/\V.cell? ⟨w.heap.size,2,none⟩=some (.int .i64 xg)/\V.cell? ⟨w.heap.size,3,none⟩=some (.string xt))/\Below X.heap.size X V)
   (first | exact HSS.out _ (TagA.drewBelow ‹_›) | exact HSS.out _ (TagA.drewBelow (TagA.allocBelow _ (Below.refl _ _))) | exact HSS.out _ (TagA.allocBelow _ (TagA.drewBelow (Below.refl _ _))) | (go_split_ands;exact HSS.out _ (TagA.allocBelow _ ‹_›)))
   (first | (go_at_call 30;go_split_ands;refine (HNW.out _ ‹_›).mono ?_;rintro e w' ⟨rfl,rfl⟩))
  all_goals
   go_wp2;go_meet
   case rel=>exact ⟨X.heap.size,rfl,Go.heap_alloc_new X _,Nat.le_refl _,TagA.drewBelow (TagA.allocBelow _ (Below.refl _ _))⟩
 case rest=>
  obtain ⟨nb,rfl,hnb,hXn,hbV⟩:=hcut;have hwr:IntKind.i64.wrap ((s.now:Int)-xg)=(s.now:Int)-xg:=by simp[IntKind.wrap,IntKind.bits,IntKind.signed];omega
  rw[hwr] at hnb;have hbw:Below w.heap.size w wc:=HBX.out.trans (hbV.mono HBX.out.size);have HBW:Hid (Below w.heap.size w wc):=hbw;have HC:Hid (WaK wc wb ow c rs s k):=HH.out.below hbw;have HTC:Hid (TagA.Tabs wc):=HT.out.below hbw HT.out.size;have y3:wc.cell? ⟨w.heap.size,3,none⟩=some (.string xt):=TagA.keepCell hbV x3;have HNB:Hid (wc.heap[nb]?=some (.cells #[.int .i64 pl,.int .i64 xs,.int .i64 ((s.now:Int)-xg),.string xt] 43)):=hnb;have hwc:w.heap.size<wc.heap.size:=by have:=hbV.size;have:=HXS.out;omega
  have HY3:Hid (wc.cell? ⟨w.heap.size,3,none⟩=some (.string xt)):=y3;clear x1 x2 x3 hXX hbV hXn hnb hbw HSS HNW HBOX hwr;go_wp2_with fail;refine (isTag_any xt _ HTC.out (by omega)).mono ?_;rintro e w1 ⟨rfl,hb1⟩;have HB1:Hid (Below wc.heap.size wc w1):=hb1;have HW1:Hid (Below w.heap.size w w1):=HBW.out.trans (hb1.mono HBW.out.size);have H1:Hid (WaK w1 wb ow c rs s k):=HC.out.below hb1;have hw1:w.heap.size<w1.heap.size:=Nat.lt_of_lt_of_le hwc hb1.size;have z3:w1.cell? ⟨w.heap.size,3,none⟩=some (.string xt):=TagA.keepCell hb1 HY3.out;have HZ3:Hid (w1.cell? ⟨w.heap.size,3,none⟩=some (.string xt)):=z3;have HN1:Hid (w1.heap[nb]?=some (.cells #[.int .i64 pl,.int .i64 xs,.int .i64 ((s.now:Int)-xg),.string xt] 43)):=(hb1.block nb (Array.getElem?_eq_some_iff.1 HNB.out).1).trans HNB.out;clear hb1 y3 HC HTC HNB HY3 hwc;by_cases hkd:InA.knd xt=0
  case pos=>
   have hd:decide (0<InA.knd xt)=false:=(by simp;omega);rw[hd];obtain ⟨p,h1⟩:=H1.out.out;have cc:w1.cell? ⟨wb,35,none⟩=some (.int .i64 (s.bad:Int)):=h1.cell 35 (by omega);have fc:=h1.fz 35;have hbd:s.bad<=6000:=by have:=h1.use;unfold St.sum St.cnt at this;omega
   have HF:Hid (To w (w1.setCell ⟨wb,35,none⟩ (.int .i64 ((s.bad:Int)+1))) wb ow c rs (s.read c r ⟨xa,xs,xg,xt⟩) k):=by
    have e:s.read c r ⟨xa,xs,xg,xt⟩ = { s with bad:=s.bad+1 }:=(by unfold St.read;rw[if_pos hkd]);rw[e];refine To.from_below HW1.out (To.count (p:=p) h1 (fun j hj=>?_) rfl rfl ?_)
    ·exact cv_bad c s p (s.bad+1) j hj
    ·refine Nat.le_trans (Nat.le_of_eq ?_) hu;unfold St.sum St.cnt;simp;omega
   clear h1 hd hkd;go_wp2;go_end0;exact ⟨rfl,HF.out⟩
  case neg=>
   have hd:decide (0<InA.knd xt)=true:=(by simp;omega);rw[hd];have HKD:Hid (¬ InA.knd xt=0):=hkd;clear hd hkd;by_cases hpl1:pl = -1
   case pos=>
    subst hpl1;obtain ⟨p,h1⟩:=H1.out.out;have cc:w1.cell? ⟨wb,36,none⟩=some (.int .i64 (s.nowh:Int)):=h1.cell 36 (by omega);have fc:=h1.fz 36;have hbd:s.nowh<=6000:=by have:=h1.use;unfold St.sum St.cnt at this;omega
    have HF:Hid (To w (w1.setCell ⟨wb,36,none⟩ (.int .i64 ((s.nowh:Int)+1))) wb ow c rs (s.read c r ⟨xa,xs,xg,xt⟩) k):=by
     have e:s.read c r ⟨xa,xs,xg,xt⟩ = { s with nowh:=s.nowh+1 }:=(by unfold St.read;rw[if_neg HKD.out,if_pos HPL.out.symm]);rw[e];refine To.from_below HW1.out (To.count (p:=p) h1 (fun j hj=>?_) rfl rfl ?_)
     ·exact cv_nowh c s p (s.nowh+1) j hj
     ·refine Nat.le_trans (Nat.le_of_eq ?_) hu;unfold St.sum St.cnt;simp;omega
    clear h1;go_wp2;go_end0;exact ⟨rfl,HF.out⟩
   case neg=>
    have hpe:(pl == -1)=false:=(by simpa using hpl1);have HP1:Hid (¬ c.pl r xa.toNat = -1):=(by rw[<- HPL.out];exact hpl1);clear hpl1;go_wp2_with fail;refine (isFull_any xt H1.out (by omega)).mono ?_;rintro e w2 ⟨rfl,hb2⟩;have HW2:Hid (Below w.heap.size w w2):=HW1.out.trans (hb2.mono HW1.out.size);have H2:Hid (WaK w2 wb ow c rs s k):=H1.out.below hb2;have HN2:Hid (w2.heap[nb]?=some (.cells #[.int .i64 pl,.int .i64 xs,.int .i64 ((s.now:Int)-xg),.string xt] 43)):=(hb2.block nb (Array.getElem?_eq_some_iff.1 HN1.out).1).trans HN1.out;have HZ2:Hid (w2.cell? ⟨w.heap.size,3,none⟩=some (.string xt)):=TagA.keepCell hb2 HZ3.out;have hw2:w.heap.size<w2.heap.size:=Nat.lt_of_lt_of_le hw1 hb2.size;clear hb2 z3 HN1 HZ3;cases hfl:(!hasT (kn s.all) xt&&decide (12<=(kn s.all).length)) with
    | true=>
     have HFL:Hid (hasT (kn s.all) xt=false/\12<=(kn s.all).length):=(by show _/\_;simpa using hfl);obtain ⟨p,h1⟩:=H2.out.out;have cc:w2.cell? ⟨wb,38,none⟩=some (.int .i64 (s.full:Int)):=h1.cell 38 (by omega);have fc:=h1.fz 38;have hbd:s.full<=6000:=by have:=h1.use;unfold St.sum St.cnt at this;omega
     have HF:Hid (To w (w2.setCell ⟨wb,38,none⟩ (.int .i64 ((s.full:Int)+1))) wb ow c rs (s.read c r ⟨xa,xs,xg,xt⟩) k):=by
      have e:s.read c r ⟨xa,xs,xg,xt⟩ = { s with full:=s.full+1 }:=(by unfold St.read;rw[if_neg HKD.out,if_neg HP1.out,if_pos HFL.out]);rw[e];refine To.from_below HW2.out (To.count (p:=p) h1 (fun j hj=>?_) rfl rfl ?_)
      ·exact cv_full c s p (s.full+1) j hj
      ·refine Nat.le_trans (Nat.le_of_eq ?_) hu;unfold St.sum St.cnt;simp;omega
     clear h1 hfl;go_wp2;go_end0;exact ⟨rfl,HF.out⟩
    | false=>
     have HFL:Hid (¬ (hasT (kn s.all) xt=false/\12<=(kn s.all).length)):=by
      intro hh;rw[Bool.and_eq_false_iff] at hfl;rcases hfl with hf | hf
      ·simp[hh.1] at hf
      ·simp at hf;omega
     clear hfl;obtain ⟨p,h2⟩:=H2.out.out;have HP:Hid (Wa w2 wb ow c rs s k p):=h2;have c29:=h2.c29;have n0:w2.cell? ⟨nb,0,none⟩=some (.int .i64 pl):=(by simp[World.cell?,HN2.out]);have n1:w2.cell? ⟨nb,1,none⟩=some (.int .i64 xs):=(by simp[World.cell?,HN2.out]);have n2:w2.cell? ⟨nb,2,none⟩=some (.int .i64 ((s.now:Int)-xg)):=(by simp[World.cell?,HN2.out]);have n3:w2.cell? ⟨nb,3,none⟩=some (.string xt):=(by simp[World.cell?,HN2.out]);obtain ⟨x,hx⟩:∃ x:Sg,x=⟨pl,xs,(s.now:Int)-xg,xt⟩:=⟨_,rfl⟩;have HX:Hid (x=sight c r s ⟨xa,xs,xg,xt⟩):=(by show _ = _;rw[hx,HPL.out];rfl);have hal:s.all.length<=6000:=(by have:=h2.use;unfold St.sum St.cnt at this;omega);have HADD:Hid (∀ V:World,V.heap=w2.heap->Calls prog 123 #[.pointer (some ⟨p.db,0,none⟩),.agg #[.int .i64 pl,.int .i64 xs,.int .i64 ((s.now:Int)-xg),.string xt]] V fun e w'=>e = .returned (EpA.errV (EpM.addF c.len c.late s.now x))/\EpW.DeskAt w' p.db (EpA.more (fun b=>ow b=3) V w') c.len c.late s.now (if EpM.addF c.len c.late s.now x=0 then s.all ++ [x] else s.all) (EpM.closedN c.len c.late s.now)/\Kp (fun b=>ow b=3) V w'):=fun V hV=>(by have hz:V.heap.size=w2.heap.size:=(by rw[hV]);have:=EpA.add_any (w:=V) x (h2.desk.move (fun b _ _=>by rw[hV])) (by have:=h2.cok.l0;omega) h2.cok.l1 h2.cok.t1 h2.tim (by omega) (fun b hb=>by rw[hz];exact h2.lim b (by rw[hb];decide)) (by rw[hx];unfold maxLen;simp only;omega);rw[hx] at this ⊢;exact this);clear h2 hx;have hlm:∀ b,ow b≠0->b<w.heap.size:=fun b hb=>(by obtain ⟨_,h0⟩:=HH.out.out;exact h0.lim b hb);have HLM:Hid (∀ b,ow b≠0->b<w.heap.size):=hlm;clear hlm;cases hA:EpM.addF c.len c.late s.now x with
     | succ m=>
      have hne:¬ EpM.addF c.len c.late s.now x=0:=(by omega);have HADD2:Hid (Calls prog 123 #[.pointer (some ⟨p.db,0,none⟩),.agg #[.int .i64 pl,.int .i64 xs,.int .i64 ((s.now:Int)-xg),.string xt]] w2.drew fun e w'=>e = .returned (.iface 105 (.int .i64 ((m+1:Nat):Int)))/\Wa w' wb (own3 ow w2.drew w' 3) c rs s k p/\Wp w2.drew w' ow (own3 ow w2.drew w' 3)):=(by refine (HADD.out w2.drew rfl).mono ?_;rintro e w' ⟨rfl,hd,hkp⟩;rw[if_neg hne] at hd;rw[hA];have h0:Wa w2.drew wb ow c rs s k p:=HP.out.move (Nat.le_refl _) (fun _ _ _=>rfl);exact ⟨rfl,Wa.refused h0 hkp hd,Wp.own3_of hkp (fun b hb=>by rw[hb];decide)⟩);have HRD:Hid (s.read c r ⟨xa,xs,xg,xt⟩ = { s with late:=s.late+1 }):=(by show _ = _;unfold St.read;rw[if_neg HKD.out,if_neg HP1.out,if_neg HFL.out,if_pos (by rw[<- HX.out];exact hne)]);clear hne hA HADD;go_wp2_with fail;go_region_with (go_at_call 123;refine Calls.mono HADD2.out ?_;rintro e w3 ⟨rfl,h3,hwp⟩)
      all_goals
       have HWP:Hid (Wp w2.drew w3 ow (own3 ow w2.drew w3 3)):=hwp;have c37:w3.cell? ⟨wb,37,none⟩=some (.int .i64 (s.late:Int)):=h3.cell 37 (by omega);have f37:=h3.fz 37;have hbd:s.late<=6000:=by have:=h3.use;unfold St.sum St.cnt at this;omega
       have HF:Hid (To w (w3.setCell ⟨wb,37,none⟩ (.int .i64 ((s.late:Int)+1))) wb ow c rs (s.read c r ⟨xa,xs,xg,xt⟩) k):=by
        rw[HRD.out];refine To.from_wp ((Wp.below HW2.out.drew ow).trans HWP.out) (To.count (p:=p) h3 (fun j hj=>?_) rfl rfl ?_)
        ·exact cv_late c s p (s.late+1) j hj
        ·refine Nat.le_trans (Nat.le_of_eq ?_) hu;unfold St.sum St.cnt;simp;omega
       clear h3 hwp;go_wp2;go_end0;exact ⟨rfl,HF.out⟩
     | zero=>
      have HADD2:Hid (Calls prog 123 #[.pointer (some ⟨p.db,0,none⟩),.agg #[.int .i64 pl,.int .i64 xs,.int .i64 ((s.now:Int)-xg),.string xt]] w2.drew fun e w'=>e = .returned .nilIface/\EpW.DeskAt w' p.db (EpA.more (fun b=>ow b=3) w2.drew w') c.len c.late s.now (s.all ++ [x]) (EpM.closedN c.len c.late s.now)/\Kp (fun b=>ow b=3) w2.drew w'):=(by refine (HADD.out w2.drew rfl).mono ?_;rintro e w' ⟨rfl,hd,hkp⟩;rw[if_pos hA] at hd;rw[hA];exact ⟨rfl,hd,hkp⟩);have HRD:Hid (s.read c r ⟨xa,xs,xg,xt⟩ = { s with all:=s.all ++ [x] }):=by show _ = _;unfold St.read;rw[if_neg HKD.out,if_neg HP1.out,if_neg HFL.out,if_neg (by rw[<- HX.out,hA];simp),HX.out]
      have HOK:Hid (EpM.okS s.now x=true/\¬ EpM.epo c.len x<EpM.closedN c.len c.late s.now):=by
       unfold EpM.addF at hA;split at hA
       ·rename_i h1;split at hA
        ·omega
        ·rename_i h2;exact ⟨h1,h2⟩
       ·omega
      have HXG:Hid (x.g=xt):=(by rw[HX.out];rfl);clear hA HADD;go_wp2_with fail;go_region_with (go_at_call 123;refine Calls.mono HADD2.out ?_;rintro e w3 ⟨rfl,h3,hk3⟩)
      all_goals
       have HD3:Hid (EpW.DeskAt w3 p.db (EpA.more (fun b=>ow b=3) w2.drew w3) c.len c.late s.now (s.all ++ [x]) (EpM.closedN c.len c.late s.now)):=h3;have HK3:Hid (Kp (fun b=>ow b=3) w2.drew w3):=hk3;have hne3:∀ b,b<w2.heap.size->ow b≠3->w3.heap[b]?=w2.heap[b]?:=fun b hb h=>hk3.block b hb h;have hob:=HP.out.ob;have hokb:=HP.out.ok;have m28:w3.cell? ⟨wb,28,none⟩=some (.map (some p.kb)):=(by rw[World.cell?_of_block (hne3 wb HP.out.lt (by rw[hob];decide))];exact HP.out.c28);have hbn:ow w.heap.size≠3:=fun e=>(by have:=HLM.out w.heap.size (by rw[e];decide);omega);have m3:w3.cell? ⟨w.heap.size,3,none⟩=some (.string xt):=(by rw[World.cell?_of_block (hne3 w.heap.size hw2 hbn)];exact HZ2.out);have hkb3:w3.heap[p.kb]?=w2.heap[p.kb]?:=hne3 p.kb HP.out.kn.lt (by rw[hokb];decide);have HKN:Hid (∀ V,Below w3.heap.size w3 V->Kn V p.kb (kn s.all)):=fun V hV=>(HP.out.kn.keep hkb3).keep (hV.block p.kb (HP.out.kn.keep hkb3).lt);have hkw:wb≠p.kb:=fun e=>(by rw[e,hokb] at hob;omega);have hkx:w.heap.size≠p.kb:=fun e=>(by have:=HLM.out p.kb (by rw[hokb];decide);omega);have HSS:Hid (∀ V,Below w3.heap.size w3 V->V.cell? ⟨wb,28,none⟩=some (.map (some p.kb))/\V.cell? ⟨w.heap.size,3,none⟩=some (.string xt)):=fun V hV=>⟨TagA.keepCell hV m28,TagA.keepCell hV m3⟩;have HS5:Hid (∀ V V',Below w3.heap.size w3 V->V.grownBy V' (some p.kb)->V'.cell? ⟨wb,28,none⟩=some (.map (some p.kb))/\V'.cell? ⟨w.heap.size,3,none⟩=some (.string xt)):=fun V V' hV hg=>⟨hg.cell (TagA.keepCell hV m28) (by simpa using hkw),hg.cell (TagA.keepCell hV m3) (by simpa using hkx)⟩;have hkl:(kn s.all).length<=1000:=(by have:=HP.out.few;omega);clear h3 hk3 hne3 hkb3 hob hokb hbn;go_wp2_with fail
       go_region_held3 (fun V=>V.cell? ⟨wb,28,none⟩=some (.map (some p.kb))/\V.cell? ⟨w.heap.size,3,none⟩=some (.string xt))
        (first | exact HSS.out _ (TagA.drewBelow (Below.refl _ _)) | exact HSS.out _ hb4 | exact HS5.out _ _ hb4 hgr5)
        (first | (go_at_call 74;go_split_ands;refine (TkA.clone_any xt _ (by omega)).mono ?_;rintro e w4 ⟨rfl,hb40⟩;have hb4:Below w3.heap.size w3 w4:=TagA.keepBelow (TagA.drewBelow (Below.refl _ _)) hb40;obtain ⟨w5,hrun,hkn5,hgr5⟩:=Kn.put (HKN.out w4 hb4) xt (by omega) hkl))
       have HF:Hid (To w w5 wb ow c rs (s.read c r ⟨xa,xs,xg,xt⟩) k):=by
        have h0:Wa w2.drew wb ow c rs s k p:=HP.out.move (Nat.le_refl _) (fun _ _ _=>rfl);have hokb:=HP.out.ok
        have hkp:Kp (fun b=>ow b=3\/b=p.kb) w2.drew w5:=
         ((HK3.out.mono (fun b _ h=>Or.inl h)).trans (below_kp hb4 _)).trans (grown_kp hgr5 (fun b hb=>Or.inr (by simpa using hb.symm)))
        have hkl2:p.kb<w2.drew.heap.size:=HP.out.kn.lt
        have hd5:EpW.DeskAt w5 p.db (fun b=>ow b=3\/(w2.drew.heap.size<=b/\b<w5.heap.size)) c.len c.late s.now (s.all ++ [x]) (EpM.closedN c.len c.late s.now):=by
         refine (HD3.out.move (fun b hb hh=>?_)).mono (fun b hb hh=>?_)
         ·rw[hgr5.block b (Nat.lt_of_lt_of_le hb hb4.size) (fun e=>?_),hb4.block b hb];have e':b=p.kb:=(by simpa using e);rcases hh with hh | hh
          ·rw[e',hokb] at hh;omega
          ·rw[e'] at hh;omega
         ·rcases hh with hh | hh
          ·exact Or.inl hh
          ·exact Or.inr ⟨hh.1,hb⟩
        have hkn:Kn w5 p.kb (kn (s.all ++ [x])):=by rw[kn_snoc,HXG.out];exact hkn5
        have hlen:(kn (s.all ++ [x])).length<=12:=by
         rw[kn_snoc,HXG.out];have:=HP.out.few;unfold addT;split
         ·exact this
         ·rename_i hh;have hf:hasT (kn s.all) xt=false:=(by simpa using hh);have:¬ 12<=(kn s.all).length:=fun h=>HFL.out ⟨hf,h⟩;simp;omega
        have hfin:=Wa.added h0 x hkp hd5 hkn ⟨HOK.out.1,by rw[HXG.out];have:=HKD.out;omega⟩ (by have:=HOK.out.2;rw[hk];unfold St.cl;omega) hlen hu;rw[HRD.out]
        exact ⟨_,⟨p,hfin⟩,(Wp.below HW2.out.drew ow).trans (Wp.own3_of hkp (fun b hb=>by
         rcases hb with hb | hb
         ·rw[hb];decide
         ·rw[hb,hokb];decide))⟩
       clear hb4 hb40 hrun hkn5 hgr5;go_wp2;go_end0;exact ⟨rfl,HF.out⟩
end
end WaB
end Go.Proofs.YtmolafjalaeoaaaGreatDoor
