/-
  WaW
-/
import Derived.Test.YtmolafjalaeoaaaGreatDoorQar
set_option maxRecDepth 100000
set_option maxHeartbeats 8000000
namespace Go.Proofs.YtmolafjalaeoaaaGreatDoor
open Tryz
namespace WaW
open Go.RowKit TkW WaM Go.Maps
open TkM (Sg epOf)
open RuM (Rl)
structure Pt where
 kb:Nat
 db:Nat
 tb:Nat
 xb:Nat
 rv:Value
 av:Value
def cv (c:Cf) (s:St) (p:Pt) (i:Nat):Value:=
 if i<28 then
  (if i%7=0 then .string (FrmA.str (s.rest (i/7))) else if i%7=1 then .int .i64 (s.lost (i/7):Int) else if i%7=6 then .int .i64 (s.warm (i/7)) else .int .i64 (c.pl (i/7) (i%7-2)))
 else match i-28 with
  | 0=>.map (some p.kb)
  | 1=>.pointer (some ⟨p.db,0,none⟩)
  | 2=>.pointer (some ⟨p.tb,0,none⟩)
  | 3=>.pointer (some ⟨p.xb,0,none⟩)
  | 4=>p.rv
  | 5=>p.av
  | 6=>.int .i64 0
  | 7=>.int .i64 (s.bad:Int)
  | 8=>.int .i64 (s.nowh:Int)
  | 9=>.int .i64 (s.late:Int)
  | _=>.int .i64 (s.full:Int)
def wcs (c:Cf) (s:St) (p:Pt):Array Value:=((List.range 39).map (cv c s p)).toArray
theorem wcs_size (c:Cf) (s:St) (p:Pt):(wcs c s p).size=39:=by simp[wcs]
theorem wcs_at (c:Cf) (s:St) (p:Pt) {i:Nat} (h:i<39):(wcs c s p)[i]?=some (cv c s p i):=by unfold wcs;rw[List.getElem?_toArray,List.getElem?_map,List.getElem?_range h];rfl
theorem wcs_set {c:Cf} {s s':St} {p p':Pt} {i:Nat} {v:Value} (h:∀ j,j<39->cv c s' p' j=if j=i then v else cv c s p j):(wcs c s p).setIfInBounds i v=wcs c s' p':=by
 apply Array.ext_getElem?;intro j;rw[Array.getElem?_setIfInBounds,wcs_size];by_cases hj:j<39
 ·rw[wcs_at c s' p' hj,h j hj,wcs_at c s p hj];by_cases hi:i=j
  ·subst hi;simp[hj]
  ·have hi':¬ j=i:=fun e=>hi e.symm;simp[hi,hi']
 ·have e1:(wcs c s' p')[j]?=none:=Array.getElem?_eq_none (by rw[wcs_size];omega);have e2:(wcs c s p)[j]?=none:=Array.getElem?_eq_none (by rw[wcs_size];omega);rw[e1,e2];by_cases hi:i=j
  ·subst hi;simp[hj]
  ·simp[hi]
def rcl (r:Rl):List Value:=[.string r.nm,.int .i64 r.k,.int .i64 r.f,.int .i64 r.t,.int .i64 r.wo,.int .i64 r.wi]
def rcs (rs:List Rl):List Value:=rs.flatMap rcl
def acl (a:Al):List Value:=[.int .i64 (a.rule:Int),.int .i64 (a.ep:Int),.string a.g]
def acs (l:List Al):List Value:=l.flatMap acl
theorem rcs_len:∀ rs:List Rl,(rcs rs).length=rs.length*6
 | []=>rfl
 | r::rs=>by
  have:(rcs (r::rs)).length=(rcl r).length+(rcs rs).length:=by simp[rcs]
  rw[this,rcs_len rs,List.length_cons];show 6 + _ = _;omega
theorem acs_len:∀ l:List Al,(acs l).length=l.length*3
 | []=>rfl
 | a::l=>by
  have:(acs (a::l)).length=(acl a).length+(acs l).length:=by simp[acs]
  rw[this,acs_len l,List.length_cons];show 3 + _ = _;omega
theorem acs_snoc (l:List Al) (a:Al):acs (l ++ [a])=acs l ++ [.int .i64 (a.rule:Int),.int .i64 (a.ep:Int),.string a.g]:=by simp[acs,acl]
theorem acs_one (l:List Al):∀ u ∈ acs l,u.oneCell'=true:=fun u hu=>by obtain ⟨a,_,ha⟩:=List.mem_flatMap.1 hu;simp[acl] at ha;rcases ha with rfl | rfl | rfl<;>rfl
theorem rcs_one (l:List Rl):∀ u ∈ rcs l,u.oneCell'=true:=fun u hu=>by obtain ⟨a,_,ha⟩:=List.mem_flatMap.1 hu;simp[rcl] at ha;rcases ha with rfl | rfl | rfl | rfl | rfl | rfl<;>rfl
theorem flat_at {α:Type} (f : α->List Value) (n:Nat) (hf:∀ x,(f x).length=n):∀ (l:List α) (k j:Nat) (x : α),l[k]?=some x->j<n->(l.flatMap f)[k*n+j]?=(f x)[j]?
 | y::l,0,j,x,hx,hj=>by simp at hx;subst hx;rw[List.flatMap_cons,List.getElem?_append_left (by rw[hf];omega),Nat.zero_mul,Nat.zero_add]
 | y::l,k+1,j,x,hx,hj=>by rw[List.flatMap_cons,List.getElem?_append_right (by rw[hf,Nat.add_mul];omega),hf,show (k+1)*n+j-n=k*n+j by rw[Nat.add_mul];omega];exact flat_at f n hf l k j x (by simpa using hx) hj
 | [],_,_,_,hx,_=>by simp at hx
structure Kn (w:World) (kb:Nat) (L:List ByteArray):Prop where
 out:∃ (m:Nat) (D:DataW Value),w.ownsMap prog 9 unitElem kb m D/\m=L.length/\(∀ g:ByteArray,Maps.has D (.string g.data.toList)=hasT L g)/\Maps.size D=L.length
structure Wa (w:World) (wb:Nat) (ow:Nat->Nat) (c:Cf) (rs:List Rl) (s:St) (k:Nat) (p:Pt):Prop where
 blk:w.heap[wb]?=some (.cells (wcs c s p) 116)
 ob:ow wb=1
 lim:∀ b,ow b≠0->b<w.heap.size
 kn:Kn w p.kb (kn s.all)
 ok:ow p.kb=2
 desk:EpW.DeskAt w p.db (fun b=>ow b=3) c.len c.late s.now s.all (EpM.closedN c.len c.late s.now)
 trk:∃ who,TrAt w p.tb who c.W c.need k (Ep c s k).flatten.length (epOf (Ep c s k))/\∀ b,of who b->ow b=4
 ins:∃ F f,InA.InAt w p.xb p.tb F c.span c.score k f/\InM.Prs InA.knd (epOf (Ep c s k)) c.W c.need c.span c.score f k/\∀ b,F b->ow b=5
 rul:w.ownsRow 0 32 6 p.rv rs.length (rcs rs)
 orl:∀ b,p.rv.ownBlock=some b->ow b=6
 alr:w.ownsRow 0 86 3 p.av (alerts c rs s k).length (acs (alerts c rs s k))
 oal:∀ b,p.av.ownBlock=some b->ow b=7
 anil:alerts c rs s k = []->p.av = .slice none 0 0
 cok:c.Ok
 rok:rs.length<=6/\∀ r,r ∈ rs->r.ok
 tim:s.now<=1000
 cls:k<=EpM.closedN c.len c.late s.now
 few:(WaM.kn s.all).length<=12
 sok:∀ x,x ∈ s.all->EpM.okS s.now x=true/\0<InA.knd x.g
 use:s.sum<=6000
structure WaK (w:World) (wb:Nat) (ow:Nat->Nat) (c:Cf) (rs:List Rl) (s:St) (k:Nat):Prop where
 out:∃ p,Wa w wb ow c rs s k p
structure WaAt (w:World) (wb:Nat) (ow:Nat->Nat) (c:Cf) (rs:List Rl) (s:St):Prop where
 out:WaK w wb ow c rs s (s.cl c)
structure Wp (w w':World) (ow ow':Nat->Nat):Prop where
 kp:Kp (fun b=>ow b≠0) w w'
 new:∀ b,ow' b≠0->ow b≠0\/w.heap.size<=b
theorem Wp.refl (w:World) (ow:Nat->Nat):Wp w w ow ow:=⟨Kp.refl _ _,fun _ h=>Or.inl h⟩
theorem Wp.trans {a b c:World} {o1 o2 o3:Nat->Nat} (h:Wp a b o1 o2) (k:Wp b c o2 o3):Wp a c o1 o3 where
 kp:=h.kp.then k.kp (fun i hi h2=>by
  rcases h.new i h2 with h3 | h3
  ·exact h3
  ·omega)
 new:=fun i h3=>by
  rcases k.new i h3 with h2 | h2
  ·exact h.new i h2
  ·exact Or.inr (Nat.le_trans h.kp.size h2)
theorem Wp.below {a b:World} (h:Below a.heap.size a b) (ow:Nat->Nat):Wp a b ow ow:=⟨below_kp h _,fun _ h=>Or.inl h⟩
section
variable {w w' : World} {wb : Nat} {ow : Nat → Nat} {c : Cf} {rs : List Rl} {s : St} {k : Nat} {p : Pt}
theorem Kn.keep {kb:Nat} {L:List ByteArray} (h:Kn w kb L) (e:w'.heap[kb]?=w.heap[kb]?):Kn w' kb L:=by obtain ⟨m,D,h1,h2⟩:=h.out;exact ⟨m,D,map_keep h1 e,h2⟩
theorem Kn.lt {kb:Nat} {L:List ByteArray} (h:Kn w kb L):kb<w.heap.size:=by obtain ⟨m,D,h1,h2⟩:=h.out;exact h1.lt
theorem Wa.move (h:Wa w wb ow c rs s k p) (hs:w.heap.size<=w'.heap.size) (hk:∀ b,b<w.heap.size->ow b≠0->w'.heap[b]?=w.heap[b]?):Wa w' wb ow c rs s k p where
 blk:=by rw[hk wb (h.lim wb (by rw[h.ob];decide)) (by rw[h.ob];decide)];exact h.blk
 ob:=h.ob
 lim:=fun b hb=>Nat.lt_of_lt_of_le (h.lim b hb) hs
 kn:=h.kn.keep (hk _ h.kn.lt (by rw[h.ok];decide))
 ok:=h.ok
 desk:=h.desk.move (fun b hb h3=>hk b hb (by rw[h3];decide))
 trk:=by obtain ⟨who,h1,h2⟩:=h.trk;exact ⟨who,h1.move hs (fun b hb h4=>hk b hb (by rw[h2 b h4];decide)),h2⟩
 ins:=by obtain ⟨F,f,h1,h2,h3⟩:=h.ins;exact ⟨F,f,h1.move hs (fun b hb h4=>hk b hb (by rw[h3 b h4];decide)),h2,h3⟩
 rul:=own_keep h.rul (fun b hb=>hk b (own_lt h.rul hb) (by rw[h.orl b hb];decide))
 orl:=h.orl
 alr:=own_keep h.alr (fun b hb=>hk b (own_lt h.alr hb) (by rw[h.oal b hb];decide))
 oal:=h.oal
 anil:=h.anil
 cok:=h.cok
 rok:=h.rok
 tim:=h.tim
 cls:=h.cls
 few:=h.few
 sok:=h.sok
 use:=h.use
theorem WaK.move (h:WaK w wb ow c rs s k) (hs:w.heap.size<=w'.heap.size) (hk:∀ b,b<w.heap.size->ow b≠0->w'.heap[b]?=w.heap[b]?):WaK w' wb ow c rs s k:=by obtain ⟨p,h⟩:=h.out;exact ⟨p,h.move hs hk⟩
theorem WaK.below (h:WaK w wb ow c rs s k) (hb:Below w.heap.size w w'):WaK w' wb ow c rs s k:=h.move hb.size (fun b h1 _=>hb.block b h1)
theorem WaAt.below (h:WaAt w wb ow c rs s) (hb:Below w.heap.size w w'):WaAt w' wb ow c rs s:=⟨h.out.below hb⟩
theorem WaAt.kp {F:Nat->Prop} (h:WaAt w wb ow c rs s) (hb:Kp F w w') (hF:∀ b,ow b≠0->¬ F b):WaAt w' wb ow c rs s:=⟨h.out.move hb.size (fun b h1 h2=>hb.block b h1 (hF b h2))⟩
theorem Wa.lt (h:Wa w wb ow c rs s k p):wb<w.heap.size:=h.lim wb (by rw[h.ob];decide)
theorem Wa.cell (h:Wa w wb ow c rs s k p) (i:Nat) (hi:i<39):w.cell? ⟨wb,i,none⟩=some (cv c s p i):=by simp only[World.cell?,h.blk,Option.isSome_none,Bool.false_eq_true,if_false];exact wcs_at c s p hi
theorem Wa.fz (h:Wa w wb ow c rs s k p) (i:Nat):w.frozen? ⟨wb,i,none⟩=false:=by simp[World.frozen?,h.blk]
theorem Wa.c28 (h:Wa w wb ow c rs s k p):w.cell? ⟨wb,28,none⟩=some (.map (some p.kb)):=h.cell 28 (by omega)
theorem Wa.c29 (h:Wa w wb ow c rs s k p):w.cell? ⟨wb,29,none⟩=some (.pointer (some ⟨p.db,0,none⟩)):=h.cell 29 (by omega)
theorem Wa.c30 (h:Wa w wb ow c rs s k p):w.cell? ⟨wb,30,none⟩=some (.pointer (some ⟨p.tb,0,none⟩)):=h.cell 30 (by omega)
theorem Wa.c31 (h:Wa w wb ow c rs s k p):w.cell? ⟨wb,31,none⟩=some (.pointer (some ⟨p.xb,0,none⟩)):=h.cell 31 (by omega)
theorem Wa.c33 (h:Wa w wb ow c rs s k p):w.cell? ⟨wb,33,none⟩=some p.av:=h.cell 33 (by omega)
theorem Wa.setBlk (h:Wa w wb ow c rs s k p) {i:Nat} {v:Value} {s':St} {p':Pt} (hc:∀ j,j<39->cv c s' p' j=if j=i then v else cv c s p j):(w.setCell ⟨wb,i,none⟩ v).heap[wb]?=some (.cells (wcs c s' p') 116):=by simp only[World.setCell,Array.getElem?_modify,h.blk,if_true,Option.map_some,Option.isSome_none,Bool.false_eq_true,if_false];rw[wcs_set hc]
end
end WaW
end Go.Proofs.YtmolafjalaeoaaaGreatDoor
