/-
  TkW EpW
-/
import Derived.Test.YtmolafjalaeoaaaGreatDoorProg
import Derived.Test.YtmolafjalaeoaaaGreatDoorQaa
import Derived.WalkSpells
import Derived.WalkLawsBesides
import Derived.Deep.QuietTactic
import Derived.BigQuiet
import Derived.Maps.OwnSet
import Derived.Maps.OwnOps
import Derived.Maps.AppendAt
import Derived.Maps.RangeWalk
import Derived.Deep.AppendLies
set_option maxRecDepth 100000
set_option maxHeartbeats 8000000
namespace Go.Proofs.YtmolafjalaeoaaaGreatDoor
open Tryz
namespace TkW
open Go.RowKit TkM Go.Maps
structure Kp (F:Nat->Prop) (w w':World):Prop where
 os:w'.os=w.os
 tape:w'.tape=w.tape
 output:w'.output=w.output
 size:w.heap.size<=w'.heap.size
 block:∀ k,k<w.heap.size->¬ F k->w'.heap[k]?=w.heap[k]?
theorem Kp.refl (F:Nat->Prop) (w:World):Kp F w w:=⟨rfl,rfl,rfl,Nat.le_refl _,fun _ _ _=>rfl⟩
theorem Kp.trans {F:Nat->Prop} {a b c:World} (h:Kp F a b) (k:Kp F b c):Kp F a c:=
 ⟨k.os.trans h.os,k.tape.trans h.tape,k.output.trans h.output,Nat.le_trans h.size k.size,fun i hi hn=>(k.block i (Nat.lt_of_lt_of_le hi h.size) hn).trans (h.block i hi hn)⟩
theorem Kp.mono {F G:Nat->Prop} {a b:World} (h:Kp F a b) (k:∀ i,i<a.heap.size->F i->G i):Kp G a b:=
 ⟨h.os,h.tape,h.output,h.size,fun i hi hn=>h.block i hi (fun hf=>hn (k i hi hf))⟩
theorem Kp.then {F G:Nat->Prop} {a b c:World} (h:Kp F a b) (k:Kp G b c) (hG:∀ i,i<a.heap.size->G i->F i):Kp F a c:=
 ⟨k.os.trans h.os,k.tape.trans h.tape,k.output.trans h.output,Nat.le_trans h.size k.size,fun i hi hn=>(k.block i (Nat.lt_of_lt_of_le hi h.size) (fun hg=>hn (hG i hi hg))).trans (h.block i hi hn)⟩
theorem below_kp {a b:World} (h:Below a.heap.size a b) (F:Nat->Prop):Kp F a b:=⟨h.os,h.tape,h.output,h.size,fun k hk _=>h.block k hk⟩
theorem grown_kp {a b:World} {r:Option Nat} (h:a.grownBy b r) {F:Nat->Prop} (hF:∀ k,r=some k->F k):Kp F a b:=
 ⟨h.os,h.tape,h.output,h.size,fun k hk hn=>h.block k hk (fun e=>hn (hF k e.symm))⟩
theorem alloc_kp (F:Nat->Prop) (w:World) (o:Obj):Kp F w (w.alloc o):=below_kp ((Below.refl _ w).alloc (Nat.le_refl _) o) F
theorem set_kp {F:Nat->Prop} (w:World) (a:Addr) (v:Value) (h:F a.block):Kp F w (w.setCell a v):=
 ⟨rfl,rfl,rfl,by simp[World.setCell],fun k _ hn=>Below.heap_setCell _ _ _ _ (fun e=>hn (e ▸ h))⟩
theorem Kp.below {F:Nat->Prop} {a b:World} {B:Nat} (h:Kp F a b) (hB:B<=a.heap.size) (hF:∀ k,k<B->¬ F k):Below B a b:=
 ⟨h.os,h.tape,h.output,h.size,fun k hk=>h.block k (Nat.lt_of_lt_of_le hk hB) (hF k hk)⟩
theorem map_keep {H:Type} {P:Program} {k:TypeId} {R:Value->Option (DataW H×List MemPlace)} {w w':World} {b n:Nat} {D:DataW H} (h:w.ownsMap P k R b n D) (e:w'.heap[b]?=w.heap[b]?):w'.ownsMap P k R b n D:=by obtain ⟨es,clock,hb,r⟩:=h;exact ⟨es,clock,by rw[e];exact hb,r⟩
structure SgAt (w:World) (b o:Nat) (x:Sg):Prop where
 c0:w.cell? ⟨b,o,none⟩=some (.int .i64 x.p)
 c1:w.cell? ⟨b,o+1,none⟩=some (.int .i64 x.s)
 c2:w.cell? ⟨b,o+1+1,none⟩=some (.int .i64 x.t)
 c3:w.cell? ⟨b,o+1+1+1,none⟩=some (.string x.g)
theorem SgAt.keep {w w':World} {b o:Nat} {x:Sg} (h:SgAt w b o x) (e:w'.heap[b]?=w.heap[b]?):SgAt w' b o x where
 c0:=by rw[World.cell?_of_block (w:=w) e];exact h.c0
 c1:=by rw[World.cell?_of_block (w:=w) e];exact h.c1
 c2:=by rw[World.cell?_of_block (w:=w) e];exact h.c2
 c3:=by rw[World.cell?_of_block (w:=w) e];exact h.c3
structure SgsOn (w:World) (p:Option Addr) (xs:List Sg):Prop where
 at_:xs≠[]->∃ b o,p=some ⟨b,o,none⟩/\b<w.heap.size/\∀ k x,xs[k]?=some x->SgAt w b (o+k*4) x
theorem SgsOn.move {V V':World} {p:Option Addr} {xs:List Sg} (h:SgsOn V p xs) (hs:V.heap.size<=V'.heap.size) (hk:∀ b o,p=some ⟨b,o,none⟩->b<V.heap.size->V'.heap[b]?=V.heap[b]?):SgsOn V' p xs where
 at_:=fun hne=>by obtain ⟨b,o,rfl,hlt,hc⟩:=h.at_ hne;exact ⟨b,o,rfl,Nat.lt_of_lt_of_le hlt hs,fun k x hx=>(hc k x hx).keep (hk b o rfl hlt)⟩
theorem SgsOn.below {V V':World} {p:Option Addr} {xs:List Sg} (h:SgsOn V p xs) (hb:Below V.heap.size V V'):SgsOn V' p xs:=h.move hb.size (fun b _ _ hlt=>hb.block b hlt)
theorem SgsOn.empty {V:World} {p:Option Addr}:SgsOn V p []:=⟨fun hn=>absurd rfl hn⟩
def sgc (x:Sg):List Value:=[.int .i64 x.p,.int .i64 x.s,.int .i64 x.t,.string x.g]
def sgcs (xs:List Sg):List Value:=xs.flatMap sgc
theorem sgcs_snoc (xs:List Sg) (x:Sg):sgcs (xs ++ [x])=sgcs xs ++ [.int .i64 x.p,.int .i64 x.s,.int .i64 x.t,.string x.g]:=by simp[sgcs,sgc]
theorem sgcs_append (xs ys:List Sg):sgcs (xs++ys)=sgcs xs++sgcs ys:=by simp[sgcs]
theorem sgcs_len:∀ xs:List Sg,(sgcs xs).length=xs.length*4
 | []=>rfl
 | x::xs=>by show (sgc x++sgcs xs).length = _;rw[List.length_append,sgcs_len xs,List.length_cons];show 4 + _ = _;omega
theorem sgcs_at:∀ (xs:List Sg) (k j:Nat) (x:Sg),xs[k]?=some x->j<4->(sgcs xs)[k*4+j]?=(sgc x)[j]?
 | y::xs,0,j,x,hx,hj=>by simp at hx;subst hx;show (sgc y++sgcs xs)[0*4+j]? = _;rw[List.getElem?_append_left (by show 0*4+j<4;omega)];congr 1;omega
 | y::xs,k+1,j,x,hx,hj=>by show (sgc y++sgcs xs)[(k+1)*4+j]? = _;have hl:(sgc y).length=4:=rfl;rw[List.getElem?_append_right (by rw[hl];omega),hl,show (k+1)*4+j-4=k*4+j by omega];exact sgcs_at xs k j x (by simpa using hx) hj
 | [],_,_,_,hx,_=>by simp at hx
theorem addr_add (g j:Nat):(⟨g,0,none⟩:Addr).add j=⟨g,j,none⟩:=by unfold Addr.add;split<;>simp_all
theorem own_keep {V V':World} {base:Nat} {e:TypeId} {size:Nat} {v:Value} {n:Nat} {xs:List Value} (h:V.ownsRow base e size v n xs) (hk:∀ k,v.ownBlock=some k->V'.heap[k]?=V.heap[k]?):V'.ownsRow base e size v n xs:=by
 obtain ⟨h1,h2⟩:=h;refine ⟨h1,?_⟩;rcases h2 with h2 | ⟨g,cap,cur,hv,hg,hh,r⟩
 ·exact Or.inl h2
 ·refine Or.inr ⟨g,cap,cur,hv,hg,?_,r⟩;rw[hk g (by rw[hv];rfl)];exact hh
theorem own_lt {V:World} {base:Nat} {e:TypeId} {size:Nat} {v:Value} {n:Nat} {xs:List Value} (h:V.ownsRow base e size v n xs) {k:Nat} (hk:v.ownBlock=some k):k<V.heap.size:=(h.lt k hk).2
theorem own_tag {V:World} {base:Nat} {e:TypeId} {size:Nat} {v:Value} {n:Nat} {xs:List Value} (h:V.ownsRow base e size v n xs) {k:Nat} (hk:v.ownBlock=some k):∃ cur,V.heap[k]?=some (.cells cur e (0,0)):=by
 rcases h.2 with ⟨rfl,_⟩ | ⟨g,cap,cur,rfl,hg,hh,r⟩
 ·simp[Value.ownBlock] at hk
 ·simp[Value.ownBlock] at hk;subst hk;exact ⟨cur,hh⟩
theorem own_base {V:World} {base base':Nat} {e:TypeId} {size:Nat} {v:Value} {n:Nat} {xs:List Value} (h:V.ownsRow base e size v n xs) (hb:base'<=base):V.ownsRow base' e size v n xs:=by
 obtain ⟨h1,h2⟩:=h;refine ⟨h1,?_⟩;rcases h2 with h2 | ⟨g,cap,cur,hv,hg,r⟩
 ·exact Or.inl h2
 ·exact Or.inr ⟨g,cap,cur,hv,by omega,r⟩
theorem own_sgs {V:World} {base:Nat} {v:Value} {xs:List Sg} (h:V.ownsRow base 43 4 v xs.length (sgcs xs)):∃ p cap,v = .slice p xs.length cap/\SgsOn V p xs:=by
 by_cases hne:xs = []
 ·subst hne;rcases h.2 with ⟨rfl,h0⟩ | ⟨g,cap,cur,hv,_⟩
  ·exact ⟨none,0,rfl,SgsOn.empty⟩
  ·exact ⟨_,cap,hv,SgsOn.empty⟩
 ·obtain ⟨g,cap,rfl,h1,h2⟩:=h.form (List.length_pos_iff.2 hne);refine ⟨_,cap,rfl,⟨fun _=>⟨g,0,rfl,h2,fun k x hx=>?_⟩⟩⟩;have hc:∀ j u,j<4->(sgc x)[j]?=some u->V.cell? ⟨g,0+k*4+j,none⟩=some u:=by intro j u hj hu;have:=h.cells (g:=g) rfl (k*4+j) u (by rw[sgcs_at xs k j x hx hj];exact hu);rw[addr_add] at this;rw[Nat.zero_add];exact this
  exact ⟨hc 0 _ (by omega) rfl,hc 1 _ (by omega) rfl,hc 2 _ (by omega) rfl,hc 3 _ (by omega) rfl⟩
def heldV (v:Value):Option (DataW Value×List MemPlace):=some (.held v,[])
theorem law3:Keyed prog 3:=int_keyed underlying3
theorem law9:Keyed prog 9:=string_keyed underlying9
def dat (zd:DataW Value):Option Nat->DataW Value
 | some b=>.held (.map (some b))
 | none=>zd
theorem dat_nil (o:Option Nat):dat (.held (.map none)) o = .held (.map o):=by cases o<;>rfl
def spot (g:ByteArray) (l:List Sg) (p:Int) (zd:DataW Value):DataW Value:=if seenAt g p l=true then .lit (.int .i64 (sumAt g p l)) else zd
structure TrIn (w:World) (tb mb m:Nat) (D:DataW Value) (tr:ByteArray->Option Nat) (sp:ByteArray->Nat->Option Nat) (who:Nat->Nat×ByteArray×Nat) (W need n r:Nat) (ep:Nat->List Sg):Prop where
 cells:w.heap[tb]?=some (.cells #[.int .i64 (W:Int),.int .i64 (need:Int),.int .i64 (n:Int),.map (some mb)] 164)
 own:w.ownsMap prog 9 heldV mb m D
 room:m<=r
 key:∀ (g:ByteArray) (zd:DataW Value),D.atKey (.string g.data.toList) zd=dat zd (tr g)
 trl:∀ g b,tr g=some b->∃ (m:Nat) (D:DataW Value),w.ownsMap prog 3 heldV b m D/\m<=r/\∀ (e:Nat) (zd:DataW Value),D.atKey (.int .i64 (e:Int)) zd=dat zd (sp g e)
 spl:∀ g e b,sp g e=some b->∃ (m:Nat) (D:DataW Value),w.ownsMap prog 3 (plainElem prog 2) b m D/\m<=r/\∀ (p:Int) (zd:DataW Value),D.atKey (.int .i64 p) zd=spot g (ep e) p zd
 told:∀ g,(tr g).isSome=true↔∃ e,seenG g (ep e)=true
 tolde:∀ g e,(sp g e).isSome=seenG g (ep e)
 wt:who tb=(1,⟨#[]⟩,0)
 wm:who mb=(2,⟨#[]⟩,0)
 wr:∀ g b,tr g=some b->who b=(3,g,0)
 ws:∀ g e b,sp g e=some b->who b=(4,g,e)
 lim:∀ b,(who b).1≠0->b<w.heap.size
 len:∀ e,(ep e).length<=6000
 ok:∀ e x,x ∈ ep e->okS x=true
structure TrAt (w:World) (tb:Nat) (who:Nat->Nat×ByteArray×Nat) (W need n r:Nat) (ep:Nat->List Sg):Prop where
 out:∃ (mb m:Nat) (D:DataW Value) (tr:ByteArray->Option Nat) (sp:ByteArray->Nat->Option Nat),TrIn w tb mb m D tr sp who W need n r ep
def of (who:Nat->Nat×ByteArray×Nat) (b:Nat):Prop:=(who b).1≠0
section
variable {w : World} {tb mb m : Nat} {D : DataW Value} {tr : ByteArray → Option Nat} {sp : ByteArray → Nat → Option Nat} {who : Nat → Nat × ByteArray × Nat} {W need n r : Nat} {ep : Nat → List Sg}
theorem TrIn.c0 (d:TrIn w tb mb m D tr sp who W need n r ep):w.cell? ⟨tb,0,none⟩=some (.int .i64 (W:Int)):=by simp[World.cell?,d.cells]
theorem TrIn.c1 (d:TrIn w tb mb m D tr sp who W need n r ep):w.cell? ⟨tb,1,none⟩=some (.int .i64 (need:Int)):=by simp[World.cell?,d.cells]
theorem TrIn.c2 (d:TrIn w tb mb m D tr sp who W need n r ep):w.cell? ⟨tb,2,none⟩=some (.int .i64 (n:Int)):=by simp[World.cell?,d.cells]
theorem TrIn.c3 (d:TrIn w tb mb m D tr sp who W need n r ep):w.cell? ⟨tb,3,none⟩=some (.map (some mb)):=by simp[World.cell?,d.cells]
theorem TrIn.fz (d:TrIn w tb mb m D tr sp who W need n r ep) (i:Nat):w.frozen? ⟨tb,i,none⟩=false:=by simp[World.frozen?,d.cells]
theorem TrIn.ft (d:TrIn w tb mb m D tr sp who W need n r ep):of who tb:=by unfold of;rw[d.wt];simp
theorem TrIn.fm (d:TrIn w tb mb m D tr sp who W need n r ep):of who mb:=by unfold of;rw[d.wm];simp
theorem TrIn.fr (d:TrIn w tb mb m D tr sp who W need n r ep) {g:ByteArray} {b:Nat} (h:tr g=some b):of who b:=by unfold of;rw[d.wr g b h];simp
theorem TrIn.fs (d:TrIn w tb mb m D tr sp who W need n r ep) {g:ByteArray} {e b:Nat} (h:sp g e=some b):of who b:=by unfold of;rw[d.ws g e b h];simp
theorem TrIn.lt (d:TrIn w tb mb m D tr sp who W need n r ep):tb<w.heap.size:=d.lim _ d.ft
theorem TrIn.mlt (d:TrIn w tb mb m D tr sp who W need n r ep):mb<w.heap.size:=d.lim _ d.fm
theorem TrIn.ne (d:TrIn w tb mb m D tr sp who W need n r ep):mb≠tb:=fun e=>by have h1:=d.wm;rw[e,d.wt] at h1;simp at h1
theorem TrIn.move {w':World} (d:TrIn w tb mb m D tr sp who W need n r ep) (hs:w.heap.size<=w'.heap.size) (hk:∀ k,k<w.heap.size->of who k->w'.heap[k]?=w.heap[k]?):TrIn w' tb mb m D tr sp who W need n r ep where
 cells:=by rw[hk tb d.lt d.ft];exact d.cells
 own:=map_keep d.own (hk mb d.mlt d.fm)
 room:=d.room
 key:=d.key
 trl:=fun g b h=>by obtain ⟨m,D,h1,h2,h3⟩:=d.trl g b h;exact ⟨m,D,map_keep h1 (hk b h1.lt (d.fr h)),h2,h3⟩
 spl:=fun g e b h=>by obtain ⟨m,D,h1,h2,h3⟩:=d.spl g e b h;exact ⟨m,D,map_keep h1 (hk b h1.lt (d.fs h)),h2,h3⟩
 told:=d.told
 tolde:=d.tolde
 wt:=d.wt
 wm:=d.wm
 wr:=d.wr
 ws:=d.ws
 lim:=fun b hb=>Nat.lt_of_lt_of_le (d.lim b hb) hs
 len:=d.len
 ok:=d.ok
theorem TrIn.below {w':World} (d:TrIn w tb mb m D tr sp who W need n r ep) (hb:Below w.heap.size w w'):TrIn w' tb mb m D tr sp who W need n r ep:=d.move hb.size (fun k hk _=>hb.block k hk)
theorem TrAt.move {w':World} (d:TrAt w tb who W need n r ep) (hs:w.heap.size<=w'.heap.size) (hk:∀ k,k<w.heap.size->of who k->w'.heap[k]?=w.heap[k]?):TrAt w' tb who W need n r ep:=by obtain ⟨mb,m,D,tr,sp,d⟩:=d.out;exact ⟨mb,m,D,tr,sp,d.move hs hk⟩
theorem TrAt.below {w':World} (d:TrAt w tb who W need n r ep) (hb:Below w.heap.size w w'):TrAt w' tb who W need n r ep:=d.move hb.size (fun k hk _=>hb.block k hk)
theorem TrAt.lt (d:TrAt w tb who W need n r ep):tb<w.heap.size:=by obtain ⟨mb,m,D,tr,sp,d⟩:=d.out;exact d.lt
theorem TrAt.lim (d:TrAt w tb who W need n r ep) {b:Nat} (h:of who b):b<w.heap.size:=by obtain ⟨mb,m,D,tr,sp,d⟩:=d.out;exact d.lim b h
theorem keyInt (k:Int):WideAt.IsKeyLit (.int .i64 k):=by simp[WideAt.IsKeyLit]
theorem keyStr (l:List UInt8):WideAt.IsKeyLit (.string l):=by simp[WideAt.IsKeyLit]
def who1 (who:Nat->Nat×ByteArray×Nat) (g:ByteArray) (n T S:Nat) (b:Nat):Nat×ByteArray×Nat:=if b=T then (3,g,0) else if b=S then (4,g,n) else who b
def ep1 (ep:Nat->List Sg) (n:Nat) (x:Sg) (e:Nat):List Sg:=if e=n then ep n ++ [x] else ep e
theorem kept {w':World} {x:Sg} {m' mT mS T S:Nat} {D' DT DS:DataW Value} (d:TrIn w tb mb m D tr sp who W need n r ep) (hx:okS x=true) (hn:(ep n).length<6000)
  (hT:tr x.g=some T\/(tr x.g=none/\w.heap.size<=T)) (hS:sp x.g n=some S\/(sp x.g n=none/\w.heap.size<=S)) (hTS:T≠S) (hlt:T<w'.heap.size) (hls:S<w'.heap.size) (hsz:w.heap.size<=w'.heap.size)
  (hk:∀ b,b<w.heap.size->of who b->b≠mb->b≠T->b≠S->w'.heap[b]?=w.heap[b]?)
  (hm:w'.ownsMap prog 9 heldV mb m' D') (hm':m'<=r+1) (hkey:∀ (g:ByteArray) (zd:DataW Value),D'.atKey (.string g.data.toList) zd=dat zd (if g=x.g then some T else tr g))
  (ht:w'.ownsMap prog 3 heldV T mT DT) (hmT:mT<=r+1) (htk:∀ (e:Nat) (zd:DataW Value),DT.atKey (.int .i64 (e:Int)) zd=dat zd (if e=n then some S else sp x.g e))
  (hs:w'.ownsMap prog 3 (plainElem prog 2) S mS DS) (hmS:mS<=r+1) (hsk:∀ (p:Int) (zd:DataW Value),DS.atKey (.int .i64 p) zd=spot x.g (ep n ++ [x]) p zd) :
  TrIn w' tb mb m' D' (fun g=>if g=x.g then some T else tr g) (fun g e=>if g=x.g/\e=n then some S else sp g e) (who1 who x.g n T S) W need n (r+1) (ep1 ep n x):=by
 have hTw:∀ b,who b=(3,x.g,0)\/(who b).1≠3\/b≠T:=by
  intro b;by_cases hb:b=T
  ·rcases hT with h | ⟨h1,h2⟩
   ·left;rw[hb];exact d.wr _ _ h
   ·right;left;by_cases hz:(who b).1=0
    ·rw[hz];simp
    ·have:=d.lim b hz;omega
  ·right;right;exact hb
 have nT:∀ b k,who b=k->k.1≠0->k.1≠3->b≠T:=by
  intro b k h1 h2 h3 e;subst e;rcases hT with h | ⟨_,h4⟩
  ·rw[d.wr _ _ h] at h1;rw[<- h1] at h3;simp at h3
  ·have:=d.lim b (by rw[h1];exact h2);omega
 have nS:∀ b k,who b=k->k.1≠0->k.1≠4->b≠S:=by
  intro b k h1 h2 h3 e;subst e;rcases hS with h | ⟨_,h4⟩
  ·rw[d.ws _ _ _ h] at h1;rw[<- h1] at h3;simp at h3
  ·have:=d.lim b (by rw[h1];exact h2);omega
 have oT:∀ g b,tr g=some b->g≠x.g->b≠T:=by
  intro g b h hg e;subst e;rcases hT with h' | ⟨_,h4⟩
  ·have h1:=d.wr _ _ h;rw[d.wr _ _ h'] at h1;exact hg (by simpa using h1.symm)
  ·have:=d.lim b (d.fr h);omega
 have oS:∀ g e b,sp g e=some b->¬ (g=x.g/\e=n)->b≠S:=by
  intro g e b h hg e';subst e';rcases hS with h' | ⟨_,h4⟩
  ·have h1:=d.ws _ _ _ h;rw[d.ws _ _ _ h'] at h1;simp at h1;exact hg ⟨h1.1.symm,h1.2.symm⟩
  ·have:=d.lim b (d.fs h);omega
 have e1:∀ e,ep1 ep n x e=if e=n then ep n ++ [x] else ep e:=fun e=>rfl
 refine ⟨?_,hm,hm',hkey,?_,?_,?_,?_,?_,?_,?_,?_,?_,?_,?_⟩
 ·rw[hk tb d.lt d.ft (fun e=>d.ne e.symm) (nT _ _ d.wt (by simp) (by simp)) (nS _ _ d.wt (by simp) (by simp))];exact d.cells
 ·intro g b h;by_cases hg:g=x.g
  ·rw[if_pos hg] at h;simp at h;subst h hg;refine ⟨mT,DT,ht,hmT,fun e zd=>?_⟩;rw[htk];by_cases he:e=n
   ·rw[if_pos he,if_pos ⟨rfl,he⟩]
   ·rw[if_neg he,if_neg (fun h=>he h.2)]
  ·rw[if_neg hg] at h;obtain ⟨m0,D0,h1,h2,h3⟩:=d.trl g b h;have hw:=d.wr _ _ h;refine ⟨m0,D0,map_keep h1 (hk b h1.lt (d.fr h) (fun e=>?_) (oT g b h hg) (nS _ _ hw (by simp) (by simp))),by omega,fun e zd=>?_⟩
   ·rw[e,d.wm] at hw;simp at hw
   ·rw[h3,if_neg (fun h=>hg h.1)]
 ·intro g e b h;by_cases hg:g=x.g/\e=n
  ·rw[if_pos hg] at h;simp at h;obtain ⟨rfl,rfl⟩:=hg;subst h;refine ⟨mS,DS,hs,hmS,fun p zd=>?_⟩;rw[hsk,e1,if_pos rfl]
  ·rw[if_neg hg] at h;obtain ⟨m0,D0,h1,h2,h3⟩:=d.spl g e b h;have hw:=d.ws _ _ _ h;refine ⟨m0,D0,map_keep h1 (hk b h1.lt (d.fs h) (fun e=>?_) (nT _ _ hw (by simp) (by simp)) (oS g e b h hg)),by omega,fun p zd=>?_⟩
   ·rw[e,d.wm] at hw;simp at hw
   ·rw[h3,e1];by_cases he:e=n
    ·have hgx:¬ x.g=g:=fun e'=>hg ⟨e'.symm,he⟩;subst he;have hf:at1 g p x=false:=(by simp[at1,hgx]);rw[if_pos rfl];unfold spot;rw[seenAt_snoc,sumAt_snoc,hf];simp
    ·rw[if_neg he]
 ·intro g;by_cases hg:g=x.g
  ·rw[if_pos hg];refine ⟨fun _=>⟨n,?_⟩,fun _=>rfl⟩;rw[e1,if_pos rfl,seen_snoc,hg];simp
  ·rw[if_neg hg,d.told g];constructor
   ·rintro ⟨e,h⟩;refine ⟨e,?_⟩;rw[e1];by_cases he:e=n
    ·rw[if_pos he,seen_snoc,<- he,h];rfl
    ·rw[if_neg he];exact h
   ·rintro ⟨e,h⟩;refine ⟨e,?_⟩;rw[e1] at h;by_cases he:e=n
    ·rw[if_pos he,seen_snoc,<- he] at h;have:¬ x.g=g:=fun e=>hg e.symm;simpa [this] using h
    ·rw[if_neg he] at h;exact h
 ·intro g e;rw[e1];by_cases he:e=n
  ·rw[if_pos he,seen_snoc];by_cases hg:g=x.g
   ·rw[if_pos ⟨hg,he⟩,hg];simp
   ·have:¬ x.g=g:=fun e=>hg e.symm;rw[if_neg (fun h=>hg h.1),d.tolde,he];simp[this]
  ·rw[if_neg he,if_neg (fun h=>he h.2),d.tolde]
 ·show who1 who x.g n T S tb = _;unfold who1;rw[if_neg (nT _ _ d.wt (by simp) (by simp)),if_neg (nS _ _ d.wt (by simp) (by simp))];exact d.wt
 ·show who1 who x.g n T S mb = _;unfold who1;rw[if_neg (nT _ _ d.wm (by simp) (by simp)),if_neg (nS _ _ d.wm (by simp) (by simp))];exact d.wm
 ·intro g b h;show who1 who x.g n T S b = _;unfold who1;by_cases hg:g=x.g
  ·rw[if_pos hg] at h;simp at h;rw[if_pos h.symm,hg]
  ·rw[if_neg hg] at h;rw[if_neg (oT g b h hg),if_neg (nS _ _ (d.wr _ _ h) (by simp) (by simp))];exact d.wr _ _ h
 ·intro g e b h;show who1 who x.g n T S b = _;unfold who1;by_cases hg:g=x.g/\e=n
  ·rw[if_pos hg] at h;simp at h;rw[if_neg (fun e=>hTS (e.symm.trans h.symm)),if_pos h.symm,hg.1,hg.2]
  ·rw[if_neg hg] at h;rw[if_neg (nT _ _ (d.ws _ _ _ h) (by simp) (by simp)),if_neg (oS g e b h hg)];exact d.ws _ _ _ h
 ·intro b hb;by_cases h1:b=T
  ·omega
  ·by_cases h2:b=S
   ·omega
   ·unfold who1 at hb;rw[if_neg h1,if_neg h2] at hb;exact Nat.lt_of_lt_of_le (d.lim b hb) hsz
 ·intro e;rw[e1];by_cases he:e=n
  ·rw[if_pos he];simp;omega
  ·rw[if_neg he];exact d.len e
 ·intro e y hy;rw[e1] at hy;by_cases he:e=n
  ·rw[if_pos he] at hy;rcases List.mem_append.1 hy with h | h
   ·exact d.ok _ _ h
   ·simp at h;rw[h];exact hx
  ·rw[if_neg he] at hy;exact d.ok _ _ hy
theorem who1_new {g:ByteArray} {T S b:Nat} (d:TrIn w tb mb m D tr sp who W need n r ep) (hT:tr g=some T\/(tr g=none/\w.heap.size<=T)) (hS:sp g n=some S\/(sp g n=none/\w.heap.size<=S)) (h:of (who1 who g n T S) b):of who b\/w.heap.size<=b:=by
 by_cases h1:b=T
 ·rcases hT with h' | ⟨_,h'⟩
  ·left;rw[h1];exact d.fr h'
  ·right;omega
 ·by_cases h2:b=S
  ·rcases hS with h' | ⟨_,h'⟩
   ·left;rw[h2];exact d.fs h'
   ·right;omega
  ·left;unfold of who1 at h;rw[if_neg h1,if_neg h2] at h;exact h
theorem TrIn.next (d:TrIn w tb mb m D tr sp who W need n r ep) {z:Int} (hz:z=((n+1:Nat):Int)):TrIn (w.setCell ⟨tb,2,none⟩ (.int .i64 z)) tb mb m D tr sp who W need (n+1) r ep where
 cells:=by subst hz;simp[World.setCell,Array.getElem?_modify,d.cells]
 own:=d.own.setCell d.ne _
 room:=d.room
 key:=d.key
 trl:=fun g b h=>by obtain ⟨m,D,h1,h2,h3⟩:=d.trl g b h;exact ⟨m,D,h1.setCell (fun e=>by have hw:=d.wr _ _ h;rw[show b=tb from e,d.wt] at hw;simp at hw) _,h2,h3⟩
 spl:=fun g e b h=>by obtain ⟨m,D,h1,h2,h3⟩:=d.spl g e b h;exact ⟨m,D,h1.setCell (fun e=>by have hw:=d.ws _ _ _ h;rw[show b=tb from e,d.wt] at hw;simp at hw) _,h2,h3⟩
 told:=d.told
 tolde:=d.tolde
 wt:=d.wt
 wm:=d.wm
 wr:=d.wr
 ws:=d.ws
 lim:=fun b hb=>by simp[World.setCell];exact d.lim b hb
 len:=d.len
 ok:=d.ok
end
end TkW
namespace EpW
open Go.RowKit EpM TkW Go.Maps
open TkM (Sg)
theorem own_sgs {V:World} {base:Nat} {v:Value} {xs:List Sg} (h:V.ownsRow base 43 4 v xs.length (sgcs xs)):∃ p cap,v = .slice p xs.length cap/\SgsOn V p xs:=by
 by_cases hne:xs = []
 ·subst hne;rcases h.2 with ⟨rfl,h0⟩ | ⟨g,cap,cur,hv,_⟩
  ·exact ⟨none,0,rfl,SgsOn.empty⟩
  ·exact ⟨_,cap,hv,SgsOn.empty⟩
 ·obtain ⟨g,cap,rfl,h1,h2⟩:=h.form (List.length_pos_iff.2 hne);refine ⟨_,cap,rfl,⟨fun _=>⟨g,0,rfl,h2,fun k x hx=>?_⟩⟩⟩;have hc:∀ j u,j<4->(sgc x)[j]?=some u->V.cell? ⟨g,0+k*4+j,none⟩=some u:=by intro j u hj hu;have:=h.cells (g:=g) rfl (k*4+j) u (by rw[sgcs_at xs k j x hx hj];exact hu);rw[addr_add] at this;rw[Nat.zero_add];exact this
  exact ⟨hc 0 _ (by omega) rfl,hc 1 _ (by omega) rfl,hc 2 _ (by omega) rfl,hc 3 _ (by omega) rfl⟩
def epc1 (e:Nat×List Sg) (pc:Option Addr×Nat):List Value:=[.int .i64 (e.1:Int),.slice pc.1 e.2.length pc.2]
def epcs:List (Nat×List Sg)->List (Option Addr×Nat)->List Value
 | e::es,pc::ps=>epc1 e pc++epcs es ps
 | _,_=>[]
theorem epcs_snoc:∀ (es:List (Nat×List Sg)) (ps:List (Option Addr×Nat)) (e:Nat×List Sg) (pc:Option Addr×Nat),ps.length=es.length->epcs (es ++ [e]) (ps ++ [pc])=epcs es ps++epc1 e pc
 | [],[],e,pc,_=>by simp[epcs]
 | x::es,y::ps,e,pc,h=>by show epc1 x y++epcs (es ++ [e]) (ps ++ [pc])=epc1 x y++epcs es ps++epc1 e pc;rw[epcs_snoc es ps e pc (by simpa using h),List.append_assoc]
 | [],_ :: _,_,_,h=>by simp at h
 | _ :: _,[],_,_,h=>by simp at h
theorem epcs_at:∀ (es:List (Nat×List Sg)) (ps:List (Option Addr×Nat)) (k j:Nat) (e:Nat×List Sg) (pc:Option Addr×Nat),es[k]?=some e->ps[k]?=some pc->j<2->(epcs es ps)[k*2+j]?=(epc1 e pc)[j]?
 | x::es,y::ps,0,j,f,pc,hf,hp,hj=>by simp at hf hp;subst hf hp;show (epc1 x y++epcs es ps)[0*2+j]? = _;rw[List.getElem?_append_left (by show 0*2+j<2;omega)];congr 1;omega
 | x::es,y::ps,k+1,j,f,pc,hf,hp,hj=>by show (epc1 x y++epcs es ps)[(k+1)*2+j]? = _;have hl:(epc1 x y).length=2:=rfl;rw[List.getElem?_append_right (by rw[hl];omega),hl,show (k+1)*2+j-2=k*2+j by omega];exact epcs_at es ps k j f pc (by simpa using hf) (by simpa using hp) hj
 | [],_,_,_,_,_,hf,_,_=>by simp at hf
 | _ :: _,[],_,_,_,_,_,hp,_=>by simp at hp
structure EpsOwn (V:World) (base:Nat) (G:Nat->Prop) (v:Value) (es:List (Nat×List Sg)):Prop where
 out:∃ ps:List (Option Addr×Nat),ps.length=es.length/\V.ownsRow base 125 2 v es.length (epcs es ps)/\∀ (k:Nat) (e:Nat×List Sg) (pc:Option Addr×Nat),es[k]?=some e->ps[k]?=some pc->SgsOn V pc.1 e.2/\(e.2≠[]->∃ b o,pc.1=some ⟨b,o,none⟩/\G b/\v.ownBlock≠some b)
theorem EpsOwn.nil (V:World) (base:Nat) (G:Nat->Prop):EpsOwn V base G (.slice none 0 0) []:=⟨[],rfl,World.ownsRow_nil _ _ _ _,fun k f pc h=>by simp at h⟩
theorem EpsOwn.move {V V':World} {base:Nat} {G:Nat->Prop} {v:Value} {es:List (Nat×List Sg)} (h:EpsOwn V base G v es) (hs:V.heap.size<=V'.heap.size) (hk:∀ k,k<V.heap.size->(base<=k\/G k)->V'.heap[k]?=V.heap[k]?):EpsOwn V' base G v es:=by
 obtain ⟨ps,hl,ho,hr⟩:=h.out;refine ⟨ps,hl,own_keep ho (fun k h1=>hk k (own_lt ho h1) (Or.inl (ho.lt k h1).1)),fun k f pc hf hp=>?_⟩;obtain ⟨h1,h2⟩:=hr k f pc hf hp;refine ⟨?_,h2⟩;by_cases hne:f.2 = []
 ·rw[hne];exact SgsOn.empty
 ·obtain ⟨b,o,hb,hrb,_⟩:=h2 hne;refine h1.move hs (fun b' o' hp' hlt=>hk b' hlt (Or.inr ?_));rw[hb] at hp';simp at hp';rw[<- hp'.1];exact hrb
theorem EpsOwn.mono {V:World} {base:Nat} {G G':Nat->Prop} {v:Value} {es:List (Nat×List Sg)} (h:EpsOwn V base G v es) (hG:∀ k,G k->G' k):EpsOwn V base G' v es:=by obtain ⟨ps,hl,ho,hr⟩:=h.out;refine ⟨ps,hl,ho,fun k f pc hf hp=>?_⟩;obtain ⟨h1,h2⟩:=hr k f pc hf hp;refine ⟨h1,fun hne=>?_⟩;obtain ⟨b,o,hb,hrb,hv⟩:=h2 hne;exact ⟨b,o,hb,hG b hrb,hv⟩
theorem EpsOwn.below {V V':World} {base:Nat} {G:Nat->Prop} {v:Value} {es:List (Nat×List Sg)} (h:EpsOwn V base G v es) (hb:Below V.heap.size V V'):EpsOwn V' base G v es:=h.move hb.size (fun k h1 _=>hb.block k h1)
theorem EpsOwn.alloc {V:World} {base:Nat} {G:Nat->Prop} {v:Value} {es:List (Nat×List Sg)} (h:EpsOwn V base G v es) (o:Obj):EpsOwn (V.alloc o) base G v es:=h.below ((Below.refl _ V).alloc (Nat.le_refl _) o)
theorem EpsOwn.snoc {V V1:World} {base g cap:Nat} {G:Nat->Prop} {v:Value} {es:List (Nat×List Sg)} {f:Nat×List Sg} {p:Option Addr} {c:Nat} {ps:List (Option Addr×Nat)} (hl:ps.length=es.length)
  (hr:∀ (k:Nat) (e:Nat×List Sg) (pc:Option Addr×Nat),es[k]?=some e->ps[k]?=some pc->SgsOn V pc.1 e.2/\(e.2≠[]->∃ b o,pc.1=some ⟨b,o,none⟩/\G b/\v.ownBlock≠some b))
  (ho:V1.ownsRow base 125 2 (.slice (some ⟨g,0,none⟩) (es.length+1) cap) (es.length+1) (epcs es ps++epc1 f (p,c))) (hg:V.grownBy V1 v.ownBlock) (hat:v.ownBlock=some g\/g=V.heap.size)
  (hf:SgsOn V p f.2) (hb:f.2≠[]->∃ b o,p=some ⟨b,o,none⟩/\G b/\v.ownBlock≠some b):EpsOwn V1 base G (.slice (some ⟨g,0,none⟩) (es.length+1) cap) (es ++ [f]):=by
 have key:∀ (q:Option Addr) (xs:List Sg),SgsOn V q xs->(xs≠[]->∃ b o,q=some ⟨b,o,none⟩/\G b/\v.ownBlock≠some b)->SgsOn V1 q xs/\(xs≠[]->∃ b o,q=some ⟨b,o,none⟩/\G b/\(Value.slice (some ⟨g,0,none⟩) (es.length+1) cap).ownBlock≠some b):=by
  intro q xs h1 h2;by_cases hne:xs = []
  ·subst hne;exact ⟨SgsOn.empty,fun h=>absurd rfl h⟩
  ·obtain ⟨b,o,rfl,h3,h4⟩:=h2 hne;obtain ⟨b',o',hq,hlt,_⟩:=h1.at_ hne;simp at hq;obtain ⟨rfl,rfl⟩:=hq;refine ⟨h1.move hg.size (fun b' o' hp hlt=>?_),fun _=>⟨b,o,rfl,h3,?_⟩⟩
   ·simp at hp;obtain ⟨rfl,rfl⟩:=hp;exact hg.block b hlt (fun e=>h4 e.symm)
   ·show some g≠some b;rcases hat with hat | hat
    ·rw[<- hat];exact h4
    ·intro e;simp at e;omega
 refine ⟨ps ++ [(p,c)],by simp[hl],?_,?_⟩
 ·rw[List.length_append,epcs_snoc es ps f (p,c) hl];exact ho
 ·intro k x pc hx hp;rcases Nat.lt_or_ge k es.length with hk | hk
  ·rw[List.getElem?_append_left hk] at hx;rw[List.getElem?_append_left (by omega)] at hp;obtain ⟨h1,h2⟩:=hr k x pc hx hp;exact key pc.1 x.2 h1 h2
  ·rw[List.getElem?_append_right hk] at hx;rw[List.getElem?_append_right (by omega)] at hp
   obtain rfl:k=es.length:=by
    rcases Nat.lt_or_ge es.length k with h | h
    ·rw[List.getElem?_eq_none (by simp;omega)] at hx;cases hx
    ·omega
   simp at hx;rw[hl] at hp;simp at hp;subst hx hp;exact key p f.2 hf hb
def nilS:Value:=.slice none 0 0
structure DeskIn (w:World) (db mb n:Nat) (D:DataW Value) (h:Nat->Value) (F:Nat->Prop) (size late now:Nat) (all:List Sg) (lo:Nat):Prop where
 cells:w.heap[db]?=some (.cells #[.int .i64 (size:Int),.int .i64 (late:Int),.int .i64 (now:Int),.map (some mb)] 161)
 own:w.ownsMap prog 3 heldV mb n D
 room:n<=all.length
 fd:F db
 fm:F mb
 key:∀ k,lo<=k->D.atKey (.int .i64 (k:Int)) (.held nilS) = .held (h k)
 row:∀ k,lo<=k->w.ownsRow 0 43 4 (h k) (grp size all k).length (sgcs (grp size all k))
 fr:∀ k b,lo<=k->(h k).ownBlock=some b->F b
 apart:∀ k k',lo<=k->lo<=k'->k≠k'->∀ b,(h k).ownBlock=some b->(h k').ownBlock≠some b
structure DeskAt (w:World) (db:Nat) (F:Nat->Prop) (size late now:Nat) (all:List Sg) (lo:Nat):Prop where
 out:∃ (mb n:Nat) (D:DataW Value) (h:Nat->Value),DeskIn w db mb n D h F size late now all lo
section
variable {w : World} {db mb n : Nat} {D : DataW Value} {h : Nat → Value} {F : Nat → Prop} {size late now : Nat} {all : List Sg} {lo : Nat}
theorem DeskIn.c0 (d:DeskIn w db mb n D h F size late now all lo):w.cell? ⟨db,0,none⟩=some (.int .i64 (size:Int)):=by simp[World.cell?,d.cells]
theorem DeskIn.c1 (d:DeskIn w db mb n D h F size late now all lo):w.cell? ⟨db,1,none⟩=some (.int .i64 (late:Int)):=by simp[World.cell?,d.cells]
theorem DeskIn.c2 (d:DeskIn w db mb n D h F size late now all lo):w.cell? ⟨db,2,none⟩=some (.int .i64 (now:Int)):=by simp[World.cell?,d.cells]
theorem DeskIn.c3 (d:DeskIn w db mb n D h F size late now all lo):w.cell? ⟨db,3,none⟩=some (.map (some mb)):=by simp[World.cell?,d.cells]
theorem DeskIn.fz (d:DeskIn w db mb n D h F size late now all lo) (i:Nat):w.frozen? ⟨db,i,none⟩=false:=by simp[World.frozen?,d.cells]
theorem DeskIn.lt (d:DeskIn w db mb n D h F size late now all lo):db<w.heap.size:=(Array.getElem?_eq_some_iff.1 d.cells).1
theorem DeskIn.mlt (d:DeskIn w db mb n D h F size late now all lo):mb<w.heap.size:=d.own.lt
theorem DeskIn.ne (d:DeskIn w db mb n D h F size late now all lo):mb≠db:=by intro e;obtain ⟨es,clock,hb,_⟩:=d.own;rw[e,d.cells] at hb;cases hb
theorem DeskIn.rne (d:DeskIn w db mb n D h F size late now all lo) {k b:Nat} (hk:lo<=k) (hb:(h k).ownBlock=some b):b≠db/\b≠mb:=by
 obtain ⟨cur,hc⟩:=own_tag (d.row k hk) hb;constructor
 ·intro e;rw[e,d.cells] at hc;simp at hc
 ·intro e;obtain ⟨es,clock,hm,_⟩:=d.own;rw[e,hm] at hc;cases hc
theorem DeskIn.move {w':World} (d:DeskIn w db mb n D h F size late now all lo) (hk:∀ k,k<w.heap.size->F k->w'.heap[k]?=w.heap[k]?):DeskIn w' db mb n D h F size late now all lo where
 cells:=by rw[hk db d.lt d.fd];exact d.cells
 own:=by obtain ⟨es,clock,hb,r⟩:=d.own;exact ⟨es,clock,by rw[hk mb d.mlt d.fm];exact hb,r⟩
 room:=d.room
 fd:=d.fd
 fm:=d.fm
 key:=d.key
 row:=fun k h1=>own_keep (d.row k h1) (fun b hb=>hk b (own_lt (d.row k h1) hb) (d.fr k b h1 hb))
 fr:=d.fr
 apart:=d.apart
theorem DeskIn.mono {G:Nat->Prop} (d:DeskIn w db mb n D h F size late now all lo) (hG:∀ k,k<w.heap.size->F k->G k):DeskIn w db mb n D h G size late now all lo where
 cells:=d.cells
 own:=d.own
 room:=d.room
 fd:=hG _ d.lt d.fd
 fm:=hG _ d.mlt d.fm
 key:=d.key
 row:=d.row
 fr:=fun k b h1 h2=>hG b (own_lt (d.row k h1) h2) (d.fr k b h1 h2)
 apart:=d.apart
theorem DeskAt.move {w':World} (d:DeskAt w db F size late now all lo) (hk:∀ k,k<w.heap.size->F k->w'.heap[k]?=w.heap[k]?):DeskAt w' db F size late now all lo:=by obtain ⟨mb,n,D,h,d⟩:=d.out;exact ⟨mb,n,D,h,d.move hk⟩
theorem DeskAt.mono {G:Nat->Prop} (d:DeskAt w db F size late now all lo) (hG:∀ k,k<w.heap.size->F k->G k):DeskAt w db G size late now all lo:=by obtain ⟨mb,n,D,h,d⟩:=d.out;exact ⟨mb,n,D,h,d.mono hG⟩
theorem DeskAt.below {w':World} (d:DeskAt w db F size late now all lo) (hb:Below w.heap.size w w'):DeskAt w' db F size late now all lo:=d.move (fun k h1 _=>hb.block k h1)
theorem DeskAt.lt (d:DeskAt w db F size late now all lo):db<w.heap.size:=by obtain ⟨mb,n,D,h,d⟩:=d.out;exact d.lt
theorem DeskIn.tick (d:DeskIn w db mb n D h F size late now all lo) (m:Nat) {z:Int} (hz:z=(m:Int)):DeskIn (w.setCell ⟨db,2,none⟩ (.int .i64 z)) db mb n D h F size late m all lo where
 cells:=by subst hz;simp[World.setCell,Array.getElem?_modify,d.cells]
 own:=d.own.setCell d.ne _
 room:=d.room
 fd:=d.fd
 fm:=d.fm
 key:=d.key
 row:=fun k h1=>own_keep (d.row k h1) (fun b hb=>Below.heap_setCell _ _ _ _ (d.rne h1 hb).1)
 fr:=d.fr
 apart:=d.apart
end
def rsc (size:Nat) (x:Sg):List Value:=[.int .i64 x.p,.int .i64 x.s,.int .i64 x.t,.string x.g,.int .i64 (epo size x:Int)]
def rscs (size:Nat) (xs:List Sg):List Value:=xs.flatMap (rsc size)
theorem rscs_snoc (size:Nat) (xs:List Sg) (x:Sg):rscs size (xs ++ [x])=rscs size xs ++ [.int .i64 x.p,.int .i64 x.s,.int .i64 x.t,.string x.g,.int .i64 (epo size x:Int)]:=by simp[rscs,rsc]
theorem rscs_at (size:Nat):∀ (xs:List Sg) (k j:Nat) (x:Sg),xs[k]?=some x->j<5->(rscs size xs)[k*5+j]?=(rsc size x)[j]?
 | y::xs,0,j,x,hx,hj=>by simp at hx;subst hx;show (rsc size y++rscs size xs)[0*5+j]? = _;rw[List.getElem?_append_left (by show 0*5+j<5;omega)];congr 1;omega
 | y::xs,k+1,j,x,hx,hj=>by show (rsc size y++rscs size xs)[(k+1)*5+j]? = _;have hl:(rsc size y).length=5:=rfl;rw[List.getElem?_append_right (by rw[hl];omega),hl,show (k+1)*5+j-5=k*5+j by omega];exact rscs_at size xs k j x (by simpa using hx) hj
 | [],_,_,_,hx,_=>by simp at hx
end EpW
end Go.Proofs.YtmolafjalaeoaaaGreatDoor
