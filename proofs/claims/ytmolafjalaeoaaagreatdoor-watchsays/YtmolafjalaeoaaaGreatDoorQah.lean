/-
  FrmP TkA Tk0
-/
import Derived.Test.YtmolafjalaeoaaaGreatDoorQag
import Derived.Test.YtmolafjalaeoaaaGreatDoorQab
set_option maxRecDepth 100000
set_option maxHeartbeats 8000000
namespace Go.Proofs.YtmolafjalaeoaaaGreatDoor
open Tryz
namespace FrmA
open Go.RowKit FrmM
def frCells1 (f:Fr) (pc:Option Addr×Nat):List Value:=[.int .i64 f.ty,.slice pc.1 f.rs.length pc.2,.int .i64 f.wm]
def frCells:List Fr->List (Option Addr×Nat)->List Value
 | f::fs,pc::ps=>frCells1 f pc++frCells fs ps
 | _,_=>[]
theorem frCells_snoc:∀ (fs:List Fr) (ps:List (Option Addr×Nat)) (f:Fr) (pc:Option Addr×Nat),ps.length=fs.length->frCells (fs ++ [f]) (ps ++ [pc])=frCells fs ps++frCells1 f pc
 | [],[],f,pc,_=>by simp[frCells]
 | x::fs,y::ps,f,pc,h=>by show frCells1 x y++frCells (fs ++ [f]) (ps ++ [pc])=frCells1 x y++frCells fs ps++frCells1 f pc;rw[frCells_snoc fs ps f pc (by simpa using h),List.append_assoc]
 | [],_ :: _,_,_,h=>by simp at h
 | _ :: _,[],_,_,h=>by simp at h
theorem frCells_at:∀ (fs:List Fr) (ps:List (Option Addr×Nat)) (k j:Nat) (f:Fr) (pc:Option Addr×Nat),fs[k]?=some f->ps[k]?=some pc->j<3->(frCells fs ps)[k*3+j]?=(frCells1 f pc)[j]?
 | x::fs,y::ps,0,j,f,pc,hf,hp,hj=>by simp at hf hp;subst hf hp;show (frCells1 x y++frCells fs ps)[0*3+j]? = _;rw[List.getElem?_append_left (by show 0*3+j<3;omega)];congr 1;omega
 | x::fs,y::ps,k+1,j,f,pc,hf,hp,hj=>by show (frCells1 x y++frCells fs ps)[(k+1)*3+j]? = _;have hl:(frCells1 x y).length=3:=rfl;rw[List.getElem?_append_right (by rw[hl];omega),hl,show (k+1)*3+j-3=k*3+j by omega];exact frCells_at fs ps k j f pc (by simpa using hf) (by simpa using hp) hj
 | [],_,_,_,_,_,hf,_,_=>by simp at hf
 | _ :: _,[],_,_,_,_,_,hp,_=>by simp at hp
structure FramesOwn (V:World) (base rb:Nat) (v:Value) (fs:List Fr):Prop where
 out:∃ ps:List (Option Addr×Nat),ps.length=fs.length/\V.ownsRow base 93 3 v fs.length (frCells fs ps)/\∀ (k:Nat) (f:Fr) (pc:Option Addr×Nat),fs[k]?=some f->ps[k]?=some pc->ReadsOn V pc.1 f.rs/\(f.rs≠[]->∃ b o,pc.1=some ⟨b,o,none⟩/\rb<=b/\v.ownBlock≠some b)
theorem FramesOwn.nil (V:World) (base rb:Nat):FramesOwn V base rb (.slice none 0 0) []:=⟨[],rfl,World.ownsRow_nil _ _ _ _,fun k f pc h=>by simp at h⟩
theorem ReadsOn.move {V V':World} {p:Option Addr} {rs:List Rd} (h:ReadsOn V p rs) (hs:V.heap.size<=V'.heap.size) (hk:∀ b o,p=some ⟨b,o,none⟩->b<V.heap.size->V'.heap[b]?=V.heap[b]?):ReadsOn V' p rs where
 tags:=h.tags
 at_:=fun hne=>by obtain ⟨b,o,rfl,hlt,hc⟩:=h.at_ hne;exact ⟨b,o,rfl,Nat.lt_of_lt_of_le hlt hs,fun k r hr=>(hc k r hr).keep (hk b o rfl hlt)⟩
theorem ReadsOn.empty {V V':World} {p:Option Addr} (h:ReadsOn V p []):ReadsOn V' p []:=⟨h.tags,fun hn=>absurd rfl hn⟩
theorem own_move {V V':World} {base:Nat} {e:TypeId} {size:Nat} {v:Value} {n:Nat} {xs:List Value} (h:V.ownsRow base e size v n xs) (hk:∀ k,k<V.heap.size->base<=k->V'.heap[k]?=V.heap[k]?):V'.ownsRow base e size v n xs:=by
 obtain ⟨h1,h2⟩:=h;refine ⟨h1,?_⟩;rcases h2 with h2 | ⟨g,cap,cur,hv,hg,hh,r⟩
 ·exact Or.inl h2
 ·refine Or.inr ⟨g,cap,cur,hv,hg,?_,r⟩
  have hlt:g<V.heap.size:=by
   rcases Nat.lt_or_ge g V.heap.size with h | h
   ·exact h
   ·rw[Array.getElem?_eq_none h] at hh;cases hh
  rw[hk g hlt hg];exact hh
theorem FramesOwn.move {V V':World} {base rb:Nat} {v:Value} {fs:List Fr} (h:FramesOwn V base rb v fs) (hs:V.heap.size<=V'.heap.size) (hk:∀ k,k<V.heap.size->(base<=k\/rb<=k)->V'.heap[k]?=V.heap[k]?):FramesOwn V' base rb v fs:=by
 obtain ⟨ps,hl,ho,hr⟩:=h.out;refine ⟨ps,hl,own_move ho (fun k h1 h2=>hk k h1 (Or.inl h2)),fun k f pc hf hp=>?_⟩;obtain ⟨h1,h2⟩:=hr k f pc hf hp;refine ⟨?_,h2⟩;by_cases hne:f.rs = []
 ·rw[hne] at h1 ⊢;exact h1.empty
 ·obtain ⟨b,o,hb,hrb,_⟩:=h2 hne;refine h1.move hs (fun b' o' hp' hlt=>hk b' hlt (Or.inr ?_));rw[hb] at hp';simp at hp';omega
theorem FramesOwn.below {V V':World} {base rb:Nat} {v:Value} {fs:List Fr} (h:FramesOwn V base rb v fs) (hb:Below V.heap.size V V'):FramesOwn V' base rb v fs:=h.move hb.size (fun k h1 _=>hb.block k h1)
theorem FramesOwn.alloc {V:World} {base rb:Nat} {v:Value} {fs:List Fr} (h:FramesOwn V base rb v fs) (o:Obj):FramesOwn (V.alloc o) base rb v fs:=h.below ((Below.refl _ V).alloc (Nat.le_refl _) o)
theorem FramesOwn.snoc {V V1:World} {base rb g cap:Nat} {v:Value} {fs:List Fr} {f:Fr} {p:Option Addr} {c:Nat} {ps:List (Option Addr×Nat)} (hl:ps.length=fs.length)
  (hr:∀ (k:Nat) (f:Fr) (pc:Option Addr×Nat),fs[k]?=some f->ps[k]?=some pc->ReadsOn V pc.1 f.rs/\(f.rs≠[]->∃ b o,pc.1=some ⟨b,o,none⟩/\rb<=b/\v.ownBlock≠some b))
  (ho:V1.ownsRow base 93 3 (.slice (some ⟨g,0,none⟩) (fs.length+1) cap) (fs.length+1) (frCells fs ps++frCells1 f (p,c))) (hg:V.grownBy V1 v.ownBlock) (hat:v.ownBlock=some g\/g=V.heap.size)
  (hf:ReadsOn V p f.rs) (hb:f.rs≠[]->∃ b o,p=some ⟨b,o,none⟩/\rb<=b/\v.ownBlock≠some b):FramesOwn V1 base rb (.slice (some ⟨g,0,none⟩) (fs.length+1) cap) (fs ++ [f]):=by
 have key:∀ (q:Option Addr) (rs:List Rd),ReadsOn V q rs->(rs≠[]->∃ b o,q=some ⟨b,o,none⟩/\rb<=b/\v.ownBlock≠some b)->ReadsOn V1 q rs/\(rs≠[]->∃ b o,q=some ⟨b,o,none⟩/\rb<=b/\(Value.slice (some ⟨g,0,none⟩) (fs.length+1) cap).ownBlock≠some b):=by
  intro q rs h1 h2;by_cases hne:rs = []
  ·subst hne;exact ⟨h1.empty,fun h=>absurd rfl h⟩
  ·obtain ⟨b,o,rfl,h3,h4⟩:=h2 hne;obtain ⟨b',o',hq,hlt,_⟩:=h1.at_ hne;simp at hq;obtain ⟨rfl,rfl⟩:=hq;refine ⟨h1.move hg.size (fun b' o' hp hlt=>?_),fun _=>⟨b,o,rfl,h3,?_⟩⟩
   ·simp at hp;obtain ⟨rfl,rfl⟩:=hp;exact hg.block b hlt (fun e=>h4 e.symm)
   ·show some g≠some b;rcases hat with hat | hat
    ·rw[<- hat];exact h4
    ·intro e;simp at e;omega
 refine ⟨ps ++ [(p,c)],by simp[hl],?_,?_⟩
 ·rw[List.length_append,frCells_snoc fs ps f (p,c) hl];exact ho
 ·intro k x pc hx hp;rcases Nat.lt_or_ge k fs.length with hk | hk
  ·rw[List.getElem?_append_left hk] at hx;rw[List.getElem?_append_left (by omega)] at hp;obtain ⟨h1,h2⟩:=hr k x pc hx hp;exact key pc.1 x.rs h1 h2
  ·rw[List.getElem?_append_right hk] at hx;rw[List.getElem?_append_right (by omega)] at hp
   obtain rfl:k=fs.length:=by
    rcases Nat.lt_or_ge fs.length k with h | h
    ·rw[List.getElem?_eq_none (by simp;omega)] at hx;cases hx
    ·omega
   simp at hx;rw[hl] at hp;simp at hp;subst hx hp;exact key p f.rs hf hb
structure Lay where
 lo:Nat
 cs:Array Value
 ty:TypeId
 inb:lo+1<cs.size
def Lay.obj (L:Lay) (rest:ByteArray) (lost:Nat):Obj:=.cells ((L.cs.setIfInBounds L.lo (.string rest)).setIfInBounds (L.lo+1) (.int .i64 (lost:Int))) L.ty
structure LineAt (w:World) (lb:Nat) (L:Lay) (rest:ByteArray) (lost:Nat):Prop where
 at_:w.heap[lb]?=some (L.obj rest lost)
section
variable {w w' : World} {lb : Nat} {L : Lay} {rest : ByteArray} {lost : Nat}
theorem LineAt.c0 (h:LineAt w lb L rest lost):w.cell? ⟨lb,L.lo,none⟩=some (.string rest):=by
 have:=L.inb;have hlt:L.lo<L.cs.size:=by omega
 simp[World.cell?,h.at_,Lay.obj,hlt]
theorem LineAt.c1 (h:LineAt w lb L rest lost):w.cell? ⟨lb,L.lo+1,none⟩=some (.int .i64 (lost:Int)):=by have:=L.inb;simp[World.cell?,h.at_,Lay.obj,this]
theorem LineAt.fz (h:LineAt w lb L rest lost) (i:Nat):w.frozen? ⟨lb,i,none⟩=false:=by simp[World.frozen?,h.at_,Lay.obj]
theorem LineAt.lt (h:LineAt w lb L rest lost):lb<w.heap.size:=by obtain ⟨hlt,_⟩:=Array.getElem?_eq_some_iff.1 h.at_;exact hlt
theorem LineAt.keep (h:LineAt w lb L rest lost) (e:w'.heap[lb]?=w.heap[lb]?):LineAt w' lb L rest lost:=⟨e.trans h.at_⟩
theorem LineAt.set0 (h:LineAt w lb L rest lost) (r:ByteArray):LineAt (w.setCell ⟨lb,L.lo,none⟩ (.string r)) lb L r lost:=by
 refine ⟨?_⟩;simp only[World.setCell,Array.getElem?_modify,h.at_,Lay.obj,if_true,Option.map_some,Option.isSome_none,Bool.false_eq_true,if_false];congr 2;apply Array.ext_getElem?;intro i;simp only[Array.getElem?_setIfInBounds,Array.size_setIfInBounds];have:=L.inb;by_cases h1:L.lo=i
 ·subst h1;simp
 ·simp[h1]
theorem LineAt.set1 (h:LineAt w lb L rest lost) (m:Nat) {z:Int} (hz:z=(m:Int)):LineAt (w.setCell ⟨lb,L.lo+1,none⟩ (.int .i64 z)) lb L rest m:=by
 refine ⟨?_⟩;subst hz;simp only[World.setCell,Array.getElem?_modify,h.at_,Lay.obj,if_true,Option.map_some,Option.isSome_none,Bool.false_eq_true,if_false];congr 2;apply Array.ext_getElem?;intro i;simp only[Array.getElem?_setIfInBounds,Array.size_setIfInBounds];by_cases h1:L.lo+1=i
 ·subst h1;simp
 ·simp[h1]
end
structure But (B lb:Nat) (w w':World):Prop where
 os:w'.os=w.os
 tape:w'.tape=w.tape
 output:w'.output=w.output
 size:w.heap.size<=w'.heap.size
 block:∀ k,k<B->k≠lb->w'.heap[k]?=w.heap[k]?
theorem But.refl (B lb:Nat) (w:World):But B lb w w:=⟨rfl,rfl,rfl,Nat.le_refl _,fun _ _ _=>rfl⟩
theorem But.trans {B lb:Nat} {a b c:World} (h:But B lb a b) (k:But B lb b c):But B lb a c:=
 ⟨k.os.trans h.os,k.tape.trans h.tape,k.output.trans h.output,Nat.le_trans h.size k.size,fun i hi hn=>(k.block i hi hn).trans (h.block i hi hn)⟩
theorem below_but {B:Nat} {a b:World} (h:Below B a b) (lb:Nat):But B lb a b:=⟨h.os,h.tape,h.output,h.size,fun k hk _=>h.block k hk⟩
theorem But.set {B lb:Nat} {a b:World} (h:But B lb a b) (i:Nat) (v:Value):But B lb a (b.setCell ⟨lb,i,none⟩ v):=
 h.trans ⟨rfl,rfl,rfl,by simp[World.setCell],fun k _ hn=>Below.heap_setCell _ _ _ _ hn⟩
end FrmA
namespace TkA
open Go.RowKit TkM TkW Go.Maps
def btw (n lo hi:Int):Bool:=decide (lo<=n)&&decide (n<=hi)
theorem between_any (n lo hi:Int) (w:World) :
  Calls prog 68 #[.int .i64 n,.int .i64 lo,.int .i64 hi] w fun e w'=>e = .returned (.bool (btw n lo hi))/\w'=w:=by
 by_cases h1:lo<=n
 ·by_cases h2:n<=hi
  ·have hb:btw n lo hi=true:=(by simp[btw,h1,h2]);rw[hb];clear hb;go_enter func68,ntmps68;go_wp2;go_ret;exact ⟨rfl,rfl⟩
  ·have hb:btw n lo hi=false:=(by simp[btw];omega);rw[hb];clear hb;go_enter func68,ntmps68;go_wp2;go_ret;exact ⟨by simp,rfl⟩
 ·have hb:btw n lo hi=false:=by simp[btw];omega
  rw[hb];clear hb;have h1':decide (lo<=n)=false:=by simpa using h1
  go_enter func68,ntmps68;go_wp2;go_ret;exact ⟨rfl,rfl⟩
theorem between_is {n lo hi:Int} {r:Bool} (h:btw n lo hi=r) (w:World) :
  Calls prog 68 #[.int .i64 n,.int .i64 lo,.int .i64 hi] w fun e w'=>e = .returned (.bool r)/\w'=w:=h ▸ between_any n lo hi w
def errV (n:Nat):Value:=if n=0 then .nilIface else .iface 105 (.int .i64 n)
theorem errV_pos {n:Nat} (h:n≠0):errV n = .iface 105 (.int .i64 n):=by simp[errV,h]
theorem drewN_below (w:World) (n:Nat):Below w.heap.size w (w.drewN n):=⟨rfl,rfl,rfl,Nat.le_refl _,fun _ _=>rfl⟩
theorem same_nil (w:World) :
  Calls prog 12 #[.nilIface,.int .i64 0] w fun e w'=>e = .returned (.bool true)/\w'=w:=by
 go_enter func12,ntmps12;go_wp2;go_ret;exact ⟨rfl,rfl⟩
theorem assert_errno (n:Int) (w:World):(Instr.typeAssert (.iface 105 (.int .i64 n)) 35 105 true).run prog w = .ok (.tuple #[.int .i64 n,.bool true]) w:=by kernel_rfl
theorem same_err (n:Nat) (w:World) (hn : 0<n) :
  Calls prog 12 #[.iface 105 (.int .i64 n),.int .i64 n] w fun e w'=>e = .returned (.bool true)/\w'=w:=by
 have hta:=assert_errno n;have hI:decide ((0:Int)<n)=true:=by simp;omega
 have hE:((n:Int) == n)=true:=by simp
 go_enter func12,ntmps12;go_wp2;go_ret;exact ⟨rfl,rfl⟩
theorem same_any (n:Nat) (w:World) :
  Calls prog 12 #[errV n,.int .i64 n] w fun e w'=>e = .returned (.bool true)/\w'=w:=by
 by_cases h:n=0
 ·subst h;exact same_nil w
 ·rw[errV_pos h];exact same_err n w (by omega)
theorem clone_any (s:ByteArray) (w:World) (h:s.size<=100000) :
  Calls prog 74 #[.string s] w fun e w'=>e = .returned (.string s)/\Below w.heap.size w w':=by
 go_enter func74,ntmps74;go_wp2_with fail;refine (stringslite_Clone s w (by omega)).mono ?_;rintro e w' ⟨rfl,hb⟩;have HB:Hid (Below w.heap.size w w'):=hb;clear hb;go_wp2;go_ret;exact ⟨rfl,HB.out⟩
def who0 (M T:Nat) (b:Nat):Nat×ByteArray×Nat:=if b=M then (2,⟨#[]⟩,0) else if b=T then (1,⟨#[]⟩,0) else (0,⟨#[]⟩,0)
theorem of_who0 {M T b:Nat} (h:of (who0 M T) b):b=M\/b=T:=by
 unfold of who0 at h;by_cases h1:b=M
 ·exact Or.inl h1
 ·by_cases h2:b=T
  ·exact Or.inr h2
  ·rw[if_neg h1,if_neg h2] at h;exact absurd rfl h
theorem newTrack (w:World) (W need:Nat):TrAt ((w.alloc (.map #[] 0)).alloc (.cells #[.int .i64 (W:Int),.int .i64 (need:Int),.int .i64 0,.map (some w.heap.size)] 164)) (w.heap.size+1) (who0 w.heap.size (w.heap.size+1)) W need 0 0 (epOf []):=by
 refine ⟨w.heap.size,0,.map [],fun _=>none,fun _ _=>none,?_⟩;have he:∀ e,epOf [] e = []:=fun e=>epOf_past [] (Nat.zero_le _);refine ⟨?_,?_,Nat.le_refl _,fun g zd=>rfl,fun g b h=>by simp at h,fun g e b h=>by simp at h,fun g=>?_,fun g e=>?_,?_,?_,fun g b h=>by simp at h,fun g e b h=>by simp at h,fun b hb=>?_,fun e=>?_,fun e x hx=>?_⟩
 ·have:=Go.heap_alloc_new (w.alloc (.map #[] 0)) (.cells #[.int .i64 (W:Int),.int .i64 (need:Int),.int .i64 0,.map (some w.heap.size)] 164);simpa using this
 ·exact (World.ownsMap_made w prog 9 heldV).alloc _
 ·constructor
  ·intro h;simp at h
  ·rintro ⟨e,h⟩;rw[he] at h;cases h
 ·rw[he];rfl
 ·unfold who0;rw[if_neg (by omega),if_pos rfl]
 ·unfold who0;rw[if_pos rfl]
 ·rcases of_who0 hb with h | h<;>rw[h]<;>simp<;>omega
 ·rw[he];simp
 ·rw[he] at hx;simp at hx
theorem new_ok (W need:Nat) (w:World) (h0 : 1<=W) (h1:W<=8) (h2 : 1<=need) (h3:need<=W) :
  Calls prog 32 #[.int .i64 (W:Int),.int .i64 (need:Int)] w fun e w'=>e = .returned (.tuple #[.pointer (some ⟨w.heap.size+1,0,none⟩),.nilIface])/\w'.heap.size=w.heap.size+2/\TrAt w' (w.heap.size+1) (who0 w.heap.size (w.heap.size+1)) W need 0 0 (epOf [])/\Below w.heap.size w w':=by
 have hmm:=@run_makeMap prog;have b1:btw (W:Int) 1 8=true:=by simp[btw];omega
 have b2:btw (need:Int) 1 W=true:=by simp[btw];omega
 have HD:Hid _:=newTrack w W need;go_enter func32,ntmps32;go_wp2_with fail;refine (between_is b1 _).mono ?_;rintro e w' ⟨rfl,rfl⟩;go_wp2_with fail;refine (between_is b2 _).mono ?_;rintro e w' ⟨rfl,rfl⟩;go_wp2;go_ret2;exact ⟨rfl,by simp,HD.out,((Below.refl _ _).alloc (Nat.le_refl _) _).alloc (by simp) _⟩
theorem new_bad (W need:Int) (w:World) (h:¬ (1<=W/\W<=8/\1<=need/\need<=W)) :
  Calls prog 32 #[.int .i64 W,.int .i64 need] w fun e w'=>e = .returned (.tuple #[.pointer none,.iface 105 (.int .i64 1)])/\w'=w:=by
 cases b1:btw W 1 8 with
 | false=>
  go_enter func32,ntmps32;go_wp2_with fail;refine (between_is b1 _).mono ?_;rintro e w' ⟨rfl,rfl⟩;go_wp2;go_ret2;exact ⟨rfl,rfl⟩
 | true=>
  have b2:btw need 1 W=false:=by simp[btw] at b1 ⊢;omega
  go_enter func32,ntmps32;go_wp2_with fail;refine (between_is b1 _).mono ?_;rintro e w' ⟨rfl,rfl⟩;go_wp2_with fail;refine (between_is b2 _).mono ?_;rintro e w' ⟨rfl,rfl⟩;go_wp2;go_ret2;exact ⟨rfl,rfl⟩
section
variable {w : World} {tb : Nat} {who : Nat → Nat × ByteArray × Nat} {W need n r : Nat} {ep : Nat → List Sg}
theorem epochs_any (d:TrAt w tb who W need n r ep) :
  Calls prog 109 #[.pointer (some ⟨tb,0,none⟩)] w fun e w'=>e = .returned (.int .i64 (n:Int))/\w'=w:=by
 obtain ⟨mb,m,D,tr,sp,d⟩:=d.out;have c2:=d.c2;clear d;go_enter func109,ntmps109;go_wp2;go_ret;exact ⟨rfl,rfl⟩
end
end TkA
namespace Tk0
theorem tk {P:Program} {md:Region.Mode} {ops:Array Oper} {Q:Exit->Act->World->Prop} {S:World->Prop} (i d:Nat) (v:Value) {oi:Oper} {fuel:Nat} {listed:Array Bool} {a:Act} {w:World} (hi:ops[i]?=some oi) (hd:oi.dst=some d)
  (hk:(Region.noSelect ops&&(Region.free md ops listed i&&(Region.ready md ops listed).contains i))=true)
  (hQ:∀ c a w,Q (.panic c) (a.put (some d) v) w->Q (.panic c) a w) (hy:YieldsIf P ops S oi v a) (hS:S w)
  (h:wpAnyH P md ops Q S fuel (listed.setIfInBounds i true) (a.put (some d) v) w):wpAnyH P md ops Q S (fuel+1) listed a w:=by
 rw[<- hd] at hQ h;simp only[Bool.and_eq_true] at hk;exact wpAnyH_take hi hk.1 hk.2.1 hk.2.2 hQ hy hS h
theorem sA {α:Type} {l:List α} {i:Nat} {a : α}:l.toArray.setIfInBounds i a=(l.set i a).toArray:=List.setIfInBounds_toArray ..
theorem sB {α:Type} {x a : α} {l:List α}:(x::l).set 0 a=a::l:=rfl
theorem sC {α:Type} {x a : α} {l:List α} {n:Nat}:(x::l).set (n+1) a=x::l.set n a:=rfl
end Tk0
end Go.Proofs.YtmolafjalaeoaaaGreatDoor
