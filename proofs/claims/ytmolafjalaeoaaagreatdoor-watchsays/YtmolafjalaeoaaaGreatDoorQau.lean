/-
  EpA EpB EpC InB WaA WaR
-/
import Derived.Test.YtmolafjalaeoaaaGreatDoorShelfE
import Derived.Sort.LotA
import Derived.Shelf.SlSortCmp.NoneTotal
import Derived.Test.YtmolafjalaeoaaaGreatDoorQas
set_option maxRecDepth 100000
set_option maxHeartbeats 8000000
namespace Go.Proofs.YtmolafjalaeoaaaGreatDoor
open Tryz
namespace EpA
open TkM (Sg)
open Go.RowKit EpM EpW TkW Go.Sort Go.Shelf
def or4 (a b c d:Int):Int:=if a≠0 then a else if b≠0 then b else if c≠0 then c else d
theorem or_any (B:Nat) (a b c d:Int) (w:World) (h0:w.cell? ⟨B,0,none⟩=some (.int .i64 a)) (h1:w.cell? ⟨B,1,none⟩=some (.int .i64 b)) (h2:w.cell? ⟨B,2,none⟩=some (.int .i64 c)) (h3:w.cell? ⟨B,3,none⟩=some (.int .i64 d)) :
  Calls prog 105 #[.slice (some ⟨B,0,none⟩) 4 4] w fun e w'=>e = .returned (.int .i64 (or4 a b c d))/\w'=w:=by
 obtain ⟨R,hR⟩:∃ R,R=or4 a b c d:=⟨_,rfl⟩;have HR:Hid (R=or4 a b c d):=hR;rw[<- hR];clear hR;by_cases ha:a=0
 ·subst ha;by_cases hb:b=0
  ·subst hb;by_cases hc:c=0
   ·subst hc;by_cases hd:d=0
    ·subst hd;have hR:R=0:=(by rw[HR.out];rfl);subst hR;clear HR;go_enter func105,ntmps105;go_wp2;refine wp_loop_rounds 5 ?_
     repeat (rw[rounds_succ];go_wp2)
     go_ret;exact ⟨rfl,rfl⟩
    ·have hR:R=d:=(by rw[HR.out];unfold or4;rw[if_neg (fun h=>h rfl),if_neg (fun h=>h rfl),if_neg (fun h=>h rfl)]);subst hR;have h':(R != 0)=true:=(by simpa using hd);clear HR hd;go_enter func105,ntmps105;go_wp2;refine wp_loop_rounds 5 ?_
     repeat (rw[rounds_succ];go_wp2)
     go_ret;exact ⟨rfl,rfl⟩
   ·have hR:R=c:=(by rw[HR.out];unfold or4;rw[if_neg (fun h=>h rfl),if_neg (fun h=>h rfl),if_pos hc]);subst hR;have h':(R != 0)=true:=(by simpa using hc);clear HR hc;go_enter func105,ntmps105;go_wp2;refine wp_loop_rounds 5 ?_
    repeat (rw[rounds_succ];go_wp2)
    go_ret;exact ⟨rfl,rfl⟩
  ·have hR:R=b:=(by rw[HR.out];unfold or4;rw[if_neg (fun h=>h rfl),if_pos hb]);subst hR;have h':(R != 0)=true:=(by simpa using hb);clear HR hb;go_enter func105,ntmps105;go_wp2;refine wp_loop_rounds 5 ?_
   repeat (rw[rounds_succ];go_wp2)
   go_ret;exact ⟨rfl,rfl⟩
 ·have hR:R=a:=by rw[HR.out];unfold or4;rw[if_pos ha]
  subst hR;have h':(R != 0)=true:=by simpa using ha
  clear HR ha;go_enter func105,ntmps105;go_wp2;refine wp_loop_rounds 5 ?_;rw[rounds_succ];go_wp2;go_ret;exact ⟨rfl,rfl⟩
theorem or_new (W:World) (B:Nat) (a b c d:Int) (hB:B=W.heap.size) :
  Calls prog 105 #[.slice (some ⟨B,0,none⟩) 4 4] (W.alloc (.cells #[.int .i64 a,.int .i64 b,.int .i64 c,.int .i64 d] 3)).drew fun e w'=>e = .returned (.int .i64 (or4 a b c d))/\w'=(W.alloc (.cells #[.int .i64 a,.int .i64 b,.int .i64 c,.int .i64 d] 3)).drew:=by
 subst hB;refine or_any _ a b c d _ ?_ ?_ ?_ ?_
 all_goals
  show (W.alloc _).cell? _ = _;simp
theorem alloc3_grow (w:World) (a b c:Obj):(((w.alloc a).alloc b).alloc c).drew=grow (w.drewN 1) #[a,b,c]:=by
 have e:((w.heap.push a).push b).push c=w.heap ++ #[a,b,c]:=by apply Array.ext';simp
 unfold World.alloc World.drew grow World.drewN;simp only[e]
theorem cf_or (x y:Sg):cf x y=or4 (Lib.compareBytes x.g.data.toList y.g.data.toList) (Lib.compareInt x.t y.t) (Lib.compareInt x.p y.p) (Lib.compareInt x.s y.s):=rfl
theorem less_any (x y:Sg) (w:World) :
  Calls prog 104 #[.agg #[.int .i64 x.p,.int .i64 x.s,.int .i64 x.t,.string x.g],.agg #[.int .i64 y.p,.int .i64 y.s,.int .i64 y.t,.string y.g]] w fun e w'=>e = .returned (.int .i64 (cf x y))/\∃ q os',w'=grow (w.drewN q) os':=by
 rw[cf_or];have mixed:prog.follows .mixedOrders=true:=by kernel_rfl
 obtain ⟨xp,xs,xt,xg⟩:=x;obtain ⟨yp,ys,yt,yg⟩:=y;simp only;go_enter func104,ntmps104;go_wp2_with fail
 go_region_held3 (fun w'=>w'.cell? ⟨w.heap.size,0,none⟩=some (.int .i64 xp)/\w'.cell? ⟨w.heap.size,1,none⟩=some (.int .i64 xs)/\w'.cell? ⟨w.heap.size,2,none⟩=some (.int .i64 xt)/\w'.cell? ⟨w.heap.size,3,none⟩=some (.string xg)/\w'.cell? ⟨w.heap.size+1,0,none⟩=some (.int .i64 yp)/\w'.cell? ⟨w.heap.size+1,1,none⟩=some (.int .i64 ys)/\w'.cell? ⟨w.heap.size+1,2,none⟩=some (.int .i64 yt)/\w'.cell? ⟨w.heap.size+1,3,none⟩=some (.string yg)) (go_keep)
  (first | (go_at_call 106;refine (strings_Compare _ _ _).mono ?_;rintro e w' ⟨rfl,rfl⟩) | (go_at_call 107;refine (cmp_Compare_int _ _ _).mono ?_;rintro e w' ⟨rfl,rfl⟩) | (go_at_call 105;refine (or_new _ (w.heap.size+1+1) _ _ _ _ (by simp)).mono ?_;rintro e w' ⟨rfl,rfl⟩))
 go_wp2;go_ret;exact ⟨rfl,1,_,alloc3_grow _ _ _ _⟩
end EpA
namespace EpA
open TkM (Sg)
open Go.RowKit EpM EpW TkW Go.Sort Go.Shelf
theorem flat_eq [Inhabited Sg] (xs:List Sg):flatK sgc 4 xs.toArray=(sgcs xs).toArray:=by
 refine ext_get! (by simp[sgcs_len]) fun t ht=>?_;have ht':t<xs.length*4:=by simpa using ht
 rw[get_flatK sgc 4 xs.toArray t (by simpa using ht')];have h4:t/4<xs.length:=by omega
 have e:=sgcs_at xs (t/4) (t%4) xs[t/4] (List.getElem?_eq_getElem h4) (by omega);rw[show t/4*4+t%4=t by omega] at e;have e1:xs.toArray[t/4]! = xs[t/4]:=by rw[getElem!_pos xs.toArray (t/4) (by simpa using h4)];simp
 rw[e1];have hl:t%4<(sgc xs[t/4]).length:=by show t%4<4;omega
 have ht2:t<(sgcs xs).length:=by rw[sgcs_len];exact ht'
 rw[getElem!_pos (sgc xs[t/4]) (t%4) hl,getElem!_pos (sgcs xs).toArray t (by simpa using ht2)];rw[List.getElem?_eq_getElem hl,List.getElem?_eq_getElem ht2] at e;simp at e;simp[e]
theorem heap_put {w:World} {g n:Nat} {os:Array Obj} {cur:Array Value} {e:TypeId} {fr:Nat×Nat} (d:Array Value) (hb:w.heap[g]?=some (.cells cur e fr)) :
  (grow (putRow id (Sort.ahead w n) g 0 d) os).heap[g]?=some (.cells (putCells id 0 d cur) e fr):=by
 have hg:g<w.heap.size:=(Array.getElem?_eq_some_iff.1 hb).1;rw[heap_grow_old _ _ (by simpa using hg)];simp[putRow,mapBlock,Sort.ahead,Array.getElem?_modify,hb,onCells]
theorem grown_put {w:World} {g n:Nat} {os:Array Obj} (d:Array Value):w.grownBy (grow (putRow id (Sort.ahead w n) g 0 d) os) (some g):=by refine ⟨rfl,rfl,rfl,by simp,fun k hk hne=>?_⟩;rw[heap_grow_old _ _ (by simpa using hk)];have:g≠k:=fun e=>hne (by rw[e]);simp[putRow,mapBlock,Sort.ahead,Array.getElem?_modify,this]
theorem take_put (cur:Array Value) (ts:List Value) (h:ts.length<=cur.size):(putCells id 0 ts.toArray cur).toList.take ts.length=ts:=by
 apply List.ext_getElem?;intro j;by_cases hj:j<ts.length
 ·rw[List.getElem?_take_of_lt hj,Array.getElem?_toList];simp[putCells,hj,show j<cur.size by omega]
 ·rw[List.getElem?_take_eq_none (by omega),List.getElem?_eq_none (by omega)]
theorem sort_row [Inhabited Sg] (g cap:Nat) (xs:List Sg) (w:World) (h:w.ownsRow 0 43 4 (.slice (some ⟨g,0,none⟩) xs.length cap) xs.length (sgcs xs)) (hl:xs.length<=100000) :
  Calls prog 103 #[.slice (some ⟨g,0,none⟩) xs.length cap,.func (.func 104) #[] #[]] w fun e w'=>e = .returned (.tuple #[])/\w'.ownsRow 0 43 4 (.slice (some ⟨g,0,none⟩) xs.length cap) xs.length (sgcs (sorted xs))/\w.grownBy w' (some g):=by
 have eg:∀ args w,(callFunc 104 args).run prog w = .ok (.enter 104 args) w:=enters_of func104 (by kernel_rfl) rfl;obtain ⟨hlen,hh⟩:=h
 obtain ⟨cur,hb,h1,h2,h3,h4⟩:∃ cur,w.heap[g]?=some (.cells cur 43 (0,0))/\xs.length<=cap/\cap<=maxLen/\cur.size=cap*4/\cur.toList.take (xs.length*4)=sgcs xs:=by
  rcases hh with ⟨h0,_⟩ | ⟨g',cap',cur,hv,_,hb,r⟩
  ·cases h0
  ·simp at hv;obtain ⟨rfl,rfl⟩:=hv;exact ⟨cur,hb,r⟩
 have hH:HoldsK sgc 4 w g 0 xs.toArray:=by
  unfold HoldsK;rw[flat_eq];intro j hj;have hj':j<(sgcs xs).length:=by simpa using hj
  refine ⟨?_,by simp[World.frozen?,hb]⟩;have e1:(cur.toList.take (xs.length*4))[j]?=(sgcs xs)[j]?:=by rw[h4]
  rw[List.getElem?_take_of_lt (by rw[<- sgcs_len];exact hj')] at e1;simp only[World.cell?,hb,Nat.zero_add];simp only[Option.isSome_none,Bool.false_eq_true,if_false];rw[<- Array.getElem?_toList,e1];simp[hj']
 have hg:g<w.heap.size:=(Array.getElem?_eq_some_iff.1 hb).1
 have hcon:=AnyQ.slices_SortFunc sortS 4 isAgg43 sizeOf43 sgc (fun _=>rfl) (fun x v hv=>by simp[sgc] at hv;rcases hv with rfl | rfl | rfl | rfl<;>rfl) cf swo 104 #[] g 0 cap xs.toArray w eg
  (fun m os dk _ x y=>less_any x y _) hH hg (by simp;omega)
 refine hcon.mono ?_;rintro e w' ⟨rfl,d',n,os,hp,hs,rfl⟩;have hd:d'=(sorted xs).toArray:=by have e:=sorted_unique_holds swo total xs.toArray d' hp hs;rw[<- Array.toList_inj];exact e
 unfold sortWorldK putRowK;rw[hd,flat_eq];refine ⟨rfl,⟨by rw[sgcs_len,sorted_length],.inr ⟨g,cap,_,rfl,Nat.zero_le _,heap_put _ hb,h1,h2,by simp[putCells,h3],?_⟩⟩,grown_put _⟩;have:xs.length*4=(sgcs (sorted xs)).length:=by rw[sgcs_len,sorted_length]
 rw[this];exact take_put cur _ (by rw[<- this,h3];omega)
theorem sort_any (v:Value) (xs:List Sg) (w:World) (h:w.ownsRow 0 43 4 v xs.length (sgcs xs)) (hl:xs.length<=100000) :
  Calls prog 103 #[v,.func (.func 104) #[] #[]] w fun e w'=>e = .returned (.tuple #[])/\w'.ownsRow 0 43 4 v xs.length (sgcs (sorted xs))/\w.grownBy w' v.ownBlock:=by
 have hown:=h;rcases h.2 with ⟨rfl,h0⟩ | ⟨g,cap,cur,rfl,_⟩
 ·have hx:xs = []:=List.length_eq_zero_iff.1 h0;subst hx;refine (AnyF.slices_SortFunc_none sortS none 0 _ w).mono ?_;rintro e w' ⟨rfl,rfl⟩;have e:sorted [] = []:=by unfold sorted;simp
  rw[e];exact ⟨rfl,hown,⟨rfl,rfl,rfl,Nat.le_refl _,fun _ _ _=>rfl⟩⟩
 ·haveI:Inhabited Sg:=⟨TkM.Sg.none⟩
  exact sort_row g cap xs w hown hl
end EpA
namespace EpA
open TkM (Sg)
open Go.RowKit EpM EpW TkW
def btw (n lo hi:Int):Bool:=decide (lo<=n)&&decide (n<=hi)
theorem between_any (n lo hi:Int) (w:World) :
  Calls prog 67 #[.int .i64 n,.int .i64 lo,.int .i64 hi] w fun e w'=>e = .returned (.bool (btw n lo hi))/\w'=w:=by
 by_cases h1:lo<=n
 ·by_cases h2:n<=hi
  ·have hb:btw n lo hi=true:=(by simp[btw,h1,h2]);rw[hb];clear hb;go_enter func67,ntmps67;go_wp2;go_ret;exact ⟨rfl,rfl⟩
  ·have hb:btw n lo hi=false:=(by simp[btw];omega);rw[hb];clear hb;go_enter func67,ntmps67;go_wp2;go_ret;exact ⟨by simp,rfl⟩
 ·have hb:btw n lo hi=false:=by simp[btw];omega
  rw[hb];clear hb;have h1':decide (lo<=n)=false:=by simpa using h1
  go_enter func67,ntmps67;go_wp2;go_ret;exact ⟨rfl,rfl⟩
theorem between_is {n lo hi:Int} {r:Bool} (h:btw n lo hi=r) (w:World) :
  Calls prog 67 #[.int .i64 n,.int .i64 lo,.int .i64 hi] w fun e w'=>e = .returned (.bool r)/\w'=w:=h ▸ between_any n lo hi w
def errV (n:Nat):Value:=if n=0 then .nilIface else .iface 105 (.int .i64 n)
theorem drewN_below (w:World) (n:Nat):Below w.heap.size w (w.drewN n):=⟨rfl,rfl,rfl,Nat.le_refl _,fun _ _=>rfl⟩
theorem clone_any (s:ByteArray) (w:World) (h:s.size<=100000) :
  Calls prog 74 #[.string s] w fun e w'=>e = .returned (.string s)/\Below w.heap.size w w':=by
 go_enter func74,ntmps74;go_wp2_with fail;refine (stringslite_Clone s w (by omega)).mono ?_;rintro e w' ⟨rfl,hb⟩;have HB:Hid (Below w.heap.size w w'):=hb;clear hb;go_wp2;go_ret;exact ⟨rfl,HB.out⟩
section
variable {w : World} {db : Nat} {F : Nat → Prop} {size late now : Nat} {all : List Sg} {lo : Nat}
theorem now_any (d:DeskAt w db F size late now all lo) :
  Calls prog 66 #[.pointer (some ⟨db,0,none⟩)] w fun e w'=>e = .returned (.int .i64 (now:Int))/\w'=w:=by
 obtain ⟨mb,n,D,h,d⟩:=d.out;have c2:=d.c2;clear d;go_enter func66,ntmps66;go_wp2;go_ret;exact ⟨rfl,rfl⟩
theorem max_div {size late now:Nat}:max 0 ((now:Int)-late)/size=((closedN size late now:Nat):Int):=by
 unfold closedN;have:max 0 ((now:Int)-late)=((now-late:Nat):Int):=by omega
 rw[this];exact (Int.natCast_ediv _ _).symm
theorem closed_any (d:DeskAt w db F size late now all lo) (h0 : 0<size) (h1:size<=50) (h2:late<=50) (h3:now<=1000) :
  Calls prog 61 #[.pointer (some ⟨db,0,none⟩)] w fun e w'=>e = .returned (.int .i64 (closedN size late now:Int))/\∃ q,w'=w.drewN q:=by
 obtain ⟨mb,n,D,h,d⟩:=d.out;have mixed:prog.follows .mixedOrders=true:=by kernel_rfl
 rw[<- max_div];have c0:=d.c0;have c1:=d.c1;have c2:=d.c2;clear d;have hn:((size:Int) == 0)=false:=by simp;omega
 go_enter func61,ntmps61;go_wp2;go_quiet (fail);go_wp2;go_ret;exact ⟨rfl,_,rfl⟩
theorem closed_is {c:Nat} (hc:c=closedN size late now) (d:DeskAt w db F size late now all lo) (h0 : 0<size) (h1:size<=50) (h2:late<=50) (h3:now<=1000) :
  Calls prog 61 #[.pointer (some ⟨db,0,none⟩)] w fun e w'=>e = .returned (.int .i64 (c:Int))/\∃ q,w'=w.drewN q:=hc ▸ closed_any d h0 h1 h2 h3
theorem isSight_any (x:Sg) (d:DeskAt w db F size late now all lo) (ht:x.g.size<=maxLen) :
  Calls prog 145 #[.pointer (some ⟨db,0,none⟩),.agg #[.int .i64 x.p,.int .i64 x.s,.int .i64 x.t,.string x.g]] w fun e w'=>e = .returned (.bool (okS now x))/\Below w.heap.size w w':=by
 obtain ⟨mb,n,D,h,d⟩:=d.out;have mixed:prog.follows .mixedOrders=true:=by kernel_rfl
 have c2:=d.c2;have hdb:=d.lt;clear d;obtain ⟨R,hR⟩:∃ R,R=okS now x:=⟨_,rfl⟩;have HR:Hid (R=okS now x):=hR;rw[<- hR];clear hR;obtain ⟨p,s,t,g⟩:=x;have ht':g.size<=maxLen:=ht;clear ht;have HB:Hid (∀ q,Below w.heap.size w ((w.alloc (.cells #[.int .i64 p,.int .i64 s,.int .i64 t,.string g] 43)).drewN q)):=fun q=>((Below.refl _ w).alloc (Nat.le_refl _) _).trans ((drewN_below _ q).mono (by simp));cases h1:btw p 0 7
 case false=>go_enter func145,ntmps145;go_wp2;go_big_quiet (first | with_reducible exact (between_is h1 _).mono fun _ _ h=>⟨h.1,_,h.2⟩ | with_reducible exact (between_is h2 _).mono fun _ _ h=>⟨h.1,_,h.2⟩ | with_reducible exact (between_is h3 _).mono fun _ _ h=>⟨h.1,_,h.2⟩);go_wp2;go_ret;exact ⟨by rw[HR.out];simp[okS,btw] at h1 ⊢;omega,HB.out _⟩
 cases h2:btw s 0 255
 case false=>go_enter func145,ntmps145;go_wp2;go_big_quiet (first | with_reducible exact (between_is h1 _).mono fun _ _ h=>⟨h.1,_,h.2⟩ | with_reducible exact (between_is h2 _).mono fun _ _ h=>⟨h.1,_,h.2⟩ | with_reducible exact (between_is h3 _).mono fun _ _ h=>⟨h.1,_,h.2⟩);go_wp2;go_ret;exact ⟨by rw[HR.out];simp[okS,btw] at h2 ⊢;omega,HB.out _⟩
 cases h3:btw t 0 now
 case false=>go_enter func145,ntmps145;go_wp2;go_big_quiet (first | with_reducible exact (between_is h1 _).mono fun _ _ h=>⟨h.1,_,h.2⟩ | with_reducible exact (between_is h2 _).mono fun _ _ h=>⟨h.1,_,h.2⟩ | with_reducible exact (between_is h3 _).mono fun _ _ h=>⟨h.1,_,h.2⟩);go_wp2;go_ret;exact ⟨by rw[HR.out];simp[okS,btw] at h3 ⊢;omega,HB.out _⟩
 go_enter func145,ntmps145;go_wp2;go_big_quiet (first | with_reducible exact (between_is h1 _).mono fun _ _ h=>⟨h.1,_,h.2⟩ | with_reducible exact (between_is h2 _).mono fun _ _ h=>⟨h.1,_,h.2⟩ | with_reducible exact (between_is h3 _).mono fun _ _ h=>⟨h.1,_,h.2⟩);go_wp2;go_ret;refine ⟨?_,HB.out _⟩;rw[HR.out];simp[okS,btw] at h1 h2 h3 ⊢;rw[Bool.eq_iff_iff];simp;omega
end
end EpA
namespace InA
open Go.RowKit TkM TkW TkA InM Go.Maps
theorem betw_any (n lo hi:Int) (w:World) :
  Calls prog 69 #[.int .i64 n,.int .i64 lo,.int .i64 hi] w fun e w'=>e = .returned (.bool (btw n lo hi))/\w'=w:=by
 by_cases h1:lo<=n
 ·by_cases h2:n<=hi
  ·have hb:btw n lo hi=true:=(by simp[btw,h1,h2]);rw[hb];clear hb;go_enter func69,ntmps69;go_wp2;go_ret;exact ⟨rfl,rfl⟩
  ·have hb:btw n lo hi=false:=(by simp[btw];omega);rw[hb];clear hb;go_enter func69,ntmps69;go_wp2;go_ret;exact ⟨by simp,rfl⟩
 ·have hb:btw n lo hi=false:=by simp[btw];omega
  rw[hb];clear hb;have h1':decide (lo<=n)=false:=by simpa using h1
  go_enter func69,ntmps69;go_wp2;go_ret;exact ⟨rfl,rfl⟩
theorem betw_is {n lo hi:Int} {r:Bool} (h:btw n lo hi=r) (w:World) :
  Calls prog 69 #[.int .i64 n,.int .i64 lo,.int .i64 hi] w fun e w'=>e = .returned (.bool r)/\w'=w:=h ▸ betw_any n lo hi w
theorem field0 (x:ByteArray) (w:World):(Instr.field 214 (.agg #[.string x]) 0).run prog w = .ok (.string x) w:=by kernel_rfl
theorem newIn (w:World) (tb span score:Nat):InAt (w.alloc (.cells #[.pointer (some ⟨tb,0,none⟩),.int .i64 (span:Int),.int .i64 (score:Int),.slice none 0 0] 167)) w.heap.size tb (fun b=>b=w.heap.size) span score 0 (fun _ _=>⟨#[]⟩):=by refine ⟨.slice none 0 0,[],?_,rfl,World.ownsRow_nil _ _ _ _,fun e b h=>by simp at h,rfl,fun b h=>by simp[Value.ownBlock] at h,fun b h=>absurd h List.not_mem_nil,fun b h=>by rw[h];simp⟩;exact Go.heap_alloc_new w _
theorem inNew_ok (tb span score:Nat) (w:World) (h0 : 1<=span) (h1:span<=8) (h2 : 1<=score) (h3:score<=span) :
  Calls prog 33 #[.pointer (some ⟨tb,0,none⟩),.int .i64 (span:Int),.int .i64 (score:Int)] w fun e w'=>e = .returned (.tuple #[.pointer (some ⟨w.heap.size,0,none⟩),.nilIface])/\w'.heap.size=w.heap.size+1/\InAt w' w.heap.size tb (fun b=>b=w.heap.size) span score 0 (fun _ _=>⟨#[]⟩)/\Below w.heap.size w w':=by
 have b1:btw (span:Int) 1 8=true:=by simp[btw];omega
 have b2:btw (score:Int) 1 span=true:=by simp[btw];omega
 have HD:Hid _:=newIn w tb span score;go_enter func33,ntmps33;go_wp2_with fail;refine (betw_is b1 _).mono ?_;rintro e w' ⟨rfl,rfl⟩;go_wp2_with fail;refine (betw_is b2 _).mono ?_;rintro e w' ⟨rfl,rfl⟩;go_wp2;go_ret2;exact ⟨rfl,by simp,HD.out,(Below.refl _ _).alloc (Nat.le_refl _) _⟩
theorem inNew_bad (tb:Nat) (span score:Int) (w:World) (h:¬ (1<=span/\span<=8/\1<=score/\score<=span)) :
  Calls prog 33 #[.pointer (some ⟨tb,0,none⟩),.int .i64 span,.int .i64 score] w fun e w'=>e = .returned (.tuple #[.pointer none,.iface 105 (.int .i64 1)])/\w'=w:=by
 cases b1:btw span 1 8 with
 | false=>
  go_enter func33,ntmps33;go_wp2_with fail;refine (betw_is b1 _).mono ?_;rintro e w' ⟨rfl,rfl⟩;go_wp2;go_ret2;exact ⟨rfl,rfl⟩
 | true=>
  have b2:btw score 1 span=false:=by simp[btw] at b1 ⊢;omega
  go_enter func33,ntmps33;go_wp2_with fail;refine (betw_is b1 _).mono ?_;rintro e w' ⟨rfl,rfl⟩;go_wp2_with fail;refine (betw_is b2 _).mono ?_;rintro e w' ⟨rfl,rfl⟩;go_wp2;go_ret2;exact ⟨rfl,rfl⟩
section
variable {w : World} {xb tb : Nat} {F : Nat → Prop} {span score k : Nat} {f : Nat → ByteArray → ByteArray}
theorem parent_in (s:ByteArray) (e:Nat) (d:InAt w xb tb F span score k f) (hk:k<=1000) (he:e<k) (hs:s.size<=100000) :
  Calls prog 94 #[.pointer (some ⟨xb,0,none⟩),.string s,.int .i64 (e:Int)] w fun x w'=>x = .returned (.tuple #[.string (f e s),.nilIface])/\w'=w:=by
 obtain ⟨v,ms,d⟩:=d.out;obtain ⟨p,cap,rfl,hm⟩:=d.form;have c3:=d.c3;have hel:e<ms.length:=by rw[d.len];exact he
 obtain ⟨g,rfl,hc⟩:=hm e _ (List.getElem?_eq_getElem hel);have hrun:=(d.maps e _ (List.getElem?_eq_getElem hel)).look s hs;generalize ms[e]=mb at *;have hkI:(k:Int)<=1000:=by omega
 have heI:(e:Int)<k:=by omega
 have b1:btw (e:Int) 0 ((k:Int)-1)=true:=by simp[btw];omega
 clear d hm;have hfl:=field0;go_enter func94,ntmps94;go_wp2_with fail;refine (betw_is b1 _).mono ?_;rintro x w' ⟨rfl,rfl⟩;go_wp2;go_ret2;exact ⟨rfl,rfl⟩
end
end InA
namespace WaB
open Go.RowKit TkW WaM WaW Go.Maps
open TkM (Sg epOf)
open RuM (Rl)
def btw (n lo hi:Int):Bool:=decide (lo<=n)&&decide (n<=hi)
theorem between_any (n lo hi:Int) (w:World) :
  Calls prog 70 #[.int .i64 n,.int .i64 lo,.int .i64 hi] w fun e w'=>e = .returned (.bool (btw n lo hi))/\w'=w:=by
 by_cases h1:lo<=n
 ·by_cases h2:n<=hi
  ·have hb:btw n lo hi=true:=(by simp[btw,h1,h2]);rw[hb];clear hb;go_enter func70,ntmps70;go_wp2;go_ret;exact ⟨rfl,rfl⟩
  ·have hb:btw n lo hi=false:=(by simp[btw];omega);rw[hb];clear hb;go_enter func70,ntmps70;go_wp2;go_ret;exact ⟨by simp,rfl⟩
 ·have hb:btw n lo hi=false:=by simp[btw];omega
  rw[hb];clear hb;have h1':decide (lo<=n)=false:=by simpa using h1
  go_enter func70,ntmps70;go_wp2;go_ret;exact ⟨rfl,rfl⟩
theorem between_is {n lo hi:Int} {r:Bool} (h:btw n lo hi=r) (w:World) :
  Calls prog 70 #[.int .i64 n,.int .i64 lo,.int .i64 hi] w fun e w'=>e = .returned (.bool r)/\w'=w:=h ▸ between_any n lo hi w
theorem isReader_is {n:Int} {r:Bool} (h:btw n 0 3=r) (w:World) :
  Calls prog 44 #[.int .i64 n] w fun e w'=>e = .returned (.bool r)/\w'=w:=by
 go_enter func44,ntmps44;go_wp2_with fail;refine (between_is h _).mono ?_;rintro e w' ⟨rfl,rfl⟩;go_wp2;go_ret;exact ⟨rfl,rfl⟩
theorem isTag_any (s:ByteArray) (w:World) (hT:TagA.Tabs w) (hs:s.size<=100000) :
  Calls prog 121 #[.string s] w fun e w'=>e = .returned (.bool (decide (0<InA.knd s)))/\Below w.heap.size w w':=by
 have HP:=TagA.parse_any s w hT (by unfold maxLen;omega);rcases InA.parse_knd s with ⟨hk,F,P,C,R,S,hp⟩ | ⟨hk,hp⟩
 ·rw[hp] at HP;have e:decide (0<InA.knd s)=true:=by simpa using hk
  rw[e];have HPH:Hid (Calls _ _ _ _ _):=HP;clear HP hp hk e;go_enter func121,ntmps121;go_wp2_with fail;refine Calls.mono HPH.out ?_;rintro e w2 ⟨rfl,hb⟩;have HB:Hid (∀ o,Below w.heap.size w (w2.alloc o)):=fun o=>hb.alloc hb.size o;clear hb;unfold TagA.tagV;go_wp2;go_ret;exact ⟨rfl,HB.out _⟩
 ·rw[hp] at HP;have e:decide (0<InA.knd s)=false:=by simp;omega
  rw[e];have HPH:Hid (Calls _ _ _ _ _):=HP;clear HP hp hk e;go_enter func121,ntmps121;go_wp2_with fail;refine Calls.mono HPH.out ?_;rintro e w2 ⟨rfl,hb⟩;have HB:Hid (∀ o,Below w.heap.size w (w2.alloc o)):=fun o=>hb.alloc hb.size o;clear hb;unfold TagA.noTag;go_wp2;go_ret;exact ⟨rfl,HB.out _⟩
theorem Kn.look {w:World} {kb:Nat} {L:List ByteArray} (h:Kn w kb L) (g:ByteArray) (hg:g.size<=100000):(Instr.lookup 113 (.map (some kb)) (.string g) true).run prog w = .ok (.tuple #[.agg #[],.bool (hasT L g)]) w:=by obtain ⟨m,D,h1,h2,h3,h4⟩:=h.out;obtain ⟨u,ps,hrun,hR⟩:=h1.look_ok law9 underlying113 (show (zeroValue 226).run prog w = .ok (.agg #[]) w by kernel_rfl) (zd:=.agg []) (zp:=[]) unitElem_mk (TkA.key9 (g:=g) (by unfold maxLen;omega));obtain ⟨rfl,_⟩:=unitElem_inv hR;rw[hrun,h3]
theorem Kn.len {w:World} {kb:Nat} {L:List ByteArray} (h:Kn w kb L):(Builtin.len_ #[113] 3 #[.map (some kb)]).run prog w = .ok (.int .i64 (L.length:Int)) w:=by obtain ⟨m,D,h1,h2,h3,h4⟩:=h.out;rw[h1.len underlying113 3,h4]
theorem map_tight {w:World} {b n:Nat} {D:DataW Value} (h:w.ownsMap prog 9 unitElem b n D):w.ownsMap prog 9 unitElem b (Maps.size D) D:=by obtain ⟨es,clock,hb,F,hs,hD⟩:=h;refine ⟨es,clock,hb,F,?_,hD⟩;rw[hD];simp[Maps.size,length_sorted]
theorem Kn.put {w:World} {kb:Nat} {L:List ByteArray} (h:Kn w kb L) (g:ByteArray) (hg:g.size<=100000) (hL:L.length<=1000):∃ w',(Instr.mapUpdate 113 (.map (some kb)) (.string g) (.agg #[])).run prog w = .ok () w'/\Kn w' kb (addT L g)/\w.grownBy w' (some kb):=by
 obtain ⟨m,D,h1,h2,h3,h4⟩:=h.out;obtain ⟨w',hrun,hm,hgr⟩:=h1.update (val:=.agg #[]) (d:=.agg []) (ps:=[]) law9 underlying113 (by unfold maxLen;omega) (TkA.key9 (g:=g) (by unfold maxLen;omega)) unitElem_mk;have hsz:Maps.size (D.put (.string g.data.toList) (.agg []))=(addT L g).length:=by rw[Maps.size_put (h1.tidy law9),h3,h4];unfold addT;split<;>simp
 refine ⟨w',hrun,⟨_,_,map_tight hm,hsz,fun x=>?_,hsz⟩,hgr⟩;by_cases e:x=g
 ·subst e;rw[Maps.has_put_same h1.isMap (keyStr _)];symm;rw[hasT_iff,addT_mem];exact Or.inr rfl
 ·rw[Maps.has_put_other (fun e'=>e (TkA.bytes_ext (by simpa using e'))),h3,Bool.eq_iff_iff,hasT_iff,hasT_iff,addT_mem];exact ⟨Or.inl,fun h=>h.resolve_right e⟩
section
variable {w : World} {wb : Nat} {ow : Nat → Nat} {c : Cf} {rs : List Rl} {s : St} {k : Nat}
theorem isFull_any (g:ByteArray) (h:WaK w wb ow c rs s k) (hg:g.size<=100000) :
  Calls prog 122 #[.pointer (some ⟨wb,0,none⟩),.string g] w fun e w'=>e = .returned (.bool (!hasT (kn s.all) g&&decide (12<=(kn s.all).length)))/\Below w.heap.size w w':=by
 obtain ⟨p,h⟩:=h.out;have c28:=h.c28;have c28':∀ o,(w.alloc o).cell? ⟨wb,28,none⟩=some (.map (some p.kb)):=fun o=>by rw[((Below.refl w.heap.size w).alloc (Nat.le_refl _) o).cell h.lt];exact c28
 have hl:=Kn.look h.kn g hg;have hn:∀ o,(Builtin.len_ #[113] 3 #[.map (some p.kb)]).run prog (w.alloc o) = .ok (.int .i64 ((kn s.all).length:Int)) (w.alloc o):=fun o=>Kn.len (h.kn.keep (Below.heap_alloc _ _ _ h.kn.lt));have hz:(zeroValue 226).run prog w = .ok (.agg #[]) w:=by kernel_rfl
 have HB:Hid (∀ o,Below w.heap.size w (w.alloc o)):=fun o=>(Below.refl _ _).alloc (Nat.le_refl _) o;generalize hasT (kn s.all) g=b at *;generalize (kn s.all).length=n at *;have hdn:decide ((12:Int)<=(n:Int))=decide (12<=n):=by rw[decide_eq_decide];omega
 clear h;go_enter func122,ntmps122;cases b with
 | true=>
  go_wp2;go_ret;exact ⟨rfl,HB.out _⟩
 | false=>
  go_wp2;go_ret;exact ⟨by simp,HB.out _⟩
end
end WaB
namespace WaB
open Go.RowKit TkW WaM WaW Go.Maps
open RuM (Rl)
def plr (pl:Nat->Nat->Int) (r:Nat):Array Value:=#[.int .i64 (pl r 0),.int .i64 (pl r 1),.int .i64 (pl r 2),.int .i64 (pl r 3)]
def plw (pl:Nat->Nat->Int):Array Value:=#[.int .i64 (pl 0 0),.int .i64 (pl 0 1),.int .i64 (pl 0 2),.int .i64 (pl 0 3),.int .i64 (pl 1 0),.int .i64 (pl 1 1),.int .i64 (pl 1 2),.int .i64 (pl 1 3),.int .i64 (pl 2 0),.int .i64 (pl 2 1),.int .i64 (pl 2 2),.int .i64 (pl 2 3),.int .i64 (pl 3 0),.int .i64 (pl 3 1),.int .i64 (pl 3 2),.int .i64 (pl 3 3)]
theorem idxP0 (pl:Nat->Nat->Int) (V:World):(Instr.index 23 (.agg (plw pl)) (.int .i64 0)).run prog V = .ok (.agg (plr pl 0)) V:=by kernel_rfl
theorem idxP1 (pl:Nat->Nat->Int) (V:World):(Instr.index 23 (.agg (plw pl)) (.int .i64 1)).run prog V = .ok (.agg (plr pl 1)) V:=by kernel_rfl
theorem idxP2 (pl:Nat->Nat->Int) (V:World):(Instr.index 23 (.agg (plw pl)) (.int .i64 2)).run prog V = .ok (.agg (plr pl 2)) V:=by kernel_rfl
theorem idxP3 (pl:Nat->Nat->Int) (V:World):(Instr.index 23 (.agg (plw pl)) (.int .i64 3)).run prog V = .ok (.agg (plr pl 3)) V:=by kernel_rfl
theorem idxP (pl:Nat->Nat->Int) (V:World) (r:Nat) (hr:r<4):(Instr.index 23 (.agg (plw pl)) (.int .i64 (r:Int))).run prog V = .ok (.agg (plr pl r)) V:=by
 match r,hr with
 | 0,_=>exact idxP0 pl V
 | 1,_=>exact idxP1 pl V
 | 2,_=>exact idxP2 pl V
 | 3,_=>exact idxP3 pl V
theorem idxA0 (pl:Nat->Nat->Int) (r:Nat) (V:World):(Instr.index 22 (.agg (plr pl r)) (.int .i64 0)).run prog V = .ok (.int .i64 (pl r 0)) V:=by kernel_rfl
theorem idxA1 (pl:Nat->Nat->Int) (r:Nat) (V:World):(Instr.index 22 (.agg (plr pl r)) (.int .i64 1)).run prog V = .ok (.int .i64 (pl r 1)) V:=by kernel_rfl
theorem idxA2 (pl:Nat->Nat->Int) (r:Nat) (V:World):(Instr.index 22 (.agg (plr pl r)) (.int .i64 2)).run prog V = .ok (.int .i64 (pl r 2)) V:=by kernel_rfl
theorem idxA3 (pl:Nat->Nat->Int) (r:Nat) (V:World):(Instr.index 22 (.agg (plr pl r)) (.int .i64 3)).run prog V = .ok (.int .i64 (pl r 3)) V:=by kernel_rfl
theorem idxA (pl:Nat->Nat->Int) (r:Nat) (V:World) (a:Nat) (ha:a<4):(Instr.index 22 (.agg (plr pl r)) (.int .i64 (a:Int))).run prog V = .ok (.int .i64 (pl r a)) V:=by
 match a,ha with
 | 0,_=>exact idxA0 pl r V
 | 1,_=>exact idxA1 pl r V
 | 2,_=>exact idxA2 pl r V
 | 3,_=>exact idxA3 pl r V
def plOk (pl:Nat->Nat->Int):Prop:=∀ r a,r<4->a<4->-1<=pl r a/\pl r a<=7
theorem arePlaces_is (pl:Nat->Nat->Int) {b:Bool} (hb:b=true↔plOk pl) (w:World) :
  Calls prog 34 #[.agg (plw pl)] w fun e w'=>e = .returned (.bool b)/\Below w.heap.size w w':=by
 have HB:Hid (b=true↔plOk pl):=hb;have HB0:Hid (∀ o,Below w.heap.size w (w.alloc o)):=fun o=>(Below.refl _ _).alloc (Nat.le_refl _) o;clear hb;go_enter func34,ntmps34;unfold plw;go_upto_region 2 with fail
 go_loopw [4,6,8] (fun _ _ i V=>∃ j:Nat,j<=4/\i = .int .i64 (j:Int)/\(∀ r a,r<j->a<4->-1<=pl r a/\pl r a<=7)/\Below w.heap.size w V) (fun _ _ i _=>4-(intOf i).toNat)
 case atStart=>exact ⟨0,by omega,rfl,fun r a hr=>by omega,HB0.out _⟩
 case round=>
  obtain ⟨j,hj,rfl,hok,hbl⟩:=hrel;have HOK:Hid (∀ r a,r<j->a<4->-1<=pl r a/\pl r a<=7):=hok;have HBL:Hid (Below w.heap.size w wr):=hbl;clear hok hbl;by_cases hlt:j<4
  case neg=>have hI:¬ (j:Int)<4:=(by omega);have hbt:b=true:=HB.out.2 (fun r a hr ha=>HOK.out r a (by omega) ha);subst hbt;go_wp2;go_ret;exact ⟨rfl,HBL.out⟩
  case pos=>
   have hI:(j:Int)<4:=(by omega);have hi:=idxP pl wr j hlt;unfold plw plr at hi;have HBA:Hid (∀ o,Below w.heap.size w (wr.alloc o)):=fun o=>HBL.out.alloc HBL.out.size o;go_wp2;clear hi;go_loopw [6,12] (fun _ i V=>∃ m:Nat,m<=4/\i = .int .i64 (m:Int)/\(∀ a,a<m->-1<=pl j a/\pl j a<=7)/\Below w.heap.size w V) (fun _ i _=>4-(intOf i).toNat)
   case atStart=>exact ⟨0,by omega,rfl,fun a ha=>by omega,HBA.out _⟩
   case round=>
    obtain ⟨m,hm,rfl,hok2,hbl2⟩:=hrel;have HOK2:Hid (∀ a,a<m->-1<=pl j a/\pl j a<=7):=hok2;have HBL2:Hid (Below w.heap.size w wr):=hbl2;clear hok2 hbl2;by_cases hlt2:m<4
    case neg=>
     have hI2:¬ (m:Int)<4:=by omega
     have HN:Hid (∀ r a,r<j+1->a<4->-1<=pl r a/\pl r a<=7):=fun r a hr ha=>by
      by_cases hrj:r=j
      ·rw[hrj];exact HOK2.out a (by omega)
      ·exact HOK.out r a (by omega) ha
     go_wp2;go_roundw
     case rel=>exact ⟨j+1,by omega,by go_num,HN.out,HBL2.out⟩
     case measure=>simp[intOf];omega
    case pos=>
     have hI2:(m:Int)<4:=(by omega);have hi2:=idxA pl j wr m hlt2;unfold plr at hi2;cases hbt:btw (pl j m) (-1) 7 with
     | true=>
      have HN:Hid (∀ a,a<m+1->-1<=pl j a/\pl j a<=7):=fun a ha=>by
       by_cases ham:a=m
       ·rw[ham];simpa [btw] using hbt
       ·exact HOK2.out a (by omega)
      go_wp2_with fail;refine (between_is hbt _).mono ?_;rintro e w2 ⟨rfl,rfl⟩;clear hi2 hbt;go_wp2;go_roundw
      case rel=>exact ⟨m+1,by omega,by go_num,HN.out,HBL2.out⟩
      case measure=>simp[intOf];omega
     | false=>
      have hbf:b=false:=by
       cases b with
       | false=>rfl
       | true=>
        have:=HB.out.1 rfl j m hlt hlt2;simp[btw] at hbt;omega
      subst hbf;go_wp2_with fail;refine (between_is hbt _).mono ?_;rintro e w2 ⟨rfl,rfl⟩;clear hi2 hbt;go_wp2;go_ret;exact ⟨rfl,HBL2.out⟩
structure RsOn (w:World) (q:Option Addr) (rs:List Rl):Prop where
 at_:rs≠[]->∃ b o,q=some ⟨b,o,none⟩/\b<w.heap.size/\∀ k r,rs[k]?=some r->w.cell? ⟨b,o+k*6,none⟩=some (.string r.nm)/\w.cell? ⟨b,o+k*6+1,none⟩=some (.int .i64 r.k)/\w.cell? ⟨b,o+k*6+1+1,none⟩=some (.int .i64 r.f)/\w.cell? ⟨b,o+k*6+1+1+1,none⟩=some (.int .i64 r.t)/\w.cell? ⟨b,o+k*6+1+1+1+1,none⟩=some (.int .i64 r.wo)/\w.cell? ⟨b,o+k*6+1+1+1+1+1,none⟩=some (.int .i64 r.wi)
theorem RsOn.move {w w':World} {q:Option Addr} {rs:List Rl} (h:RsOn w q rs) (hs:w.heap.size<=w'.heap.size) (hk:∀ b o,q=some ⟨b,o,none⟩->b<w.heap.size->w'.heap[b]?=w.heap[b]?):RsOn w' q rs where
 at_:=fun hne=>by obtain ⟨b,o,rfl,hlt,hc⟩:=h.at_ hne;have e:=hk b o rfl hlt;refine ⟨b,o,rfl,Nat.lt_of_lt_of_le hlt hs,fun k r hr=>?_⟩;have hx:∀ i,w'.cell? ⟨b,i,none⟩=w.cell? ⟨b,i,none⟩:=fun i=>World.cell?_of_block e;rw[hx,hx,hx,hx,hx,hx];exact hc k r hr
theorem RsOn.below {w w':World} {q:Option Addr} {rs:List Rl} (h:RsOn w q rs) (hb:Below w.heap.size w w'):RsOn w' q rs:=h.move hb.size (fun b _ _ hlt=>hb.block b hlt)
theorem RsOn.take {w:World} {q:Option Addr} {rs:List Rl} (h:RsOn w q rs) (n:Nat):RsOn w q (rs.take n) where
 at_:=fun hne=>by obtain ⟨b,o,hq,hlt,hc⟩:=h.at_ (fun e=>hne (by rw[e];simp));exact ⟨b,o,hq,hlt,fun k r hr=>hc k r (by rw[List.getElem?_take] at hr;split at hr;exact hr;cases hr)⟩
theorem hasName_is (rs:List Rl) (nm:ByteArray) (q:Option Addr) (cap:Nat) {b:Bool} (hb:b=true↔∃ r,r ∈ rs/\r.nm=nm) (w:World) (h:RsOn w q rs) (hl:rs.length<=6) :
  Calls prog 72 #[.slice q rs.length cap,.string nm] w fun e w'=>e = .returned (.bool b)/\Below w.heap.size w w':=by
 have HB:Hid (b=true↔∃ r,r ∈ rs/\r.nm=nm):=hb;have HR:Hid (RsOn w q rs):=h;obtain ⟨n,hn⟩:∃ n,n=rs.length:=⟨_,rfl⟩;have HN:Hid (n=rs.length):=hn;rw[<- hn] at hl ⊢;clear hb h hn;go_enter func72,ntmps72;go_wp2;go_loopw [6,9] (fun _ i V=>∃ j:Nat,j<=n/\i = .int .i64 (j:Int)/\(∀ r,r ∈ rs.take j->r.nm≠nm)/\Below w.heap.size w V) (fun _ i _=>n-(intOf i).toNat)
 case atStart=>exact ⟨0,by omega,rfl,fun r hr=>by simp at hr,Below.refl _ _⟩
 case round=>
  obtain ⟨j,hj,rfl,hno,hbl⟩:=hrel;have HNO:Hid (∀ r,r ∈ rs.take j->r.nm≠nm):=hno;have HBL:Hid (Below w.heap.size w wr):=hbl;by_cases hlt:j<n
  case neg=>
   have hI:¬ (j:Int)<n:=by omega
   have hbf:b=false:=by
    cases b with
    | false=>rfl
    | true=>
     obtain ⟨r,h1,h2⟩:=HB.out.1 rfl;refine absurd h2 (HNO.out r ?_);rw[List.take_of_length_le (by rw[<- HN.out];omega)];exact h1
   subst hbf;clear hno hbl;go_wp2;go_ret;exact ⟨rfl,HBL.out⟩
  case pos=>
   have hI:(j:Int)<n:=(by omega);have hj':j<rs.length:=(by rw[<- HN.out];exact hlt);have hne:rs≠[]:=fun e=>(by rw[e] at hj';simp at hj');obtain ⟨g,o,rfl,hg,hc⟩:=(HR.out.below hbl).at_ hne;obtain ⟨k0,k1,k2,k3,k4,k5⟩:=hc j _ (List.getElem?_eq_getElem hj');have HTK:Hid (rs.take (j+1)=rs.take j ++ [rs[j]]):=List.take_succ_eq_append_getElem hj';have HMEM:Hid (rs[j] ∈ rs):=List.getElem_mem hj';have HBA:Hid (∀ o,Below w.heap.size w (wr.alloc o)):=fun o=>HBL.out.alloc HBL.out.size o;generalize rs[j]=r at *;obtain ⟨rn,rk,rf,rt,rw_,ri⟩:=r;simp only at k0 k1 k2 k3 k4 k5;clear hno hbl hc;by_cases hnm:rn=nm
   ·have hbt:b=true:=HB.out.2 ⟨_,HMEM.out,hnm⟩;subst hbt;have he:(rn.toList == nm.toList)=true:=TkA.sbeq_true hnm;go_wp2;go_ret;exact ⟨rfl,HBA.out _⟩
   ·have he:(rn.toList == nm.toList)=false:=TkA.sbeq_false hnm
    have HNO2:Hid (∀ r,r ∈ rs.take (j+1)->r.nm≠nm):=fun r hr=>by
     rw[HTK.out] at hr;rcases List.mem_append.1 hr with hr | hr
     ·exact HNO.out r hr
     ·simp at hr;rw[hr];exact hnm
    clear hnm;go_wp2;go_roundw
    case rel=>exact ⟨j+1,by omega,by go_num,HNO2.out,HBA.out _⟩
    case measure=>simp[intOf];omega
end WaB
end Go.Proofs.YtmolafjalaeoaaaGreatDoor
