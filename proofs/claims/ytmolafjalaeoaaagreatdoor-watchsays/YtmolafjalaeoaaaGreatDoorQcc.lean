/-
  WfC WfD
-/
import Derived.Test.YtmolafjalaeoaaaGreatDoorQcb
set_option maxRecDepth 100000
set_option maxHeartbeats 8000000
namespace Go.Proofs.YtmolafjalaeoaaaGreatDoor
open Go.Proofs.Tryz
namespace WfA
open Go.RowKit TkW WaM WaW WeW WeA WaB WbA Go.Maps
open TkM (Sg epOf told whr)
open RuM (Rl)
open TkA (wv errV)
structure Tb (B:Nat) (V:World) (wb rb:Nat) (oa od:Nat->Nat) (c:Cf) (rs:List Rl) (s t:St):Prop where
 a:WaAt V wb oa c rs s
 d:DaK V rb od c rs t (t.cl c) 0
 la:∀ i,oa i≠0->B<=i
 lb:∀ i,od i≠0->B<=i
 ap:∀ i,oa i≠0->od i=0
section
variable {B : Nat} {V V' : World} {wb rb : Nat} {oa od oa' od' : Nat → Nat} {c : Cf} {rs : List Rl} {s t s' t' : St}
theorem Tb.below (h:Tb B V wb rb oa od c rs s t) (hb:Below V.heap.size V V'):Tb B V' wb rb oa od c rs s t:=⟨h.a.below hb,h.d.below hb,h.la,h.lb,h.ap⟩
theorem Tb.turnA (h:Tb B V wb rb oa od c rs s t) (hB:B<=V.heap.size) (ha:WaAt V' wb oa' c rs s') (hp:Wp V V' oa oa'):Tb B V' wb rb oa' od c rs s' t/\Below B V V':=by
 obtain ⟨h1,h2⟩:=WaAt.low hp hB h.la;refine ⟨⟨ha,h.d.move hp.kp.size (fun b hb hn=>hp.kp.block b hb (fun e=>hn (h.ap b e))),h2,h.lb,fun i h3=>?_⟩,h1⟩;rcases hp.new i h3 with h5 | h5
 ·exact h.ap i h5
 ·by_cases hz:od i=0
  ·exact hz
  ·have:=WeA.DaK.lim h.d hz;omega
theorem Tb.turnD (h:Tb B V wb rb oa od c rs s t) (hB:B<=V.heap.size) (hd:DaK V' rb od' c rs t' (t'.cl c) 0) (hp:Wp V V' od od'):Tb B V' wb rb oa od' c rs s t'/\Below B V V':=by
 obtain ⟨h1,h2⟩:=WaAt.low hp hB h.lb;refine ⟨⟨WaAt.wp h.a hp h.ap,hd,h.la,h2,fun i h3=>?_⟩,h1⟩;by_cases hz:od' i=0
 ·exact hz
 ·rcases hp.new i hz with h5 | h5
  ·exact absurd (h.ap i h3) h5
  ·have:=WaAt.lim h.a i h3;omega
theorem Tb.sf (h:Tb B V wb rb oa od c rs s t):Sf c s:=by obtain ⟨p,h⟩:=h.a.out.out;exact ⟨h.cok,h.tim,h.few,h.sok,h.use⟩
def tv (c:Cf) (n:Int) (s:St):Int×Nat:=if 0<=n/\(s.now:Int)+n<=1000 then (((s.tick n.toNat).cl c-s.cl c:Nat),0) else (0,1)
def fv (r:Int) (b:ByteArray) (s:St):Int×Nat:=if 0<=r/\r<=3 then (if b.size<=2000 then (((FrmM.feed (s.rest r.toNat++b.data.toList)).1.length:Nat),0) else (0,2)) else (0,1)
theorem tickR (n:Int) (h:WaAt V wb oa c rs s) (hT:TagA.Tabs V) (h0:oa 0=0) :
  Calls prog 14 #[.pointer (some ⟨wb,0,none⟩),.int .i64 n] V fun e w'=>e = .returned (.tuple #[.int .i64 (tv c n s).1,errV (tv c n s).2])/\∃ oa',WaAt w' wb oa' c rs (pt n s)/\Wp V w' oa oa':=by
 by_cases hn : 0<=n/\(s.now:Int)+n<=1000
 ·have e1:pt n s=s.tick n.toNat:=by unfold pt;rw[if_pos hn]
  have e2:tv c n s=((((s.tick n.toNat).cl c-s.cl c:Nat):Int),0):=by unfold tv;rw[if_pos hn]
  have hnn:n=(n.toNat:Int):=by omega
  have h1:=tick_ok n.toNat h.out hT h0 rfl (by omega);rw[<- hnn] at h1;refine h1.mono ?_;rintro e w' ⟨rfl,⟨ow',hk,hp⟩⟩;rw[e1,e2];exact ⟨rfl,ow',⟨hk⟩,hp⟩
 ·have e1:pt n s=s:=by unfold pt;rw[if_neg hn]
  have e2:tv c n s=(0,1):=by unfold tv;rw[if_neg hn]
  rw[e1,e2];refine (tick_bad n h.out hn).mono ?_;rintro e w' ⟨rfl,rfl⟩;exact ⟨rfl,oa,h,Wp.refl _ _⟩
theorem tickD (n:Int) (h:DaK V rb od c rs s (s.cl c) 0) (hf:Sf c s) (hk:(pt n s).cl c<=100) :
  Calls prog 15 #[.pointer (some ⟨rb,0,none⟩),.int .i64 n] V fun e w'=>e = .returned (.tuple #[.int .i64 (tv c n s).1,.int .i64 ((tv c n s).2:Int)])/\∃ od',DaK w' rb od' c rs (pt n s) ((pt n s).cl c) 0/\Wp V w' od od':=by
 by_cases hn : 0<=n/\(s.now:Int)+n<=1000
 ·have e1:pt n s=s.tick n.toNat:=by unfold pt;rw[if_pos hn]
  have e2:tv c n s=((((s.tick n.toNat).cl c-s.cl c:Nat):Int),0):=by unfold tv;rw[if_pos hn]
  have hnn:n=(n.toNat:Int):=by omega
  rw[e1] at hk;have h1:=rtick_ok n.toNat h hf rfl (by omega) hk;rw[<- hnn] at h1;refine h1.mono ?_;rintro e w' ⟨rfl,⟨ow',hk,hp⟩⟩;rw[e1,e2];exact ⟨rfl,ow',hk,hp⟩
 ·have e1:pt n s=s:=by unfold pt;rw[if_neg hn]
  have e2:tv c n s=(0,1):=by unfold tv;rw[if_neg hn]
  rw[e1,e2];refine (rtick_no n h hf.tim hn).mono ?_;rintro e w' ⟨rfl,rfl⟩;exact ⟨rfl,od,h,Wp.refl _ _⟩
theorem feedR (r:Int) (b:ByteArray) (h:WaAt V wb oa c rs s) (hT:TagA.Tabs V) (h0:oa 0=0) (hb:b.size<=9223372036854775807) (hu:b.size<=2000->s.sum+b.size<=6000) :
  Calls prog 16 #[.pointer (some ⟨wb,0,none⟩),.int .i64 r,.string b] V fun e w'=>e = .returned (.tuple #[.int .i64 (fv r b s).1,errV (fv r b s).2])/\∃ oa',WaAt w' wb oa' c rs (pf c r b s)/\Wp V w' oa oa':=by
 by_cases hr : 0<=r/\r<=3
 ·by_cases hl:b.size<=2000
  ·have e1:pf c r b s=s.feed c r.toNat b.data.toList:=(by unfold pf;rw[if_pos ⟨hr,hl⟩]);have e2:fv r b s=((((FrmM.feed (s.rest r.toNat++b.data.toList)).1.length:Nat):Int),0):=(by unfold fv;rw[if_pos hr,if_pos hl]);have hrr:r=(r.toNat:Int):=(by omega);have h1:=feed_ok r.toNat b h.out hT h0 rfl (by omega) hl (hu hl);rw[<- hrr] at h1;refine h1.mono ?_;rintro e w' ⟨rfl,⟨ow',hk,hp⟩⟩;rw[e2];refine ⟨rfl,ow',⟨?_⟩,hp⟩;rw[pf_cl,e1];exact hk
  ·have e2:fv r b s=(0,2):=(by unfold fv;rw[if_pos hr,if_neg hl]);rw[pf_sum_long (by omega),e2];refine (feed_long r b (by simp[btw];omega) (by omega) hb).mono ?_;rintro e w' ⟨rfl,rfl⟩;exact ⟨rfl,oa,h,Wp.refl _ _⟩
 ·have e1:pf c r b s=s:=by unfold pf;rw[if_neg (by intro h;exact hr h.1)]
  have e2:fv r b s=(0,1):=by unfold fv;rw[if_neg hr]
  rw[e1,e2];refine (feed_noreader r b (by simp[btw];omega)).mono ?_;rintro e w' ⟨rfl,rfl⟩;exact ⟨rfl,oa,h,Wp.refl _ _⟩
theorem feedD (r:Int) (b:ByteArray) (h:DaK V rb od c rs s (s.cl c) 0) (hf:Sf c s) (hb:b.size<=9223372036854775807) (hu:b.size<=2000->s.sum+b.size<=6000) :
  Calls prog 17 #[.pointer (some ⟨rb,0,none⟩),.int .i64 r,.string b] V fun e w'=>e = .returned (.tuple #[.int .i64 (fv r b s).1,.int .i64 ((fv r b s).2:Int)])/\∃ od',DaK w' rb od' c rs (pf c r b s) ((pf c r b s).cl c) 0/\Wp V w' od od':=by
 by_cases hr : 0<=r/\r<=3
 ·by_cases hl:b.size<=2000
  ·have e1:pf c r b s=s.feed c r.toNat b.data.toList:=(by unfold pf;rw[if_pos ⟨hr,hl⟩]);have e2:fv r b s=((((FrmM.feed (s.rest r.toNat++b.data.toList)).1.length:Nat):Int),0):=(by unfold fv;rw[if_pos hr,if_pos hl]);have hrr:r=(r.toNat:Int):=(by omega);have h1:=rfeed_ok r.toNat b h hf rfl (by omega) hl (hu hl);rw[<- hrr] at h1;refine h1.mono ?_;rintro e w' ⟨rfl,⟨ow',hk,hp⟩⟩;rw[e2,pf_cl,e1];exact ⟨rfl,ow',hk,hp⟩
  ·have e2:fv r b s=(0,2):=(by unfold fv;rw[if_pos hr,if_neg hl]);have hrr:r=(r.toNat:Int):=(by omega);rw[pf_sum_long (by omega),e2];have h1:=rfeed_long (rb:=rb) (w:=V) r.toNat b (by omega) (by omega) hb;rw[<- hrr] at h1;refine h1.mono ?_;rintro e w' ⟨rfl,rfl⟩;exact ⟨rfl,od,h,Wp.refl _ _⟩
 ·have e1:pf c r b s=s:=by unfold pf;rw[if_neg (by intro h;exact hr h.1)]
  have e2:fv r b s=(0,1):=by unfold fv;rw[if_neg hr]
  rw[e1,e2];refine (rfeed_noreader r b hr).mono ?_;rintro e w' ⟨rfl,rfl⟩;exact ⟨rfl,od,h,Wp.refl _ _⟩
theorem cl_60 (hl : 1<=c.len) (h40:s.cl c<=40) {n:Int} (hn:n<=60\/1000<n):(pt n s).cl c<=100:=by
 unfold pt;split
 ·rename_i h;have hn':n.toNat<=60:=by omega
  generalize n.toNat=m at *;unfold St.cl St.tick EpM.closedN at *;simp only at h40 ⊢;have h1:s.now-c.late<41*c.len:=by have:=(Nat.div_lt_iff_lt_mul (by omega : 0<c.len)).1 (Nat.lt_succ_of_le h40);exact this
  have h2:s.now+m-c.late<101*c.len:=by have : 41*c.len+60<=101*c.len:=(by omega);omega
  exact Nat.le_of_lt_succ ((Nat.div_lt_iff_lt_mul (by omega : 0<c.len)).2 h2)
 ·omega
theorem DaK.told (h:DaK V rb od c rs s (s.cl c) 0):∃ tb q cap,V.cell? ⟨rb,39,none⟩=some (.pointer (some ⟨tb,0,none⟩))/\V.cell? ⟨tb,2,none⟩=some (.slice q (s.cl c) cap):=by
 obtain ⟨p,h⟩:=h.out;obtain ⟨F,⟨fb,m,v,Df,ps,d⟩,_⟩:=h.trk;have hc:=h.cell (i:=39) (by decide);have hv:=d.c2
 obtain ⟨q,cap,e⟩:∃ q cap,v = .slice q (s.cl c) cap:=by
  have ho:=d.own;rw[Ep_len] at ho;rcases ho.2 with ⟨h1,h0⟩ | ⟨g,cap,cur,hv,_⟩
  ·exact ⟨none,0,by rw[h1,h0]⟩
  ·exact ⟨_,_,hv⟩
 rw[e] at hv;exact ⟨p.tb,q,cap,hc,hv⟩
end
end WfA
namespace WfA
open Go.RowKit TkW WaM WaW WeW WeA WaB WbA Go.Maps
open TkM (Sg epOf told whr)
open RuM (Rl)
open TkA (wv errV)
structure Ow (V:World) (B g cap m:Nat) (rs:List Rl):Prop where
 on:RsOn V (some ⟨g,0,none⟩) rs
 cap:m<=cap
 lo:B<=g
 lt:g<V.heap.size
 at_:V.there g 0 (m*6)
theorem own_rules {V:World} {B g cap m:Nat} {rs:List Rl} {news:List Value} (hm:m=rs.length) (h:V.ownsRow B 32 6 (.slice (some ⟨g,0,none⟩) (m+1) cap) (m+1) (rcs rs++news)):Ow V B g cap m rs:=by
 rcases h.2 with ⟨h1,_⟩ | ⟨g',cap',cur,hv,hb,hg,hc1,hc2,hsz,htk⟩
 ·cases h1
 ·simp at hv;obtain ⟨rfl,rfl⟩:=hv;have hlt:=(Array.getElem?_eq_some_iff.1 hg).1;have hc:=World.ownsRow.cells h (g:=g) rfl;refine ⟨⟨fun _=>⟨g,0,rfl,hlt,fun k r hk=>?_⟩⟩,by omega,hb,hlt,fun j hj=>?_⟩
  ·have key:∀ j u,j<6->(rcl r)[j]?=some u->V.cell? ⟨g,0+k*6+j,none⟩=some u:=fun j u hj hu=>by
    have hf:(rcs rs)[k*6+j]?=some u:=by rw[<- hu];exact flat_at rcl 6 (fun _=>rfl) rs k j _ hk hj
    have h1:=hc (k*6+j) u (by
     rw[List.getElem?_append_left]
     ·exact hf
     ·exact (List.getElem?_eq_some_iff.1 hf).1)
    rw[Nat.zero_add];rw[TkW.addr_add] at h1;exact h1
   exact ⟨key 0 _ (by decide) rfl,key 1 _ (by decide) rfl,key 2 _ (by decide) rfl,key 3 _ (by decide) rfl,key 4 _ (by decide) rfl,key 5 _ (by decide) rfl⟩
  ·have hj2:j<cur.size:=(by have h7:(m+1)*6<=cap*6:=Nat.mul_le_mul_right _ hc1;omega);rw[Nat.zero_add];constructor
   ·simp[World.cell?,hg,hj2]
   ·simp[World.frozen?,hg]
theorem Ow.below {V V':World} {B g cap m:Nat} {rs:List Rl} (h:Ow V B g cap m rs) (hb:Below V.heap.size V V'):Ow V' B g cap m rs:=⟨h.on.below hb,h.cap,h.lo,Nat.lt_of_lt_of_le h.lt hb.size,fun j hj=>by
 have h1:=h.at_ j hj;rw[World.cell?_of_block (w:=V) (hb.block g h.lt)];have e:=hb.block g h.lt;refine ⟨h1.1,?_⟩;have h2:=h1.2;unfold World.frozen? at h2 ⊢;simp only[e];exact h2⟩
theorem new_fault {x:Ci} {rs:List Rl} {q:Option Addr} {cap n:Nat} {V:World} (hr:RsOn V q rs) (hc:rs.length<=cap) (h:lightR rs) (hn:Fl x rs n) (hn0:n≠0) :
  Calls prog 10 #[.agg (cfw x),.slice q rs.length cap] V fun e w'=>e = .returned (.tuple #[.pointer none,.iface 105 (.int .i64 (n:Int))])/\Below V.heap.size V w':=by
 have hsz:∀ r,r ∈ rs->r.nm.size<=9223372036854775807:=fun r hr=>Nat.le_trans (h.2 r hr) (by decide);have hl:rs.length<=9223372036854775807:=Nat.le_trans h.1 (by decide);rcases hn with ⟨h1,rfl⟩ | ⟨⟨h1,h2,h3,h4⟩,h5⟩
 ·by_cases k1:x.dk
  ·by_cases k2:x.tk
   ·by_cases k3:x.ik
    ·exact new_bad4 x _ V k1 k2 k3 (fun k4=>h1 ⟨k1,k2,k3,k4⟩)
    ·exact new_bad3 x _ V k1 k2 k3
   ·exact new_bad2 x _ V k1 k2
  ·exact new_bad1 x _ V k1
 ·exact new_bad5 x rs q cap V h1 h2 h3 h4 h5 hn0 hr hsz hc hl
theorem watchSays_none (x:Ci) (rs:List Rl) (q:Option Addr) (cap:Nat) (ac:List Ac) (p:Option Addr) (capA:Nat) (w:World)
  (hr:RsIn w q cap rs) (hT:TagA.Tabs w) (hA:AcsOn w.heap.size w p ac) (hAl:ac.length<=9223372036854775807) (hG:¬ (light ac 60/\lightR rs)) :
  Calls prog 3 #[.agg (cfw x),.slice q rs.length cap,.slice p ac.length capA] w fun e w'=>e = .returned (.bool true)/\Below w.heap.size w w':=by
 obtain ⟨bl,hbl⟩:∃ b:Bool,b=true↔light ac 60:=by
  by_cases h:light ac 60
  ·exact ⟨true,by simp[h]⟩
  ·exact ⟨false,by simp[h]⟩
 obtain ⟨br,hbr⟩:∃ b:Bool,b=true↔lightR rs:=by
  by_cases h:lightR rs
  ·exact ⟨true,by simp[h]⟩
  ·exact ⟨false,by simp[h]⟩
 have HWT:Hid (∀ V,Below w.heap.size w V->Calls prog 7 #[] V fun e w'=>e = .returned (.bool true)/\Below V.heap.size V w'):=fun V hV=>watches_true V (hT.below hV hT.size);have HB0:Hid (∀ o,Below w.heap.size w (w.alloc o)):=fun o=>(Below.refl _ _).alloc (Nat.le_refl _) o;have HCF:Hid (∀ w':World,Below (w.alloc (.cells (cfw x) 25)).heap.size (w.alloc (.cells (cfw x) 25)) w'->w'.heap[w.heap.size]?=some (.cells (cfw x) 25)):=fun w' hb=>(hb.block w.heap.size (by simp)).trans (Go.heap_alloc_new w _);have HRA:Hid (∀ w':World,Below (w.alloc (.cells (cfw x) 25)).heap.size (w.alloc (.cells (cfw x) 25)) w'->w'.rangeAt w.heap.size 0 (cfw x).toList):=fun w' hb=>range_new (HCF.out w' hb);have HBW:Hid (∀ V,Below (w.alloc (.cells (cfw x) 25)).heap.size (w.alloc (.cells (cfw x) 25)) V->Below w.heap.size w V):=fun V hV=>(HB0.out _).trans (hV.mono (HB0.out _).size);have hi':(prog.info? 25).map (·.size)=some (cfw x).toList.length:=by kernel_rfl
 have HLA:Hid (∀ V,Below w.heap.size w V->Calls prog 8 #[.slice p ac.length capA,.int .i64 60] V fun e w'=>e = .returned (.bool bl)/\Below V.heap.size V w'):=fun V hV=>(lightActs_is ac p capA 60 w.heap.size hbl V (hA.below hV) (by omega) hAl).mono (fun e w' ⟨h1,qq,h2⟩=>⟨h1,by rw[h2];exact below_drewN (Below.refl _ _) qq⟩);have HLR:Hid (∀ V,Below w.heap.size w V->Calls prog 9 #[.slice q rs.length cap] V fun e w'=>e = .returned (.bool br)/\w'=V):=fun V hV=>lightRules_is rs q cap hbr V (hr.on.below hV) hr.len hr.names;obtain ⟨mR,hmR⟩:∃ mR,mR=rs.length:=⟨_,rfl⟩;obtain ⟨mA,hmA⟩:∃ mA,mA=ac.length:=⟨_,rfl⟩;have hbb:bl=true->br=true->False:=fun h1 h2=>hG ⟨hbl.1 h1,hbr.1 h2⟩;rw[<- hmR,<- hmA];rw[<- hmA] at HLA;rw[<- hmR] at HLR;generalize cfw x=C at *;clear hr hA hG hbl hbr hmR hmA hT;go_enter func3,ntmps3;go_wp2_with fail;refine (HWT.out _ (HB0.out _)).mono ?_;rintro e w1 ⟨rfl,hb1⟩;have HA1:Hid (Below (w.alloc (.cells C 25)).heap.size (w.alloc (.cells C 25)) w1):=hb1;clear hb1;go_wp2_with fail;refine (HLA.out _ (HBW.out _ HA1.out)).mono ?_;rintro e w2 ⟨rfl,hb2⟩;have HA2:Hid (Below (w.alloc (.cells C 25)).heap.size (w.alloc (.cells C 25)) w2):=HA1.out.trans (hb2.mono HA1.out.size);clear hb2;cases bl with
 | false=>
  go_wp2;go_ret;exact ⟨rfl,HBW.out _ HA2.out⟩
 | true=>
  cases br with
  | true=>exact absurd (hbb rfl rfl) (fun h=>h)
  | false=>
   go_wp2_with fail;refine (HLR.out _ (HBW.out _ HA2.out)).mono ?_;rintro e w3 ⟨rfl,rfl⟩;go_wp2;go_ret;exact ⟨rfl,HBW.out _ HA2.out⟩
theorem watchSays_bad (x:Ci) (rs:List Rl) (q:Option Addr) (cap:Nat) (ac:List Ac) (p:Option Addr) (capA:Nat) (w:World)
  (hr:RsIn w q cap rs) (hT:TagA.Tabs w) (hA:AcsOn w.heap.size w p ac) (hAl:ac.length<=9223372036854775807) (hL:light ac 60) (hG:lightR rs) {n:Nat} (hn:Fl x rs n) (hn0:n≠0) :
  Calls prog 3 #[.agg (cfw x),.slice q rs.length cap,.slice p ac.length capA] w fun e w'=>e = .returned (.bool true)/\Below w.heap.size w w':=by
 have HWT:Hid (∀ V,Below w.heap.size w V->Calls prog 7 #[] V fun e w'=>e = .returned (.bool true)/\Below V.heap.size V w'):=fun V hV=>watches_true V (hT.below hV hT.size);have HB0:Hid (∀ o,Below w.heap.size w (w.alloc o)):=fun o=>(Below.refl _ _).alloc (Nat.le_refl _) o;have HCF:Hid (∀ w':World,Below (w.alloc (.cells (cfw x) 25)).heap.size (w.alloc (.cells (cfw x) 25)) w'->w'.heap[w.heap.size]?=some (.cells (cfw x) 25)):=fun w' hb=>(hb.block w.heap.size (by simp)).trans (Go.heap_alloc_new w _);have HRA:Hid (∀ w':World,Below (w.alloc (.cells (cfw x) 25)).heap.size (w.alloc (.cells (cfw x) 25)) w'->w'.rangeAt w.heap.size 0 (cfw x).toList):=fun w' hb=>range_new (HCF.out w' hb);have HBW:Hid (∀ V,Below (w.alloc (.cells (cfw x) 25)).heap.size (w.alloc (.cells (cfw x) 25)) V->Below w.heap.size w V):=fun V hV=>(HB0.out _).trans (hV.mono (HB0.out _).size);have hi':(prog.info? 25).map (·.size)=some (cfw x).toList.length:=by kernel_rfl
 have HLA:Hid (∀ V,Below w.heap.size w V->Calls prog 8 #[.slice p ac.length capA,.int .i64 60] V fun e w'=>e = .returned (.bool true)/\Below V.heap.size V w'):=fun V hV=>(lightActs_is ac p capA 60 w.heap.size (r:=true) (by simp[hL]) V (hA.below hV) (by omega) hAl).mono (fun e w' ⟨h1,qq,h2⟩=>⟨h1,by rw[h2];exact below_drewN (Below.refl _ _) qq⟩);have HLR:Hid (∀ V,Below w.heap.size w V->Calls prog 9 #[.slice q rs.length cap] V fun e w'=>e = .returned (.bool true)/\w'=V):=fun V hV=>lightRules_is rs q cap (b:=true) (by simp[hG]) V (hr.on.below hV) hr.len hr.names;obtain ⟨mR,hmR⟩:∃ mR,mR=rs.length:=⟨_,rfl⟩;obtain ⟨mA,hmA⟩:∃ mA,mA=ac.length:=⟨_,rfl⟩;obtain ⟨i0,hi,hz0,hz1,hz2⟩:=info_parts WaB.info32;have HM:Hid (mR=rs.length):=hmR;have HNIL:Hid (q=none->mR=0/\cap=0):=fun e=>by obtain ⟨h1,h2⟩:=hr.nil e;rw[hmR,h1];exact ⟨rfl,h2⟩
 have HLEN:Hid ((rcs rs).length=mR*6):=by show _ = _;rw[rcs_len,hmR]
 have HONE:Hid (∀ u ∈ rcs rs,u.oneCell'=true):=rcs_one rs;have hm9:mR<=9:=by rw[hmR];exact hG.1
 have HML:Hid (mR<=maxLen):=by show _<=_;unfold maxLen;omega
 have HBY:Hid (mR*56<=140737488355328):=by show _<=_;omega
 have HML1:Hid (mR+1<=maxLen):=by show _<=_;unfold maxLen;omega
 have HBY1:Hid ((mR+1)*56<=140737488355328):=by show _<=_;omega
 have HNEWS:Hid (∀ V,Below w.heap.size w V->mR≠0->∃ ad,q=some ad/\∀ j u,(rcs rs)[j]?=some u->V.cell? (ad.add j)=some u):=fun V hV hne=>rs_cells (hr.below hV) (by rw[<- hmR];exact hne);have HNE:Hid (∀ V g cp,RsOn V (some ⟨g,0,none⟩) rs->mR<=cp->Calls prog 10 #[.agg (cfw x),.slice (some ⟨g,0,none⟩) mR cp] V fun e w'=>e = .returned (.tuple #[.pointer none,.iface 105 (.int .i64 (n:Int))])/\Below V.heap.size V w'):=fun V g cp h1 h2=>by rw[hmR] at h2 ⊢;exact new_fault h1 h2 hG hn hn0
 have HWF:Hid (∀ V,Below w.heap.size w V->Calls prog 11 #[.agg (cfw x),.slice q rs.length cap] V fun e w'=>e = .returned (.int .i64 (n:Int))/\Below V.heap.size V w'):=fun V hV=>watchFault_any x rs q cap V hn (hr.on.below hV) hr.len hr.names;have hnI:(0:Int)<n:=by omega
 have hnP : 0<n:=by omega
 rw[<- hmR,<- hmA];rw[<- hmA] at HLA;rw[<- hmR] at HLR HWF;generalize cfw x=C at *;clear hr hA hG hmR hmA hT hL hn hn0;go_enter func3,ntmps3;go_wp2_with fail;refine (HWT.out _ (HB0.out _)).mono ?_;rintro e w1 ⟨rfl,hb1⟩;have HA1:Hid (Below (w.alloc (.cells C 25)).heap.size (w.alloc (.cells C 25)) w1):=hb1;clear hb1;go_wp2_with fail;refine (HLA.out _ (HBW.out _ HA1.out)).mono ?_;rintro e w2 ⟨rfl,hb2⟩;have HA2:Hid (Below (w.alloc (.cells C 25)).heap.size (w.alloc (.cells C 25)) w2):=HA1.out.trans (hb2.mono HA1.out.size);clear hb2;go_wp2_with fail;refine (HLR.out _ (HBW.out _ HA2.out)).mono ?_;rintro e w3 ⟨rfl,rfl⟩;have HNW:Hid (mR≠0->∃ ad,q=some ad/\∀ j u,(rcs rs)[j]?=some u->w3.cell? (ad.add j)=some u):=HNEWS.out _ (HBW.out _ HA2.out);go_wp2_with (at_builtin;refine WeJ.wpList_append_copy _ rfl _ _ 26 rfl 32 i0 (.agg #[.string ⟨#[]⟩,.int .i64 0,.int .i64 0,.int .i64 0,.int .i64 0,.int .i64 0]) 6 56 underlying26 hi hz0 hz1 hz2 rfl (by decide) rfl q mR cap (rcs rs) rfl HNIL.out HLEN.out HNW.out HONE.out HML.out HBY.out ?_);intro rv w4 hown4 hb4
 obtain ⟨rq,rcp,hrvf⟩:∃ rq rcp,rv = .slice rq mR rcp:=by
  rcases hown4.2 with ⟨h1,h0⟩ | ⟨g,cap,cur,hv,_⟩
  ·exact ⟨none,0,by rw[h1,h0]⟩
  ·exact ⟨_,_,hv⟩
 subst hrvf;have HA4:Hid (Below (w.alloc (.cells C 25)).heap.size (w.alloc (.cells C 25)) w4):=HA2.out.trans (hb4.mono HA2.out.size);have hs3:w.heap.size+1<=w3.heap.size:=by have:=HA2.out.size;simp at this;omega
 obtain ⟨W5,hW5⟩:∃ W5,W5=w4.alloc (.cells #[.string ⟨#[]⟩,.int .i64 77,.int .i64 0,.int .i64 0,.int .i64 0,.int .i64 0] 32):=⟨_,rfl⟩;have hn5:W5.heap[w4.heap.size]?=some (.cells #[.string ⟨#[]⟩,.int .i64 77,.int .i64 0,.int .i64 0,.int .i64 0,.int .i64 0] 32):=by rw[hW5];exact Go.heap_alloc_new w4 _
 have hb5:Below w4.heap.size w4 W5:=by rw[hW5];exact (Below.refl _ _).alloc (Nat.le_refl _) _
 have hs5:W5.heap.size=w4.heap.size+1:=by rw[hW5];simp
 have HOWN5:Hid (W5.ownsRow w3.heap.size 32 6 (.slice rq mR rcp) mR (rcs rs)):=own_keep hown4 (fun b hb=>hb5.block b (hown4.lt b hb).2);have HOB:Hid (∀ b,(Value.slice rq mR rcp).ownBlock=some b->w3.heap.size<=b):=fun b hb=>(hown4.lt b hb).1;have HA5:Hid (Below (w.alloc (.cells C 25)).heap.size (w.alloc (.cells C 25)) W5):=HA4.out.trans (hb5.mono HA4.out.size);have HNEW5:Hid (∀ j u,[Value.string ⟨#[]⟩,.int .i64 77,.int .i64 0,.int .i64 0,.int .i64 0,.int .i64 0][j]?=some u->W5.cell? ((⟨w4.heap.size,0,none⟩:Addr).add j)=some u):=fun j u hj=>by rw[TkW.addr_add];simp only[World.cell?,hn5];simpa using hj
 have hB5:w3.heap.size<=W5.heap.size:=by have:=hb4.size;omega
 have HN5:Hid (∀ V:World,V=W5->V=W5):=fun _ h=>h;clear hown4 hb4 hn5 hb5 HNW;go_wp2_with (at_builtin;rw[<- hW5];refine wpList_append_lies _ rfl _ _ 26 rfl w3.heap.size 32 i0 (.agg #[.string ⟨#[]⟩,.int .i64 0,.int .i64 0,.int .i64 0,.int .i64 0,.int .i64 0]) 6 56 underlying26 hi hz0 hz1 hz2 rfl (by decide) (.slice rq mR rcp) mR (rcs rs) rfl HOWN5.out ⟨w4.heap.size,0,none⟩ 1 1 [.string ⟨#[]⟩,.int .i64 77,.int .i64 0,.int .i64 0,.int .i64 0,.int .i64 0] rfl rfl HNEW5.out (fun u hu=>by simp at hu;rcases hu with rfl | rfl | rfl | rfl<;>rfl) (by omega) HML1.out HBY1.out hB5 (w4.heap.size+1) hs5 ?_);intro g cp w6 hown6 hgr6 hgg hglt;rw[<- hW5] at hgr6;have HOW:Hid (Ow w6 w3.heap.size g cp mR rs):=own_rules HM.out hown6
 have HA6:Hid (Below (w.alloc (.cells C 25)).heap.size (w.alloc (.cells C 25)) w6):=HA5.out.grown hgr6 HA5.out.size (fun k hk=>by
  have:=HOB.out k hk;have:=HA2.out.size;omega)
 have hcpI:(mR:Int)<=(cp:Int):=by have:=HOW.out.cap;omega
 have hcpN:mR<=cp:=HOW.out.cap;have hra:=HRA.out _ HA6.out;have hgw:w.heap.size+1<=g:=by have:=HOW.out.lo;omega
 clear hown6 hgr6 hgg hglt hs5 hB5 HOWN5 HNEW5 HN5 hW5 HOB HA5 HA4 hs3;go_wp2_with (refine wpList_load_mid rfl 25 (.tmp 3) rfl w.heap.size 0 rfl C.toList _ hra underlying25 rfl hi' ?_);refine (HNE.out _ _ _ HOW.out.on HOW.out.cap).mono ?_;rintro e w7 ⟨rfl,hb7⟩;have HA7:Hid (Below (w.alloc (.cells C 25)).heap.size (w.alloc (.cells C 25)) w7):=HA6.out.trans (hb7.mono HA6.out.size);clear hb7 hra;have hra:=HRA.out _ HA7.out;go_wp2_with (refine wpList_load_mid rfl 25 (.tmp 3) rfl w.heap.size 0 rfl C.toList _ hra underlying25 rfl hi' ?_);refine (HWF.out _ (HBW.out _ HA7.out)).mono ?_;rintro e w8 ⟨rfl,hb8⟩;have HB8:Hid (Below w.heap.size w w8):=(HBW.out _ HA7.out).trans (hb8.mono (HBW.out _ HA7.out).size);clear hb8 hra;go_wp2_with fail;refine (TkA.same_err n _ hnP).mono ?_;rintro e w9 ⟨rfl,rfl⟩;go_wp2;go_ret;exact ⟨rfl,HB8.out⟩
end WfA
end Go.Proofs.YtmolafjalaeoaaaGreatDoor
