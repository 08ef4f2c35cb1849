/-
  WfC WfD WfE WfF
-/
import Derived.Test.YtmolafjalaeoaaaGreatDoorQca
set_option maxRecDepth 100000
set_option maxHeartbeats 8000000
namespace Go.Proofs.YtmolafjalaeoaaaGreatDoor
open Go.Proofs.Tryz
namespace WfA
open Go.RowKit TkW WaM WaW WeW WeA WaB WbA Go.Maps
open TkM (Sg epOf told whr)
open RuM (Rl)
open TkA (wv errV)
structure Tb (B:Nat) (V:World) (wb rb:Nat) (oa od:Nat->Nat) (c:Cf) (rs:List Rl) (s t:St):Prop where
 a:WaAt V wb oa c rs s
 d:DaK V rb od c rs t (t.cl c) 0
 la:∀ i,oa i≠0->B<=i
 lb:∀ i,od i≠0->B<=i
 ap:∀ i,oa i≠0->od i=0
section
variable {B : Nat} {V V' : World} {wb rb : Nat} {oa od oa' od' : Nat → Nat} {c : Cf} {rs : List Rl} {s t s' t' : St}
theorem Tb.below (h:Tb B V wb rb oa od c rs s t) (hb:Below V.heap.size V V'):Tb B V' wb rb oa od c rs s t:=⟨h.a.below hb,h.d.below hb,h.la,h.lb,h.ap⟩
theorem Tb.turnA (h:Tb B V wb rb oa od c rs s t) (hB:B<=V.heap.size) (ha:WaAt V' wb oa' c rs s') (hp:Wp V V' oa oa'):Tb B V' wb rb oa' od c rs s' t/\Below B V V':=by
 obtain ⟨h1,h2⟩:=WaAt.low hp hB h.la;refine ⟨⟨ha,h.d.move hp.kp.size (fun b hb hn=>hp.kp.block b hb (fun e=>hn (h.ap b e))),h2,h.lb,fun i h3=>?_⟩,h1⟩;rcases hp.new i h3 with h5 | h5
 ·exact h.ap i h5
 ·by_cases hz:od i=0
  ·exact hz
  ·have:=WeA.DaK.lim h.d hz;omega
theorem Tb.turnD (h:Tb B V wb rb oa od c rs s t) (hB:B<=V.heap.size) (hd:DaK V' rb od' c rs t' (t'.cl c) 0) (hp:Wp V V' od od'):Tb B V' wb rb oa od' c rs s t'/\Below B V V':=by
 obtain ⟨h1,h2⟩:=WaAt.low hp hB h.lb;refine ⟨⟨WaAt.wp h.a hp h.ap,hd,h.la,h2,fun i h3=>?_⟩,h1⟩;by_cases hz:od' i=0
 ·exact hz
 ·rcases hp.new i hz with h5 | h5
  ·exact absurd (h.ap i h3) h5
  ·have:=WaAt.lim h.a i h3;omega
theorem Tb.sf (h:Tb B V wb rb oa od c rs s t):Sf c s:=by obtain ⟨p,h⟩:=h.a.out.out;exact ⟨h.cok,h.tim,h.few,h.sok,h.use⟩
def tv (c:Cf) (n:Int) (s:St):Int×Nat:=if 0<=n/\(s.now:Int)+n<=1000 then (((s.tick n.toNat).cl c-s.cl c:Nat),0) else (0,1)
def fv (r:Int) (b:ByteArray) (s:St):Int×Nat:=if 0<=r/\r<=3 then (if b.size<=2000 then (((FrmM.feed (s.rest r.toNat++b.data.toList)).1.length:Nat),0) else (0,2)) else (0,1)
theorem tickR (n:Int) (h:WaAt V wb oa c rs s) (hT:TagA.Tabs V) (h0:oa 0=0) :
  Calls prog 14 #[.pointer (some ⟨wb,0,none⟩),.int .i64 n] V fun e w'=>e = .returned (.tuple #[.int .i64 (tv c n s).1,errV (tv c n s).2])/\∃ oa',WaAt w' wb oa' c rs (pt n s)/\Wp V w' oa oa':=by
 by_cases hn : 0<=n/\(s.now:Int)+n<=1000
 ·have e1:pt n s=s.tick n.toNat:=by unfold pt;rw[if_pos hn]
  have e2:tv c n s=((((s.tick n.toNat).cl c-s.cl c:Nat):Int),0):=by unfold tv;rw[if_pos hn]
  have hnn:n=(n.toNat:Int):=by omega
  have h1:=tick_ok n.toNat h.out hT h0 rfl (by omega);rw[<- hnn] at h1;refine h1.mono ?_;rintro e w' ⟨rfl,⟨ow',hk,hp⟩⟩;rw[e1,e2];exact ⟨rfl,ow',⟨hk⟩,hp⟩
 ·have e1:pt n s=s:=by unfold pt;rw[if_neg hn]
  have e2:tv c n s=(0,1):=by unfold tv;rw[if_neg hn]
  rw[e1,e2];refine (tick_bad n h.out hn).mono ?_;rintro e w' ⟨rfl,rfl⟩;exact ⟨rfl,oa,h,Wp.refl _ _⟩
theorem tickD (n:Int) (h:DaK V rb od c rs s (s.cl c) 0) (hf:Sf c s) (hk:(pt n s).cl c<=100) :
  Calls prog 15 #[.pointer (some ⟨rb,0,none⟩),.int .i64 n] V fun e w'=>e = .returned (.tuple #[.int .i64 (tv c n s).1,.int .i64 ((tv c n s).2:Int)])/\∃ od',DaK w' rb od' c rs (pt n s) ((pt n s).cl c) 0/\Wp V w' od od':=by
 by_cases hn : 0<=n/\(s.now:Int)+n<=1000
 ·have e1:pt n s=s.tick n.toNat:=by unfold pt;rw[if_pos hn]
  have e2:tv c n s=((((s.tick n.toNat).cl c-s.cl c:Nat):Int),0):=by unfold tv;rw[if_pos hn]
  have hnn:n=(n.toNat:Int):=by omega
  rw[e1] at hk;have h1:=rtick_ok n.toNat h hf rfl (by omega) hk;rw[<- hnn] at h1;refine h1.mono ?_;rintro e w' ⟨rfl,⟨ow',hk,hp⟩⟩;rw[e1,e2];exact ⟨rfl,ow',hk,hp⟩
 ·have e1:pt n s=s:=by unfold pt;rw[if_neg hn]
  have e2:tv c n s=(0,1):=by unfold tv;rw[if_neg hn]
  rw[e1,e2];refine (rtick_no n h hf.tim hn).mono ?_;rintro e w' ⟨rfl,rfl⟩;exact ⟨rfl,od,h,Wp.refl _ _⟩
theorem feedR (r:Int) (b:ByteArray) (h:WaAt V wb oa c rs s) (hT:TagA.Tabs V) (h0:oa 0=0) (hb:b.size<=9223372036854775807) (hu:b.size<=2000->s.sum+b.size<=6000) :
  Calls prog 16 #[.pointer (some ⟨wb,0,none⟩),.int .i64 r,.string b] V fun e w'=>e = .returned (.tuple #[.int .i64 (fv r b s).1,errV (fv r b s).2])/\∃ oa',WaAt w' wb oa' c rs (pf c r b s)/\Wp V w' oa oa':=by
 by_cases hr : 0<=r/\r<=3
 ·by_cases hl:b.size<=2000
  ·have e1:pf c r b s=s.feed c r.toNat b.data.toList:=(by unfold pf;rw[if_pos ⟨hr,hl⟩]);have e2:fv r b s=((((FrmM.feed (s.rest r.toNat++b.data.toList)).1.length:Nat):Int),0):=(by unfold fv;rw[if_pos hr,if_pos hl]);have hrr:r=(r.toNat:Int):=(by omega);have h1:=feed_ok r.toNat b h.out hT h0 rfl (by omega) hl (hu hl);rw[<- hrr] at h1;refine h1.mono ?_;rintro e w' ⟨rfl,⟨ow',hk,hp⟩⟩;rw[e2];refine ⟨rfl,ow',⟨?_⟩,hp⟩;rw[pf_cl,e1];exact hk
  ·have e2:fv r b s=(0,2):=(by unfold fv;rw[if_pos hr,if_neg hl]);rw[pf_sum_long (by omega),e2];refine (feed_long r b (by simp[btw];omega) (by omega) hb).mono ?_;rintro e w' ⟨rfl,rfl⟩;exact ⟨rfl,oa,h,Wp.refl _ _⟩
 ·have e1:pf c r b s=s:=by unfold pf;rw[if_neg (by intro h;exact hr h.1)]
  have e2:fv r b s=(0,1):=by unfold fv;rw[if_neg hr]
  rw[e1,e2];refine (feed_noreader r b (by simp[btw];omega)).mono ?_;rintro e w' ⟨rfl,rfl⟩;exact ⟨rfl,oa,h,Wp.refl _ _⟩
theorem feedD (r:Int) (b:ByteArray) (h:DaK V rb od c rs s (s.cl c) 0) (hf:Sf c s) (hb:b.size<=9223372036854775807) (hu:b.size<=2000->s.sum+b.size<=6000) :
  Calls prog 17 #[.pointer (some ⟨rb,0,none⟩),.int .i64 r,.string b] V fun e w'=>e = .returned (.tuple #[.int .i64 (fv r b s).1,.int .i64 ((fv r b s).2:Int)])/\∃ od',DaK w' rb od' c rs (pf c r b s) ((pf c r b s).cl c) 0/\Wp V w' od od':=by
 by_cases hr : 0<=r/\r<=3
 ·by_cases hl:b.size<=2000
  ·have e1:pf c r b s=s.feed c r.toNat b.data.toList:=(by unfold pf;rw[if_pos ⟨hr,hl⟩]);have e2:fv r b s=((((FrmM.feed (s.rest r.toNat++b.data.toList)).1.length:Nat):Int),0):=(by unfold fv;rw[if_pos hr,if_pos hl]);have hrr:r=(r.toNat:Int):=(by omega);have h1:=rfeed_ok r.toNat b h hf rfl (by omega) hl (hu hl);rw[<- hrr] at h1;refine h1.mono ?_;rintro e w' ⟨rfl,⟨ow',hk,hp⟩⟩;rw[e2,pf_cl,e1];exact ⟨rfl,ow',hk,hp⟩
  ·have e2:fv r b s=(0,2):=(by unfold fv;rw[if_pos hr,if_neg hl]);have hrr:r=(r.toNat:Int):=(by omega);rw[pf_sum_long (by omega),e2];have h1:=rfeed_long (rb:=rb) (w:=V) r.toNat b (by omega) (by omega) hb;rw[<- hrr] at h1;refine h1.mono ?_;rintro e w' ⟨rfl,rfl⟩;exact ⟨rfl,od,h,Wp.refl _ _⟩
 ·have e1:pf c r b s=s:=by unfold pf;rw[if_neg (by intro h;exact hr h.1)]
  have e2:fv r b s=(0,1):=by unfold fv;rw[if_neg hr]
  rw[e1,e2];refine (rfeed_noreader r b hr).mono ?_;rintro e w' ⟨rfl,rfl⟩;exact ⟨rfl,od,h,Wp.refl _ _⟩
theorem cl_60 (hl : 1<=c.len) (h40:s.cl c<=40) {n:Int} (hn:n<=60\/1000<n):(pt n s).cl c<=100:=by
 unfold pt;split
 ·rename_i h;have hn':n.toNat<=60:=by omega
  generalize n.toNat=m at *;unfold St.cl St.tick EpM.closedN at *;simp only at h40 ⊢;have h1:s.now-c.late<41*c.len:=by have:=(Nat.div_lt_iff_lt_mul (by omega : 0<c.len)).1 (Nat.lt_succ_of_le h40);exact this
  have h2:s.now+m-c.late<101*c.len:=by have : 41*c.len+60<=101*c.len:=(by omega);omega
  exact Nat.le_of_lt_succ ((Nat.div_lt_iff_lt_mul (by omega : 0<c.len)).2 h2)
 ·omega
theorem DaK.told (h:DaK V rb od c rs s (s.cl c) 0):∃ tb q cap,V.cell? ⟨rb,39,none⟩=some (.pointer (some ⟨tb,0,none⟩))/\V.cell? ⟨tb,2,none⟩=some (.slice q (s.cl c) cap):=by
 obtain ⟨p,h⟩:=h.out;obtain ⟨F,⟨fb,m,v,Df,ps,d⟩,_⟩:=h.trk;have hc:=h.cell (i:=39) (by decide);have hv:=d.c2
 obtain ⟨q,cap,e⟩:∃ q cap,v = .slice q (s.cl c) cap:=by
  have ho:=d.own;rw[Ep_len] at ho;rcases ho.2 with ⟨h1,h0⟩ | ⟨g,cap,cur,hv,_⟩
  ·exact ⟨none,0,by rw[h1,h0]⟩
  ·exact ⟨_,_,hv⟩
 rw[e] at hv;exact ⟨p.tb,q,cap,hc,hv⟩
end
end WfA
namespace WfA
open Go.RowKit TkW WaM WaW WeW WeA WaB WbA Go.Maps
open TkM (Sg epOf told whr)
open RuM (Rl)
open TkA (wv errV)
structure Ow (V:World) (B g cap m:Nat) (rs:List Rl):Prop where
 on:RsOn V (some ⟨g,0,none⟩) rs
 cap:m<=cap
 lo:B<=g
 lt:g<V.heap.size
 at_:V.there g 0 (m*6)
theorem own_rules {V:World} {B g cap m:Nat} {rs:List Rl} {news:List Value} (hm:m=rs.length) (h:V.ownsRow B 32 6 (.slice (some ⟨g,0,none⟩) (m+1) cap) (m+1) (rcs rs++news)):Ow V B g cap m rs:=by
 rcases h.2 with ⟨h1,_⟩ | ⟨g',cap',cur,hv,hb,hg,hc1,hc2,hsz,htk⟩
 ·cases h1
 ·simp at hv;obtain ⟨rfl,rfl⟩:=hv;have hlt:=(Array.getElem?_eq_some_iff.1 hg).1;have hc:=World.ownsRow.cells h (g:=g) rfl;refine ⟨⟨fun _=>⟨g,0,rfl,hlt,fun k r hk=>?_⟩⟩,by omega,hb,hlt,fun j hj=>?_⟩
  ·have key:∀ j u,j<6->(rcl r)[j]?=some u->V.cell? ⟨g,0+k*6+j,none⟩=some u:=fun j u hj hu=>by
    have hf:(rcs rs)[k*6+j]?=some u:=by rw[<- hu];exact flat_at rcl 6 (fun _=>rfl) rs k j _ hk hj
    have h1:=hc (k*6+j) u (by
     rw[List.getElem?_append_left]
     ·exact hf
     ·exact (List.getElem?_eq_some_iff.1 hf).1)
    rw[Nat.zero_add];rw[TkW.addr_add] at h1;exact h1
   exact ⟨key 0 _ (by decide) rfl,key 1 _ (by decide) rfl,key 2 _ (by decide) rfl,key 3 _ (by decide) rfl,key 4 _ (by decide) rfl,key 5 _ (by decide) rfl⟩
  ·have hj2:j<cur.size:=(by have h7:(m+1)*6<=cap*6:=Nat.mul_le_mul_right _ hc1;omega);rw[Nat.zero_add];constructor
   ·simp[World.cell?,hg,hj2]
   ·simp[World.frozen?,hg]
theorem Ow.below {V V':World} {B g cap m:Nat} {rs:List Rl} (h:Ow V B g cap m rs) (hb:Below V.heap.size V V'):Ow V' B g cap m rs:=⟨h.on.below hb,h.cap,h.lo,Nat.lt_of_lt_of_le h.lt hb.size,fun j hj=>by
 have h1:=h.at_ j hj;rw[World.cell?_of_block (w:=V) (hb.block g h.lt)];have e:=hb.block g h.lt;refine ⟨h1.1,?_⟩;have h2:=h1.2;unfold World.frozen? at h2 ⊢;simp only[e];exact h2⟩
theorem new_fault {x:Ci} {rs:List Rl} {q:Option Addr} {cap n:Nat} {V:World} (hr:RsOn V q rs) (hc:rs.length<=cap) (h:lightR rs) (hn:Fl x rs n) (hn0:n≠0) :
  Calls prog 10 #[.agg (cfw x),.slice q rs.length cap] V fun e w'=>e = .returned (.tuple #[.pointer none,.iface 105 (.int .i64 (n:Int))])/\Below V.heap.size V w':=by
 have hsz:∀ r,r ∈ rs->r.nm.size<=9223372036854775807:=fun r hr=>Nat.le_trans (h.2 r hr) (by decide);have hl:rs.length<=9223372036854775807:=Nat.le_trans h.1 (by decide);rcases hn with ⟨h1,rfl⟩ | ⟨⟨h1,h2,h3,h4⟩,h5⟩
 ·by_cases k1:x.dk
  ·by_cases k2:x.tk
   ·by_cases k3:x.ik
    ·exact new_bad4 x _ V k1 k2 k3 (fun k4=>h1 ⟨k1,k2,k3,k4⟩)
    ·exact new_bad3 x _ V k1 k2 k3
   ·exact new_bad2 x _ V k1 k2
  ·exact new_bad1 x _ V k1
 ·exact new_bad5 x rs q cap V h1 h2 h3 h4 h5 hn0 hr hsz hc hl
theorem watchSays_none (x:Ci) (rs:List Rl) (q:Option Addr) (cap:Nat) (ac:List Ac) (p:Option Addr) (capA:Nat) (w:World)
  (hr:RsIn w q cap rs) (hT:TagA.Tabs w) (hA:AcsOn w.heap.size w p ac) (hAl:ac.length<=9223372036854775807) (hG:¬ (light ac 60/\lightR rs)) :
  Calls prog 3 #[.agg (cfw x),.slice q rs.length cap,.slice p ac.length capA] w fun e w'=>e = .returned (.bool true)/\Below w.heap.size w w':=by
 obtain ⟨bl,hbl⟩:∃ b:Bool,b=true↔light ac 60:=by
  by_cases h:light ac 60
  ·exact ⟨true,by simp[h]⟩
  ·exact ⟨false,by simp[h]⟩
 obtain ⟨br,hbr⟩:∃ b:Bool,b=true↔lightR rs:=by
  by_cases h:lightR rs
  ·exact ⟨true,by simp[h]⟩
  ·exact ⟨false,by simp[h]⟩
 have HWT:Hid (∀ V,Below w.heap.size w V->Calls prog 7 #[] V fun e w'=>e = .returned (.bool true)/\Below V.heap.size V w'):=fun V hV=>watches_true V (hT.below hV hT.size);have HB0:Hid (∀ o,Below w.heap.size w (w.alloc o)):=fun o=>(Below.refl _ _).alloc (Nat.le_refl _) o;have HCF:Hid (∀ w':World,Below (w.alloc (.cells (cfw x) 25)).heap.size (w.alloc (.cells (cfw x) 25)) w'->w'.heap[w.heap.size]?=some (.cells (cfw x) 25)):=fun w' hb=>(hb.block w.heap.size (by simp)).trans (Go.heap_alloc_new w _);have HRA:Hid (∀ w':World,Below (w.alloc (.cells (cfw x) 25)).heap.size (w.alloc (.cells (cfw x) 25)) w'->w'.rangeAt w.heap.size 0 (cfw x).toList):=fun w' hb=>range_new (HCF.out w' hb);have HBW:Hid (∀ V,Below (w.alloc (.cells (cfw x) 25)).heap.size (w.alloc (.cells (cfw x) 25)) V->Below w.heap.size w V):=fun V hV=>(HB0.out _).trans (hV.mono (HB0.out _).size);have hi':(prog.info? 25).map (·.size)=some (cfw x).toList.length:=by kernel_rfl
 have HLA:Hid (∀ V,Below w.heap.size w V->Calls prog 8 #[.slice p ac.length capA,.int .i64 60] V fun e w'=>e = .returned (.bool bl)/\Below V.heap.size V w'):=fun V hV=>(lightActs_is ac p capA 60 w.heap.size hbl V (hA.below hV) (by omega) hAl).mono (fun e w' ⟨h1,qq,h2⟩=>⟨h1,by rw[h2];exact below_drewN (Below.refl _ _) qq⟩);have HLR:Hid (∀ V,Below w.heap.size w V->Calls prog 9 #[.slice q rs.length cap] V fun e w'=>e = .returned (.bool br)/\w'=V):=fun V hV=>lightRules_is rs q cap hbr V (hr.on.below hV) hr.len hr.names;obtain ⟨mR,hmR⟩:∃ mR,mR=rs.length:=⟨_,rfl⟩;obtain ⟨mA,hmA⟩:∃ mA,mA=ac.length:=⟨_,rfl⟩;have hbb:bl=true->br=true->False:=fun h1 h2=>hG ⟨hbl.1 h1,hbr.1 h2⟩;rw[<- hmR,<- hmA];rw[<- hmA] at HLA;rw[<- hmR] at HLR;generalize cfw x=C at *;clear hr hA hG hbl hbr hmR hmA hT;go_enter func3,ntmps3;go_wp2_with fail;refine (HWT.out _ (HB0.out _)).mono ?_;rintro e w1 ⟨rfl,hb1⟩;have HA1:Hid (Below (w.alloc (.cells C 25)).heap.size (w.alloc (.cells C 25)) w1):=hb1;clear hb1;go_wp2_with fail;refine (HLA.out _ (HBW.out _ HA1.out)).mono ?_;rintro e w2 ⟨rfl,hb2⟩;have HA2:Hid (Below (w.alloc (.cells C 25)).heap.size (w.alloc (.cells C 25)) w2):=HA1.out.trans (hb2.mono HA1.out.size);clear hb2;cases bl with
 | false=>
  go_wp2;go_ret;exact ⟨rfl,HBW.out _ HA2.out⟩
 | true=>
  cases br with
  | true=>exact absurd (hbb rfl rfl) (fun h=>h)
  | false=>
   go_wp2_with fail;refine (HLR.out _ (HBW.out _ HA2.out)).mono ?_;rintro e w3 ⟨rfl,rfl⟩;go_wp2;go_ret;exact ⟨rfl,HBW.out _ HA2.out⟩
theorem watchSays_bad (x:Ci) (rs:List Rl) (q:Option Addr) (cap:Nat) (ac:List Ac) (p:Option Addr) (capA:Nat) (w:World)
  (hr:RsIn w q cap rs) (hT:TagA.Tabs w) (hA:AcsOn w.heap.size w p ac) (hAl:ac.length<=9223372036854775807) (hL:light ac 60) (hG:lightR rs) {n:Nat} (hn:Fl x rs n) (hn0:n≠0) :
  Calls prog 3 #[.agg (cfw x),.slice q rs.length cap,.slice p ac.length capA] w fun e w'=>e = .returned (.bool true)/\Below w.heap.size w w':=by
 have HWT:Hid (∀ V,Below w.heap.size w V->Calls prog 7 #[] V fun e w'=>e = .returned (.bool true)/\Below V.heap.size V w'):=fun V hV=>watches_true V (hT.below hV hT.size);have HB0:Hid (∀ o,Below w.heap.size w (w.alloc o)):=fun o=>(Below.refl _ _).alloc (Nat.le_refl _) o;have HCF:Hid (∀ w':World,Below (w.alloc (.cells (cfw x) 25)).heap.size (w.alloc (.cells (cfw x) 25)) w'->w'.heap[w.heap.size]?=some (.cells (cfw x) 25)):=fun w' hb=>(hb.block w.heap.size (by simp)).trans (Go.heap_alloc_new w _);have HRA:Hid (∀ w':World,Below (w.alloc (.cells (cfw x) 25)).heap.size (w.alloc (.cells (cfw x) 25)) w'->w'.rangeAt w.heap.size 0 (cfw x).toList):=fun w' hb=>range_new (HCF.out w' hb);have HBW:Hid (∀ V,Below (w.alloc (.cells (cfw x) 25)).heap.size (w.alloc (.cells (cfw x) 25)) V->Below w.heap.size w V):=fun V hV=>(HB0.out _).trans (hV.mono (HB0.out _).size);have hi':(prog.info? 25).map (·.size)=some (cfw x).toList.length:=by kernel_rfl
 have HLA:Hid (∀ V,Below w.heap.size w V->Calls prog 8 #[.slice p ac.length capA,.int .i64 60] V fun e w'=>e = .returned (.bool true)/\Below V.heap.size V w'):=fun V hV=>(lightActs_is ac p capA 60 w.heap.size (r:=true) (by simp[hL]) V (hA.below hV) (by omega) hAl).mono (fun e w' ⟨h1,qq,h2⟩=>⟨h1,by rw[h2];exact below_drewN (Below.refl _ _) qq⟩);have HLR:Hid (∀ V,Below w.heap.size w V->Calls prog 9 #[.slice q rs.length cap] V fun e w'=>e = .returned (.bool true)/\w'=V):=fun V hV=>lightRules_is rs q cap (b:=true) (by simp[hG]) V (hr.on.below hV) hr.len hr.names;obtain ⟨mR,hmR⟩:∃ mR,mR=rs.length:=⟨_,rfl⟩;obtain ⟨mA,hmA⟩:∃ mA,mA=ac.length:=⟨_,rfl⟩;obtain ⟨i0,hi,hz0,hz1,hz2⟩:=info_parts WaB.info32;have HM:Hid (mR=rs.length):=hmR;have HNIL:Hid (q=none->mR=0/\cap=0):=fun e=>by obtain ⟨h1,h2⟩:=hr.nil e;rw[hmR,h1];exact ⟨rfl,h2⟩
 have HLEN:Hid ((rcs rs).length=mR*6):=by show _ = _;rw[rcs_len,hmR]
 have HONE:Hid (∀ u ∈ rcs rs,u.oneCell'=true):=rcs_one rs;have hm9:mR<=9:=by rw[hmR];exact hG.1
 have HML:Hid (mR<=maxLen):=by show _<=_;unfold maxLen;omega
 have HBY:Hid (mR*56<=140737488355328):=by show _<=_;omega
 have HML1:Hid (mR+1<=maxLen):=by show _<=_;unfold maxLen;omega
 have HBY1:Hid ((mR+1)*56<=140737488355328):=by show _<=_;omega
 have HNEWS:Hid (∀ V,Below w.heap.size w V->mR≠0->∃ ad,q=some ad/\∀ j u,(rcs rs)[j]?=some u->V.cell? (ad.add j)=some u):=fun V hV hne=>rs_cells (hr.below hV) (by rw[<- hmR];exact hne);have HNE:Hid (∀ V g cp,RsOn V (some ⟨g,0,none⟩) rs->mR<=cp->Calls prog 10 #[.agg (cfw x),.slice (some ⟨g,0,none⟩) mR cp] V fun e w'=>e = .returned (.tuple #[.pointer none,.iface 105 (.int .i64 (n:Int))])/\Below V.heap.size V w'):=fun V g cp h1 h2=>by rw[hmR] at h2 ⊢;exact new_fault h1 h2 hG hn hn0
 have HWF:Hid (∀ V,Below w.heap.size w V->Calls prog 11 #[.agg (cfw x),.slice q rs.length cap] V fun e w'=>e = .returned (.int .i64 (n:Int))/\Below V.heap.size V w'):=fun V hV=>watchFault_any x rs q cap V hn (hr.on.below hV) hr.len hr.names;have hnI:(0:Int)<n:=by omega
 have hnP : 0<n:=by omega
 rw[<- hmR,<- hmA];rw[<- hmA] at HLA;rw[<- hmR] at HLR HWF;generalize cfw x=C at *;clear hr hA hG hmR hmA hT hL hn hn0;go_enter func3,ntmps3;go_wp2_with fail;refine (HWT.out _ (HB0.out _)).mono ?_;rintro e w1 ⟨rfl,hb1⟩;have HA1:Hid (Below (w.alloc (.cells C 25)).heap.size (w.alloc (.cells C 25)) w1):=hb1;clear hb1;go_wp2_with fail;refine (HLA.out _ (HBW.out _ HA1.out)).mono ?_;rintro e w2 ⟨rfl,hb2⟩;have HA2:Hid (Below (w.alloc (.cells C 25)).heap.size (w.alloc (.cells C 25)) w2):=HA1.out.trans (hb2.mono HA1.out.size);clear hb2;go_wp2_with fail;refine (HLR.out _ (HBW.out _ HA2.out)).mono ?_;rintro e w3 ⟨rfl,rfl⟩;have HNW:Hid (mR≠0->∃ ad,q=some ad/\∀ j u,(rcs rs)[j]?=some u->w3.cell? (ad.add j)=some u):=HNEWS.out _ (HBW.out _ HA2.out);go_wp2_with (at_builtin;refine WeJ.wpList_append_copy _ rfl _ _ 26 rfl 32 i0 (.agg #[.string ⟨#[]⟩,.int .i64 0,.int .i64 0,.int .i64 0,.int .i64 0,.int .i64 0]) 6 56 underlying26 hi hz0 hz1 hz2 rfl (by decide) rfl q mR cap (rcs rs) rfl HNIL.out HLEN.out HNW.out HONE.out HML.out HBY.out ?_);intro rv w4 hown4 hb4
 obtain ⟨rq,rcp,hrvf⟩:∃ rq rcp,rv = .slice rq mR rcp:=by
  rcases hown4.2 with ⟨h1,h0⟩ | ⟨g,cap,cur,hv,_⟩
  ·exact ⟨none,0,by rw[h1,h0]⟩
  ·exact ⟨_,_,hv⟩
 subst hrvf;have HA4:Hid (Below (w.alloc (.cells C 25)).heap.size (w.alloc (.cells C 25)) w4):=HA2.out.trans (hb4.mono HA2.out.size);have hs3:w.heap.size+1<=w3.heap.size:=by have:=HA2.out.size;simp at this;omega
 obtain ⟨W5,hW5⟩:∃ W5,W5=w4.alloc (.cells #[.string ⟨#[]⟩,.int .i64 77,.int .i64 0,.int .i64 0,.int .i64 0,.int .i64 0] 32):=⟨_,rfl⟩;have hn5:W5.heap[w4.heap.size]?=some (.cells #[.string ⟨#[]⟩,.int .i64 77,.int .i64 0,.int .i64 0,.int .i64 0,.int .i64 0] 32):=by rw[hW5];exact Go.heap_alloc_new w4 _
 have hb5:Below w4.heap.size w4 W5:=by rw[hW5];exact (Below.refl _ _).alloc (Nat.le_refl _) _
 have hs5:W5.heap.size=w4.heap.size+1:=by rw[hW5];simp
 have HOWN5:Hid (W5.ownsRow w3.heap.size 32 6 (.slice rq mR rcp) mR (rcs rs)):=own_keep hown4 (fun b hb=>hb5.block b (hown4.lt b hb).2);have HOB:Hid (∀ b,(Value.slice rq mR rcp).ownBlock=some b->w3.heap.size<=b):=fun b hb=>(hown4.lt b hb).1;have HA5:Hid (Below (w.alloc (.cells C 25)).heap.size (w.alloc (.cells C 25)) W5):=HA4.out.trans (hb5.mono HA4.out.size);have HNEW5:Hid (∀ j u,[Value.string ⟨#[]⟩,.int .i64 77,.int .i64 0,.int .i64 0,.int .i64 0,.int .i64 0][j]?=some u->W5.cell? ((⟨w4.heap.size,0,none⟩:Addr).add j)=some u):=fun j u hj=>by rw[TkW.addr_add];simp only[World.cell?,hn5];simpa using hj
 have hB5:w3.heap.size<=W5.heap.size:=by have:=hb4.size;omega
 have HN5:Hid (∀ V:World,V=W5->V=W5):=fun _ h=>h;clear hown4 hb4 hn5 hb5 HNW;go_wp2_with (at_builtin;rw[<- hW5];refine wpList_append_lies _ rfl _ _ 26 rfl w3.heap.size 32 i0 (.agg #[.string ⟨#[]⟩,.int .i64 0,.int .i64 0,.int .i64 0,.int .i64 0,.int .i64 0]) 6 56 underlying26 hi hz0 hz1 hz2 rfl (by decide) (.slice rq mR rcp) mR (rcs rs) rfl HOWN5.out ⟨w4.heap.size,0,none⟩ 1 1 [.string ⟨#[]⟩,.int .i64 77,.int .i64 0,.int .i64 0,.int .i64 0,.int .i64 0] rfl rfl HNEW5.out (fun u hu=>by simp at hu;rcases hu with rfl | rfl | rfl | rfl<;>rfl) (by omega) HML1.out HBY1.out hB5 (w4.heap.size+1) hs5 ?_);intro g cp w6 hown6 hgr6 hgg hglt;rw[<- hW5] at hgr6;have HOW:Hid (Ow w6 w3.heap.size g cp mR rs):=own_rules HM.out hown6
 have HA6:Hid (Below (w.alloc (.cells C 25)).heap.size (w.alloc (.cells C 25)) w6):=HA5.out.grown hgr6 HA5.out.size (fun k hk=>by
  have:=HOB.out k hk;have:=HA2.out.size;omega)
 have hcpI:(mR:Int)<=(cp:Int):=by have:=HOW.out.cap;omega
 have hcpN:mR<=cp:=HOW.out.cap;have hra:=HRA.out _ HA6.out;have hgw:w.heap.size+1<=g:=by have:=HOW.out.lo;omega
 clear hown6 hgr6 hgg hglt hs5 hB5 HOWN5 HNEW5 HN5 hW5 HOB HA5 HA4 hs3;go_wp2_with (refine wpList_load_mid rfl 25 (.tmp 3) rfl w.heap.size 0 rfl C.toList _ hra underlying25 rfl hi' ?_);refine (HNE.out _ _ _ HOW.out.on HOW.out.cap).mono ?_;rintro e w7 ⟨rfl,hb7⟩;have HA7:Hid (Below (w.alloc (.cells C 25)).heap.size (w.alloc (.cells C 25)) w7):=HA6.out.trans (hb7.mono HA6.out.size);clear hb7 hra;have hra:=HRA.out _ HA7.out;go_wp2_with (refine wpList_load_mid rfl 25 (.tmp 3) rfl w.heap.size 0 rfl C.toList _ hra underlying25 rfl hi' ?_);refine (HWF.out _ (HBW.out _ HA7.out)).mono ?_;rintro e w8 ⟨rfl,hb8⟩;have HB8:Hid (Below w.heap.size w w8):=(HBW.out _ HA7.out).trans (hb8.mono (HBW.out _ HA7.out).size);clear hb8 hra;go_wp2_with fail;refine (TkA.same_err n _ hnP).mono ?_;rintro e w9 ⟨rfl,rfl⟩;go_wp2;go_ret;exact ⟨rfl,HB8.out⟩
end WfA
namespace WfA
open Go.RowKit TkW WaM WaW WeW WeA WaB WbA Go.Maps
open TkM (Sg epOf told whr)
open RuM (Rl)
open TkA (wv errV)
theorem there_setCell {w:World} {b o n:Nat} (h:w.there b o n) (g i:Nat) (v:Value):(w.setCell ⟨g,i,none⟩ v).there b o n:=World.there_setCells h g i [v]
theorem watchSays_some (x:Ci) (rs:List Rl) (q:Option Addr) (cap:Nat) (ac:List Ac) (p:Option Addr) (capA:Nat) (w:World)
  (hr:RsIn w q cap rs) (hT:TagA.Tabs w) (hA:AcsOn w.heap.size w p ac) (hAl:ac.length<=9223372036854775807) (hL:light ac 60) (hG:lightR rs) (hn:Fl x rs 0) :
  Calls prog 3 #[.agg (cfw x),.slice q rs.length cap,.slice p ac.length capA] w fun e w'=>e = .returned (.bool true)/\Below w.heap.size w w':=by
 have HWT:Hid (∀ V,Below w.heap.size w V->Calls prog 7 #[] V fun e w'=>e = .returned (.bool true)/\Below V.heap.size V w'):=fun V hV=>watches_true V (hT.below hV hT.size);have HB0:Hid (∀ o,Below w.heap.size w (w.alloc o)):=fun o=>(Below.refl _ _).alloc (Nat.le_refl _) o;have HCF:Hid (∀ w':World,Below (w.alloc (.cells (cfw x) 25)).heap.size (w.alloc (.cells (cfw x) 25)) w'->w'.heap[w.heap.size]?=some (.cells (cfw x) 25)):=fun w' hb=>(hb.block w.heap.size (by simp)).trans (Go.heap_alloc_new w _);have HRA:Hid (∀ w':World,Below (w.alloc (.cells (cfw x) 25)).heap.size (w.alloc (.cells (cfw x) 25)) w'->w'.rangeAt w.heap.size 0 (cfw x).toList):=fun w' hb=>range_new (HCF.out w' hb);have HBW:Hid (∀ V,Below (w.alloc (.cells (cfw x) 25)).heap.size (w.alloc (.cells (cfw x) 25)) V->Below w.heap.size w V):=fun V hV=>(HB0.out _).trans (hV.mono (HB0.out _).size);have hi':(prog.info? 25).map (·.size)=some (cfw x).toList.length:=by kernel_rfl
 have HLA:Hid (∀ V,Below w.heap.size w V->Calls prog 8 #[.slice p ac.length capA,.int .i64 60] V fun e w'=>e = .returned (.bool true)/\Below V.heap.size V w'):=fun V hV=>(lightActs_is ac p capA 60 w.heap.size (r:=true) (by simp[hL]) V (hA.below hV) (by omega) hAl).mono (fun e w' ⟨h1,qq,h2⟩=>⟨h1,by rw[h2];exact below_drewN (Below.refl _ _) qq⟩);have HLR:Hid (∀ V,Below w.heap.size w V->Calls prog 9 #[.slice q rs.length cap] V fun e w'=>e = .returned (.bool true)/\w'=V):=fun V hV=>lightRules_is rs q cap (b:=true) (by simp[hG]) V (hr.on.below hV) hr.len hr.names;obtain ⟨mR,hmR⟩:∃ mR,mR=rs.length:=⟨_,rfl⟩;obtain ⟨mA,hmA⟩:∃ mA,mA=ac.length:=⟨_,rfl⟩;obtain ⟨i0,hi,hz0,hz1,hz2⟩:=info_parts WaB.info32;have HM:Hid (mR=rs.length):=hmR;have HNIL:Hid (q=none->mR=0/\cap=0):=fun e=>by obtain ⟨h1,h2⟩:=hr.nil e;rw[hmR,h1];exact ⟨rfl,h2⟩
 have HLEN:Hid ((rcs rs).length=mR*6):=by show _ = _;rw[rcs_len,hmR]
 have HONE:Hid (∀ u ∈ rcs rs,u.oneCell'=true):=rcs_one rs;have hm9:mR<=9:=by rw[hmR];exact hG.1
 have HML:Hid (mR<=maxLen):=by show _<=_;unfold maxLen;omega
 have HBY:Hid (mR*56<=140737488355328):=by show _<=_;omega
 have HML1:Hid (mR+1<=maxLen):=by show _<=_;unfold maxLen;omega
 have HBY1:Hid ((mR+1)*56<=140737488355328):=by show _<=_;omega
 have HNEWS:Hid (∀ V,Below w.heap.size w V->mR≠0->∃ ad,q=some ad/\∀ j u,(rcs rs)[j]?=some u->V.cell? (ad.add j)=some u):=fun V hV hne=>rs_cells (hr.below hV) (by rw[<- hmR];exact hne)
 obtain ⟨c,hcok,hci,hck⟩:∃ c:Cf,c.Ok/\Cf.ci c=x/\Ck rs 0:=by
  rcases hn with ⟨_,h0⟩ | ⟨h1,h2⟩
  ·omega
  ·obtain ⟨c,hc,hx⟩:=h1.cf;exact ⟨c,hc,hx,h2⟩
 have h6R:rs.length<=6:=by
  rcases hck with ⟨_,h0⟩ | ⟨h1,_⟩
  ·omega
  ·exact h1
 have HNE:Hid (∀ V g cp,RsOn V (some ⟨g,0,none⟩) rs->mR<=cp->Calls prog 10 #[.agg (cfw x),.slice (some ⟨g,0,none⟩) mR cp] V fun e w'=>∃ wb ow,e = .returned (.tuple #[.pointer (some ⟨wb,0,none⟩),.nilIface])/\WaAt w' wb ow c rs St.zero/\(∀ b,ow b≠0->V.heap.size<=b)/\Below V.heap.size V w'):=fun V g cp h1 h2=>by rw[hmR] at h2 ⊢;rw[<- hci];refine (new_ok c rs (some ⟨g,0,none⟩) cp V hcok hck h1 (fun h=>by cases h) h2 (fun r hr=>Nat.le_trans (hG.2 r hr) (by decide))).mono ?_;rintro e w' ⟨wb,ow,h3,h4,h5,h6⟩;exact ⟨wb,ow,h3,⟨by rw[zero_cl];exact h4⟩,h5,h6⟩
 have HWF:Hid (∀ V,Below w.heap.size w V->Calls prog 11 #[.agg (cfw x),.slice q rs.length cap] V fun e w'=>e = .returned (.int .i64 0)/\Below V.heap.size V w'):=fun V hV=>watchFault_any x rs q cap V hn (hr.on.below hV) hr.len hr.names;have HNR:Hid (∀ V,Below w.heap.size w V->Calls prog 13 #[.agg (cfw x),.slice q rs.length cap] V fun e w'=>∃ rb ow,e = .returned (.pointer (some ⟨rb,0,none⟩))/\DaK w' rb ow c rs St.zero 0 0/\(∀ b,ow b≠0->V.heap.size<=b)/\Below V.heap.size V w'):=fun V hV=>by rw[<- hci];exact newWatch_any c rs q cap V (hr.below hV) h6R
 have HT:Hid (TagA.Tabs w):=hT;have HA:Hid (AcsOn w.heap.size w p ac):=hA;have HL:Hid (light ac 60):=hL;have hsz1 : 1<=w.heap.size:=hT.size;have hl1 : 1<=c.len:=hcok.l0;have HmA:Hid (mA=ac.length):=hmA;have hA60:mA<=60:=by rw[hmA];exact hL.1
 rw[<- hmR,<- hmA];rw[<- hmA] at HLA;rw[<- hmR] at HLR HWF HNR;generalize cfw x=C at *;clear hr hA hG hmR hmA hT hL hn hck hci h6R hcok;go_enter func3,ntmps3;go_wp2_with fail;refine (HWT.out _ (HB0.out _)).mono ?_;rintro e w1 ⟨rfl,hb1⟩;have HA1:Hid (Below (w.alloc (.cells C 25)).heap.size (w.alloc (.cells C 25)) w1):=hb1;clear hb1;go_wp2_with fail;refine (HLA.out _ (HBW.out _ HA1.out)).mono ?_;rintro e w2 ⟨rfl,hb2⟩;have HA2:Hid (Below (w.alloc (.cells C 25)).heap.size (w.alloc (.cells C 25)) w2):=HA1.out.trans (hb2.mono HA1.out.size);clear hb2;go_wp2_with fail;refine (HLR.out _ (HBW.out _ HA2.out)).mono ?_;rintro e w3 ⟨rfl,rfl⟩;have HNW:Hid (mR≠0->∃ ad,q=some ad/\∀ j u,(rcs rs)[j]?=some u->w3.cell? (ad.add j)=some u):=HNEWS.out _ (HBW.out _ HA2.out);go_wp2_with (at_builtin;refine WeJ.wpList_append_copy _ rfl _ _ 26 rfl 32 i0 (.agg #[.string ⟨#[]⟩,.int .i64 0,.int .i64 0,.int .i64 0,.int .i64 0,.int .i64 0]) 6 56 underlying26 hi hz0 hz1 hz2 rfl (by decide) rfl q mR cap (rcs rs) rfl HNIL.out HLEN.out HNW.out HONE.out HML.out HBY.out ?_);intro rv w4 hown4 hb4
 obtain ⟨rq,rcp,hrvf⟩:∃ rq rcp,rv = .slice rq mR rcp:=by
  rcases hown4.2 with ⟨h1,h0⟩ | ⟨g,cap,cur,hv,_⟩
  ·exact ⟨none,0,by rw[h1,h0]⟩
  ·exact ⟨_,_,hv⟩
 subst hrvf;have HA4:Hid (Below (w.alloc (.cells C 25)).heap.size (w.alloc (.cells C 25)) w4):=HA2.out.trans (hb4.mono HA2.out.size);have hs3:w.heap.size+1<=w3.heap.size:=by have:=HA2.out.size;simp at this;omega
 obtain ⟨W5,hW5⟩:∃ W5,W5=w4.alloc (.cells #[.string ⟨#[]⟩,.int .i64 77,.int .i64 0,.int .i64 0,.int .i64 0,.int .i64 0] 32):=⟨_,rfl⟩;have hn5:W5.heap[w4.heap.size]?=some (.cells #[.string ⟨#[]⟩,.int .i64 77,.int .i64 0,.int .i64 0,.int .i64 0,.int .i64 0] 32):=by rw[hW5];exact Go.heap_alloc_new w4 _
 have hb5:Below w4.heap.size w4 W5:=by rw[hW5];exact (Below.refl _ _).alloc (Nat.le_refl _) _
 have hs5:W5.heap.size=w4.heap.size+1:=by rw[hW5];simp
 have HOWN5:Hid (W5.ownsRow w3.heap.size 32 6 (.slice rq mR rcp) mR (rcs rs)):=own_keep hown4 (fun b hb=>hb5.block b (hown4.lt b hb).2);have HOB:Hid (∀ b,(Value.slice rq mR rcp).ownBlock=some b->w3.heap.size<=b):=fun b hb=>(hown4.lt b hb).1;have HA5:Hid (Below (w.alloc (.cells C 25)).heap.size (w.alloc (.cells C 25)) W5):=HA4.out.trans (hb5.mono HA4.out.size);have HNEW5:Hid (∀ j u,[Value.string ⟨#[]⟩,.int .i64 77,.int .i64 0,.int .i64 0,.int .i64 0,.int .i64 0][j]?=some u->W5.cell? ((⟨w4.heap.size,0,none⟩:Addr).add j)=some u):=fun j u hj=>by rw[TkW.addr_add];simp only[World.cell?,hn5];simpa using hj
 have hB5:w3.heap.size<=W5.heap.size:=by have:=hb4.size;omega
 have HN5:Hid (∀ V:World,V=W5->V=W5):=fun _ h=>h;clear hown4 hb4 hn5 hb5 HNW;go_wp2_with (at_builtin;rw[<- hW5];refine wpList_append_lies _ rfl _ _ 26 rfl w3.heap.size 32 i0 (.agg #[.string ⟨#[]⟩,.int .i64 0,.int .i64 0,.int .i64 0,.int .i64 0,.int .i64 0]) 6 56 underlying26 hi hz0 hz1 hz2 rfl (by decide) (.slice rq mR rcp) mR (rcs rs) rfl HOWN5.out ⟨w4.heap.size,0,none⟩ 1 1 [.string ⟨#[]⟩,.int .i64 77,.int .i64 0,.int .i64 0,.int .i64 0,.int .i64 0] rfl rfl HNEW5.out (fun u hu=>by simp at hu;rcases hu with rfl | rfl | rfl | rfl<;>rfl) (by omega) HML1.out HBY1.out hB5 (w4.heap.size+1) hs5 ?_);intro g cp w6 hown6 hgr6 hgg hglt;rw[<- hW5] at hgr6;have HOW:Hid (Ow w6 w3.heap.size g cp mR rs):=own_rules HM.out hown6
 have HA6:Hid (Below (w.alloc (.cells C 25)).heap.size (w.alloc (.cells C 25)) w6):=HA5.out.grown hgr6 HA5.out.size (fun k hk=>by
  have:=HOB.out k hk;have:=HA2.out.size;omega)
 have hcpI:(mR:Int)<=(cp:Int):=by have:=HOW.out.cap;omega
 have hcpN:mR<=cp:=HOW.out.cap;have hra:=HRA.out _ HA6.out;have hgw:w.heap.size+1<=g:=by have:=HOW.out.lo;omega
 clear hown6 hgr6 hgg hglt hs5 hB5 HOWN5 HNEW5 HN5 hW5 HOB HA5 HA4 hs3;go_wp2_with (refine wpList_load_mid rfl 25 (.tmp 3) rfl w.heap.size 0 rfl C.toList _ hra underlying25 rfl hi' ?_);refine (HNE.out _ _ _ HOW.out.on HOW.out.cap).mono ?_;rintro e w7 ⟨wb,oa,rfl,hwa,hoa,hb7⟩;have HA7:Hid (Below (w.alloc (.cells C 25)).heap.size (w.alloc (.cells C 25)) w7):=HA6.out.trans (hb7.mono HA6.out.size);have HWA7:Hid (WaAt w7 wb oa c rs St.zero):=hwa;have HOA:Hid (∀ b,oa b≠0->w6.heap.size<=b):=hoa;have HOW7:Hid (Ow w7 w3.heap.size g cp mR rs):=HOW.out.below hb7;have HS67:Hid (w6.heap.size<=w7.heap.size):=hb7.size;have hg6:g<w6.heap.size:=HOW.out.lt;clear hb7 hra hwa hoa HOW;have hra:=HRA.out _ HA7.out;go_wp2_with (refine wpList_load_mid rfl 25 (.tmp 3) rfl w.heap.size 0 rfl C.toList _ hra underlying25 rfl hi' ?_);refine (HWF.out _ (HBW.out _ HA7.out)).mono ?_;rintro e w8 ⟨rfl,hb8⟩;have HA8:Hid (Below (w.alloc (.cells C 25)).heap.size (w.alloc (.cells C 25)) w8):=HA7.out.trans (hb8.mono HA7.out.size);have HWA8:Hid (WaAt w8 wb oa c rs St.zero):=HWA7.out.below hb8;have HOW8:Hid (Ow w8 w3.heap.size g cp mR rs):=HOW7.out.below hb8;have h68:w6.heap.size<=w8.heap.size:=Nat.le_trans HS67.out hb8.size;have HTH8:Hid (w8.there g 0 (mR*6)):=HOW8.out.at_;clear hb8 hra HWA7 HOW7 HWF HNE HLA HLR HWT HOW8 HS67;go_wp2;go_loopw [12] (fun i V=>∃ j:Nat,j<=mR/\i = .int .i64 (j:Int)/\V.there g 0 (mR*6)/\Kp (fun b=>b=g) w8 V) (fun i _=>mR-(intOf i).toNat)
 case atStart=>exact ⟨0,Nat.zero_le _,rfl,HTH8.out,Kp.refl _ _⟩
 case round=>
  obtain ⟨j,hj,rfl,hth0,hkp⟩:=hrel;have HTH:Hid (wr.there g 0 (mR*6)):=hth0;have HKP:Hid (Kp (fun b=>b=g) w8 wr):=hkp;clear hth0 hkp;by_cases hlt:j<mR
  case pos=>
   have hII:(j:Int)<mR:=(by omega);have hfz:∀ i,i<6->wr.frozen? ⟨g,j*6+i,none⟩=false:=fun i hi=>(by have:=(HTH.out (j*6+i) (by omega)).2;rw[Nat.zero_add] at this;exact this);have hce:∀ i,i<6->∃ z,wr.cell? ⟨g,j*6+i,none⟩=some z:=fun i hi=>(by have:=(HTH.out (j*6+i) (by omega)).1;rw[Nat.zero_add] at this;exact Option.isSome_iff_exists.1 this);have f0:wr.frozen? ⟨g,j*6,none⟩=false:=hfz 0 (by omega);have f1:wr.frozen? ⟨g,j*6+1,none⟩=false:=hfz 1 (by omega);have f2:wr.frozen? ⟨g,j*6+1+1,none⟩=false:=hfz 2 (by omega);have f3:wr.frozen? ⟨g,j*6+1+1+1,none⟩=false:=hfz 3 (by omega);have f4:wr.frozen? ⟨g,j*6+1+1+1+1,none⟩=false:=hfz 4 (by omega);have f5:wr.frozen? ⟨g,j*6+1+1+1+1+1,none⟩=false:=hfz 5 (by omega);obtain ⟨z0,e0⟩:∃ z,wr.cell? ⟨g,j*6,none⟩=some z:=hce 0 (by omega);obtain ⟨z1,e1⟩:∃ z,wr.cell? ⟨g,j*6+1,none⟩=some z:=hce 1 (by omega);obtain ⟨z2,e2⟩:∃ z,wr.cell? ⟨g,j*6+1+1,none⟩=some z:=hce 2 (by omega);obtain ⟨z3,e3⟩:∃ z,wr.cell? ⟨g,j*6+1+1+1,none⟩=some z:=hce 3 (by omega);obtain ⟨z4,e4⟩:∃ z,wr.cell? ⟨g,j*6+1+1+1+1,none⟩=some z:=hce 4 (by omega);obtain ⟨z5,e5⟩:∃ z,wr.cell? ⟨g,j*6+1+1+1+1+1,none⟩=some z:=hce 5 (by omega);clear hfz hce;obtain ⟨W9,hW9⟩:∃ W9,W9=(((((wr.setCell ⟨g,j*6,none⟩ (.string ⟨#[]⟩)).setCell ⟨g,j*6+1,none⟩ (.int .i64 0)).setCell ⟨g,j*6+2,none⟩ (.int .i64 0)).setCell ⟨g,j*6+3,none⟩ (.int .i64 0)).setCell ⟨g,j*6+4,none⟩ (.int .i64 0)).setCell ⟨g,j*6+5,none⟩ (.int .i64 0):=⟨_,rfl⟩;have HTH9:Hid (W9.there g 0 (mR*6)):=(by rw[hW9];exact (there_setCell (there_setCell (there_setCell (there_setCell (there_setCell (there_setCell HTH.out _ _ _) _ _ _) _ _ _) _ _ _) _ _ _) _ _ _));have HKP9:Hid (Kp (fun b=>b=g) w8 W9):=(by rw[hW9];exact (Kp.trans (Kp.trans (Kp.trans (Kp.trans (Kp.trans (Kp.trans HKP.out (set_kp (F:=fun b=>b=g) _ _ _ rfl)) (set_kp (F:=fun b=>b=g) _ _ _ rfl)) (set_kp (F:=fun b=>b=g) _ _ _ rfl)) (set_kp (F:=fun b=>b=g) _ _ _ rfl)) (set_kp (F:=fun b=>b=g) _ _ _ rfl)) (set_kp (F:=fun b=>b=g) _ _ _ rfl)));have HW9:Hid (W9=(((((wr.setCell ⟨g,j*6,none⟩ (.string ⟨#[]⟩)).setCell ⟨g,j*6+1,none⟩ (.int .i64 0)).setCell ⟨g,j*6+2,none⟩ (.int .i64 0)).setCell ⟨g,j*6+3,none⟩ (.int .i64 0)).setCell ⟨g,j*6+4,none⟩ (.int .i64 0)).setCell ⟨g,j*6+5,none⟩ (.int .i64 0)):=hW9;clear hW9;go_upto_region 13 with fail
   rw[<- HW9.out];clear HW9 f0 f1 f2 f3 f4 f5 e0 e1 e2 e3 e4 e5 z0 z1 z2 z3 z4 z5 HTH HKP;clear hAl hz0 hz1 hz2 hi hcpI hcpN hgw h68 hg6 hi' hl1 hsz1 hA60;go_wp2;go_roundw
   case rel=>exact ⟨j+1,by omega,by go_num,HTH9.out,HKP9.out⟩
   case measure=>simp[intOf];omega
  case neg=>
   have hII:¬ (j:Int)<mR:=(by omega);have HA9:Hid (Below (w.alloc (.cells C 25)).heap.size (w.alloc (.cells C 25)) wr):=HA8.out.trans (HKP.out.below HA8.out.size (fun k hk e=>by simp at hk;omega));have HWA9:Hid (WaAt wr wb oa c rs St.zero):=WaAt.kp HWA8.out HKP.out (fun b hb e=>by have:=HOA.out b hb;omega);have hra:=HRA.out _ HA9.out;clear HKP HTH HA8 HWA8 HTH8;go_wp2_with (refine wpList_load_mid rfl 25 (.tmp 3) rfl w.heap.size 0 rfl C.toList _ hra underlying25 rfl hi' ?_);refine (HNR.out _ (HBW.out _ HA9.out)).mono ?_;rintro e w10 ⟨rb,od,rfl,hda,hod,hb10⟩
   have HTB:Hid (Tb w.heap.size w10 wb rb oa od c rs St.zero St.zero):=⟨HWA9.out.below hb10,by rw[zero_cl];exact hda,fun i h=>by have h1:=HOA.out i h;have h2:=HA6.out.size;simp at h2;omega,fun i h=>Nat.le_trans (HBW.out _ HA9.out).size (hod i h),fun i h=>by
    by_cases hz:od i=0
    ·exact hz
    ·have:=hod i hz;have:=WaAt.lim HWA9.out i h;omega⟩
   have HB10:Hid (Below w.heap.size w w10):=(HBW.out _ HA9.out).trans (hb10.mono (HBW.out _ HA9.out).size);clear hda hod hb10 hra HA9 HWA9 HNR HOA;go_wp2;go_loopw [14] (fun i V=>∃ j:Nat,j<=mA/\i = .int .i64 (j:Int)/\∃ oa od,Tb w.heap.size V wb rb oa od c rs (plays c (ac.take j) St.zero) (plays c (ac.take j) St.zero)/\(plays c (ac.take j) St.zero).cl c<=40/\Below w.heap.size w V) (fun i _=>mA-(intOf i).toNat)
   case atStart=>exact ⟨0,Nat.zero_le _,rfl,oa,od,HTB.out,by show St.zero.cl c<=40;rw[zero_cl];omega,HB10.out⟩
   case round=>
    clear HTB HB10 hj hlt hII;obtain ⟨j,hj,rfl,oa,od,htb,h40,hbl⟩:=hrel;have HTB:Hid (Tb w.heap.size wr wb rb oa od c rs (plays c (ac.take j) St.zero) (plays c (ac.take j) St.zero)):=htb;have HBL:Hid (Below w.heap.size w wr):=hbl;clear htb hbl;by_cases hlt:j<mA
    case neg=>have hII:¬ (j:Int)<mA:=(by omega);have HAW:Hid (Calls prog 18 #[.pointer (some ⟨wb,0,none⟩),.pointer (some ⟨rb,0,none⟩)] wr fun e w'=>e = .returned (.bool true)/\Below w.heap.size wr w'):=(by obtain ⟨pd,hpd⟩:=HTB.out.d.out;refine (asWatch_true ⟨HTB.out.a,hpd,HTB.out.ap⟩ (by omega) (by omega)).mono ?_;rintro e w' ⟨h1,h2⟩;exact ⟨h1,h2.below HBL.out.size (fun k hk h=>by have:=HTB.out.lb k h;omega)⟩);go_wp2_with fail;refine HAW.out.mono ?_;rintro e w11 ⟨rfl,hb11⟩;have HB11:Hid (Below w.heap.size w w11):=HBL.out.trans hb11;clear hb11;go_wp2;go_ret;exact ⟨rfl,HB11.out⟩
    case pos=>
     have hII:(j:Int)<mA:=(by omega);have hj':j<ac.length:=(by rw[<- HmA.out];exact hlt);have hne:ac≠[]:=fun e=>(by rw[e] at hj';simp at hj');obtain ⟨gA,oA,rfl,hgA,hc'⟩:=(HA.out.below HBL.out).at_ hne;have hrj:=List.getElem?_eq_getElem hj';have hsz:=HA.out.sizes _ (List.getElem_mem hj');have k0:=(hc' j _ hrj).c0;have k1:=(hc' j _ hrj).c1;have k2:=(hc' j _ hrj).c2;have k3:=(hc' j _ hrj).c3;have k4:=(hc' j _ hrj).c4;have k5:=(hc' j _ hrj).c5;have k6:=(hc' j _ hrj).c6;have HSU:Hid ((plays c (ac.take j) St.zero).sum+awS ac (j+1)<=6000+awS ac j):=(by show _<=_;have h1:=plays_sum (c:=c) (s:=St.zero) HL.out.2.1 j (by omega);have h2:=awS_all ac (j:=j+1) (by omega);have h3:=HL.out.2.2;have h4:St.zero.sum=0:=rfl;omega);have hSS:=awS_succ hrj;have HPS:Hid (plays c (ac.take (j+1)) St.zero=pact c (plays c (ac.take j) St.zero) ac[j]):=plays_succ hrj;have HAO:Hid (aok ac[j]):=HL.out.2.1 _ (List.getElem_mem hj')
     have HO0:Hid (oa 0=0):=by
      show _ = _;by_cases hz:oa 0=0
      ·exact hz
      ·have:=HTB.out.la 0 hz;omega
     generalize ac[j]=a at *;have HUA:Hid (a.st.size<=2000->(plays c (ac.take j) St.zero).sum+a.st.size<=6000):=fun h2=>(by have h1:=HSU.out;have h3:=HAO.out;unfold aok at h3;have h4:aw a=a.st.size:=(by unfold aw;omega);show _<=_;have h5:awS ac (j+1)=awS ac j+aw a:=hSS;omega);clear hrj hc' hne hSS HSU HAO;generalize plays c (ac.take j) St.zero=s1 at *;by_cases hkd:a.kd=tickW
     case pos=>
      have HPA:Hid (pact c s1 a=pt a.n s1):=(by show _ = _;unfold pact;rw[if_pos hkd]);have hne:=kd_eq hkd;clear hkd;have h3:(60<a.n/\a.n<=1000)\/(¬ 60<a.n)\/(60<a.n/\¬ a.n<=1000):=(by omega);rcases h3 with ⟨h60,h1k⟩ | h60 | ⟨h60,h1k⟩
      ·have HB1:Hid (∀ o,Below w.heap.size w (wr.alloc o)):=fun o=>HBL.out.alloc HBL.out.size o;go_wp2;go_ret;exact ⟨rfl,HB1.out _⟩
      all_goals
       obtain ⟨W1,hW1⟩:∃ W1,W1=wr.alloc (.cells #[.string a.kd,.int .i64 a.n,.string a.st,.int .i64 a.x.p,.int .i64 a.x.s,.int .i64 a.x.t,.string a.x.g] 45):=⟨_,rfl⟩;have hn1:W1.heap[wr.heap.size]?=some (.cells #[.string a.kd,.int .i64 a.n,.string a.st,.int .i64 a.x.p,.int .i64 a.x.s,.int .i64 a.x.t,.string a.x.g] 45):=(by rw[hW1];exact Go.heap_alloc_new wr _);have hb1:Below wr.heap.size wr W1:=(by rw[hW1];exact (Below.refl _ _).alloc (Nat.le_refl _) _);have hs1:W1.heap.size=wr.heap.size+1:=(by rw[hW1];simp);have x0:W1.cell? ⟨wr.heap.size,0,none⟩=some (.string a.kd):=(by simp[World.cell?,hn1]);have x1:W1.cell? ⟨wr.heap.size,1,none⟩=some (.int .i64 a.n):=(by simp[World.cell?,hn1]);have x2:W1.cell? ⟨wr.heap.size,2,none⟩=some (.string a.st):=(by simp[World.cell?,hn1]);have HTB1:Hid (Tb w.heap.size W1 wb rb oa od c rs s1 s1):=HTB.out.below hb1;have HB1:Hid (Below w.heap.size w W1):=HBL.out.trans (hb1.mono HBL.out.size);have HTA1:Hid (TagA.Tabs W1):=HT.out.below HB1.out hsz1;have HW1:Hid (W1=wr.alloc (.cells #[.string a.kd,.int .i64 a.n,.string a.st,.int .i64 a.x.p,.int .i64 a.x.s,.int .i64 a.x.t,.string a.x.g] 45)):=hW1;have HXA:Hid (∀ w',Wp W1 w' oa oa->True):=fun _ _=>trivial;have HXK:Hid (∀ (w':World) (oa2:Nat->Nat),Wp W1 w' oa oa2->w'.heap[wr.heap.size]?=W1.heap[wr.heap.size]?):=fun w' oa2 hp=>hp.kp.block _ (by omega) (fun e=>by have:=WaAt.lim HTB.out.a _ e;omega);clear hW1 hn1 hb1 hs1 HXA;have HTR:Hid (Calls prog 14 #[.pointer (some ⟨wb,0,none⟩),.int .i64 a.n] W1 fun e w'=>e = .returned (.tuple #[.int .i64 (tv c a.n s1).1,errV (tv c a.n s1).2])/\∃ oa',WaAt w' wb oa' c rs (pt a.n s1)/\Wp W1 w' oa oa'):=tickR a.n HTB1.out.a HTA1.out HO0.out;have HDR:Hid (∀ (V:World) (o:Nat->Nat),DaK V rb o c rs s1 (s1.cl c) 0->Calls prog 15 #[.pointer (some ⟨rb,0,none⟩),.int .i64 a.n] V fun e w'=>e = .returned (.tuple #[.int .i64 (tv c a.n s1).1,.int .i64 ((tv c a.n s1).2:Int)])/\∃ od',DaK w' rb od' c rs (pt a.n s1) ((pt a.n s1).cl c) 0/\Wp V w' o od'):=fun V o h=>tickD a.n h HTB1.out.sf (cl_60 hl1 h40 (by omega));obtain ⟨u1,hu1⟩:∃ u,u=(tv c a.n s1).1:=⟨_,rfl⟩;obtain ⟨u2,hu2⟩:∃ u,u=(tv c a.n s1).2:=⟨_,rfl⟩;rw[<- hu1,<- hu2] at HTR HDR;clear hu1 hu2 HTA1;go_upto_region 20 with fail;rw[<- HW1.out];clear HW1 k0 k1 k2 k3 k4 k5 k6;go_wp2_with fail;refine HTR.out.mono ?_;rintro e w12 ⟨rfl,oa2,hwa2,hwp2⟩;have hyb:=HXK.out _ _ hwp2;have y0:w12.cell? ⟨wr.heap.size,0,none⟩=some (.string a.kd):=(by rw[World.cell?_of_block (w:=W1) hyb];exact x0);have y1:w12.cell? ⟨wr.heap.size,1,none⟩=some (.int .i64 a.n):=(by rw[World.cell?_of_block (w:=W1) hyb];exact x1);have y2:w12.cell? ⟨wr.heap.size,2,none⟩=some (.string a.st):=(by rw[World.cell?_of_block (w:=W1) hyb];exact x2);obtain ⟨hT2,hB2⟩:=HTB1.out.turnA HB1.out.size hwa2 hwp2;have HTB2:Hid (Tb w.heap.size w12 wb rb oa2 od c rs (pt a.n s1) s1):=hT2;have HB2:Hid (Below w.heap.size w w12):=HB1.out.trans hB2;clear hyb hT2 hB2 hwa2 hwp2;go_wp2_with fail;refine (HDR.out _ _ HTB2.out.d).mono ?_;rintro e w13 ⟨rfl,od3,hda3,hwp3⟩;obtain ⟨hT3,hB3⟩:=HTB2.out.turnD HB2.out.size hda3 hwp3;have HTB3:Hid (Tb w.heap.size w13 wb rb oa2 od3 c rs (pt a.n s1) (pt a.n s1)):=hT3;have HB3:Hid (Below w.heap.size w w13):=HB2.out.trans hB3;clear hT3 hB3 hda3 hwp3 y0 y1 y2;obtain ⟨tb,q2,cp2,d39,e2⟩:=DaK.told HTB3.out.d;obtain ⟨K,hK⟩:∃ K,K=(pt a.n s1).cl c:=⟨_,rfl⟩;have HK:Hid (K=(pt a.n s1).cl c):=hK;rw[<- hK] at e2;clear hK;go_wp2_with fail;refine (TkA.same_any u2 _).mono ?_;rintro e w14 ⟨rfl,rfl⟩;by_cases h4 : 40<K
       ·have hI4:(40:Int)<K:=(by omega);go_wp2;go_ret;exact ⟨rfl,HB3.out⟩
       ·have hI4:¬ (40:Int)<K:=(by omega);go_wp2;go_roundw
        case rel=>exact ⟨j+1,by omega,by go_num,oa2,od3,by rw[HPS.out,HPA.out];exact HTB3.out,by rw[HPS.out,HPA.out,<- HK.out];omega,HB3.out⟩
        case measure=>simp[intOf];omega
     case neg=>
      have HPA:Hid (pact c s1 a=pf c a.n a.st s1):=(by show _ = _;unfold pact;rw[if_neg hkd]);have hne:=kd_ne hkd;clear hkd;obtain ⟨W1,hW1⟩:∃ W1,W1=wr.alloc (.cells #[.string a.kd,.int .i64 a.n,.string a.st,.int .i64 a.x.p,.int .i64 a.x.s,.int .i64 a.x.t,.string a.x.g] 45):=⟨_,rfl⟩;have hn1:W1.heap[wr.heap.size]?=some (.cells #[.string a.kd,.int .i64 a.n,.string a.st,.int .i64 a.x.p,.int .i64 a.x.s,.int .i64 a.x.t,.string a.x.g] 45):=(by rw[hW1];exact Go.heap_alloc_new wr _);have hb1:Below wr.heap.size wr W1:=(by rw[hW1];exact (Below.refl _ _).alloc (Nat.le_refl _) _);have hs1:W1.heap.size=wr.heap.size+1:=(by rw[hW1];simp);have x0:W1.cell? ⟨wr.heap.size,0,none⟩=some (.string a.kd):=(by simp[World.cell?,hn1]);have x1:W1.cell? ⟨wr.heap.size,1,none⟩=some (.int .i64 a.n):=(by simp[World.cell?,hn1]);have x2:W1.cell? ⟨wr.heap.size,2,none⟩=some (.string a.st):=(by simp[World.cell?,hn1]);have HTB1:Hid (Tb w.heap.size W1 wb rb oa od c rs s1 s1):=HTB.out.below hb1;have HB1:Hid (Below w.heap.size w W1):=HBL.out.trans (hb1.mono HBL.out.size);have HTA1:Hid (TagA.Tabs W1):=HT.out.below HB1.out hsz1;have HW1:Hid (W1=wr.alloc (.cells #[.string a.kd,.int .i64 a.n,.string a.st,.int .i64 a.x.p,.int .i64 a.x.s,.int .i64 a.x.t,.string a.x.g] 45)):=hW1;have HXA:Hid (∀ w',Wp W1 w' oa oa->True):=fun _ _=>trivial;have HXK:Hid (∀ (w':World) (oa2:Nat->Nat),Wp W1 w' oa oa2->w'.heap[wr.heap.size]?=W1.heap[wr.heap.size]?):=fun w' oa2 hp=>hp.kp.block _ (by omega) (fun e=>by have:=WaAt.lim HTB.out.a _ e;omega);clear hW1 hn1 hb1 hs1 HXA;have HFR:Hid (∀ V:World,Below W1.heap.size W1 V->Calls prog 16 #[.pointer (some ⟨wb,0,none⟩),.int .i64 a.n,.string a.st] V fun e w'=>e = .returned (.tuple #[.int .i64 (fv a.n a.st s1).1,errV (fv a.n a.st s1).2])/\∃ oa',WaAt w' wb oa' c rs (pf c a.n a.st s1)/\Wp W1 w' oa oa'):=fun V hV=>(feedR a.n a.st (HTB1.out.a.below hV) (HTA1.out.below hV HTA1.out.size) HO0.out hsz HUA.out).mono (fun e w' ⟨h1,ow2,h2,h3⟩=>⟨h1,ow2,h2,(Wp.below hV oa).trans h3⟩);have HDR:Hid (∀ (V X:World) (o:Nat->Nat),Below V.heap.size V X->DaK V rb o c rs s1 (s1.cl c) 0->Calls prog 17 #[.pointer (some ⟨rb,0,none⟩),.int .i64 a.n,.string a.st] X fun e w'=>e = .returned (.tuple #[.int .i64 (fv a.n a.st s1).1,.int .i64 ((fv a.n a.st s1).2:Int)])/\∃ od',DaK w' rb od' c rs (pf c a.n a.st s1) ((pf c a.n a.st s1).cl c) 0/\Wp V w' o od'):=fun V X o hV h=>(feedD a.n a.st (h.below hV) HTB1.out.sf hsz HUA.out).mono (fun e w' ⟨h1,ow2,h2,h3⟩=>⟨h1,ow2,h2,(Wp.below hV o).trans h3⟩);obtain ⟨u1,hu1⟩:∃ u,u=(fv a.n a.st s1).1:=⟨_,rfl⟩;obtain ⟨u2,hu2⟩:∃ u,u=(fv a.n a.st s1).2:=⟨_,rfl⟩;rw[<- hu1,<- hu2] at HFR HDR;clear hu1 hu2 HTA1;go_upto_region 20 with fail
      rw[<- HW1.out];clear HW1 k0 k1 k2 k3 k4 k5 k6;go_wp2_with fail;refine (HFR.out W1 (Below.refl _ _)).mono ?_;rintro e w12 ⟨rfl,oa2,hwa2,hwp2⟩
      ·have hyb:=HXK.out _ _ hwp2;have y0:w12.cell? ⟨wr.heap.size,0,none⟩=some (.string a.kd):=(by rw[World.cell?_of_block (w:=W1) hyb];exact x0);have y1:w12.cell? ⟨wr.heap.size,1,none⟩=some (.int .i64 a.n):=(by rw[World.cell?_of_block (w:=W1) hyb];exact x1);have y2:w12.cell? ⟨wr.heap.size,2,none⟩=some (.string a.st):=(by rw[World.cell?_of_block (w:=W1) hyb];exact x2);obtain ⟨hT2,hB2⟩:=HTB1.out.turnA HB1.out.size hwa2 hwp2;have HTB2:Hid (Tb w.heap.size w12 wb rb oa2 od c rs (pf c a.n a.st s1) s1):=hT2;have HB2:Hid (Below w.heap.size w w12):=HB1.out.trans hB2;clear hyb hT2 hB2 hwa2 hwp2;go_wp2_with fail;refine (HDR.out w12 w12 _ (Below.refl _ _) HTB2.out.d).mono ?_;rintro e w13 ⟨rfl,od3,hda3,hwp3⟩
       ·obtain ⟨hT3,hB3⟩:=HTB2.out.turnD HB2.out.size hda3 hwp3;have HTB3:Hid (Tb w.heap.size w13 wb rb oa2 od3 c rs (pf c a.n a.st s1) (pf c a.n a.st s1)):=hT3;have HB3:Hid (Below w.heap.size w w13):=HB2.out.trans hB3;clear hT3 hB3 hda3 hwp3 y0 y1 y2;obtain ⟨tb,q2,cp2,d39,e2⟩:=DaK.told HTB3.out.d;obtain ⟨K,hK⟩:∃ K,K=(pf c a.n a.st s1).cl c:=⟨_,rfl⟩;have HK:Hid (K=(pf c a.n a.st s1).cl c):=hK;rw[<- hK] at e2;clear hK;go_wp2_with fail;refine (TkA.same_any u2 _).mono ?_;rintro e w14 ⟨rfl,rfl⟩;by_cases h4 : 40<K
        ·have hI4:(40:Int)<K:=(by omega);go_wp2;go_ret;exact ⟨rfl,HB3.out⟩
        ·have hI4:¬ (40:Int)<K:=(by omega);go_wp2;go_roundw
         case rel=>exact ⟨j+1,by omega,by go_num,oa2,od3,by rw[HPS.out,HPA.out];exact HTB3.out,by rw[HPS.out,HPA.out,<- HK.out];omega,HB3.out⟩
         case measure=>simp[intOf];omega
end WfA
namespace WbA
open Go.RowKit TkW WaM WaW WaB Go.Maps
open RuM (Rl)
theorem watchSays_any (x:Ci) (rs:List Rl) (q:Option Addr) (cap:Nat) (ac:List Ac) (p:Option Addr) (capA:Nat) (w:World)
  (hr:RsIn w q cap rs) (hT:TagA.Tabs w) (hA:AcsOn w.heap.size w p ac) (hAl:ac.length<=9223372036854775807) :
  Calls prog 3 #[.agg (cfw x),.slice q rs.length cap,.slice p ac.length capA] w fun e w'=>e = .returned (.bool true)/\Below w.heap.size w w':=by
 by_cases h:light ac 60/\lightR rs
 ·obtain ⟨n,hn⟩:=Fl.ex x rs;by_cases h0:n=0
  ·subst h0;exact WfA.watchSays_some x rs q cap ac p capA w hr hT hA hAl h.1 h.2 hn
  ·exact WfA.watchSays_bad x rs q cap ac p capA w hr hT hA hAl h.1 h.2 hn h0
 ·exact WfA.watchSays_none x rs q cap ac p capA w hr hT hA hAl h
end WbA
end Go.Proofs.YtmolafjalaeoaaaGreatDoor
