/-
  WeK RefG
-/
import Derived.Test.YtmolafjalaeoaaaGreatDoorQby
set_option maxRecDepth 100000
set_option maxHeartbeats 8000000
namespace Go.Proofs.YtmolafjalaeoaaaGreatDoor
open Go.Proofs.Tryz
namespace WeA
open Go.RowKit TkW WaM WaW WeW WaB Go.Maps
open TkM (Sg epOf told whr)
open TkA (RfAt)
open RuM (Rl)
open WbA (RsIn)
def nw0 (c:Cf):Array Value:=#[.int .i64 (c.len:Int),.int .i64 (c.late:Int),.int .i64 (c.W:Int),.int .i64 (c.need:Int),.int .i64 (c.span:Int),.int .i64 (c.score:Int),.int .i64 (c.pl 0 0),.int .i64 (c.pl 0 1),.int .i64 (c.pl 0 2),.int .i64 (c.pl 0 3),.int .i64 (c.pl 1 0),.int .i64 (c.pl 1 1),.int .i64 (c.pl 1 2),.int .i64 (c.pl 1 3),.int .i64 (c.pl 2 0),.int .i64 (c.pl 2 1),.int .i64 (c.pl 2 2),.int .i64 (c.pl 2 3),.int .i64 (c.pl 3 0),.int .i64 (c.pl 3 1),.int .i64 (c.pl 3 2),.int .i64 (c.pl 3 3),
 .slice none 0 0,.string ⟨#[]⟩,.int .i64 0,.string ⟨#[]⟩,.int .i64 0,.string ⟨#[]⟩,.int .i64 0,.string ⟨#[]⟩,.int .i64 0,.int .i64 (-1),.int .i64 (-1),.int .i64 (-1),.int .i64 (-1),.int .i64 0,.int .i64 0,.int .i64 0,.slice none 0 0,.pointer none,.slice none 0 0,.int .i64 0,.int .i64 0,.int .i64 0,.int .i64 0,.int .i64 0]
section
variable {w V V' : World} {rb : Nat} {c : Cf} {rs : List Rl}
theorem rs_cells {q:Option Addr} {cap:Nat} (hr:RsIn w q cap rs) (hne:rs.length≠0):∃ ad,q=some ad/\∀ j u,(rcs rs)[j]?=some u->w.cell? (ad.add j)=some u:=by
 obtain ⟨b,o,rfl,hlt,hc⟩:=hr.on.at_ (fun e=>hne (by rw[e];rfl));refine ⟨_,rfl,fun j u hj=>?_⟩
 have hjl:j<(rcs rs).length:=by
  rcases Nat.lt_or_ge j (rcs rs).length with h | h
  ·exact h
  ·rw[List.getElem?_eq_none h] at hj;cases hj
 rw[rcs_len] at hjl;have hk:j/6<rs.length:=by omega
 have hrk:=List.getElem?_eq_getElem hk;obtain ⟨k0,k1,k2,k3,k4,k5⟩:=hc (j/6) _ hrk;have hjj:j=(j/6)*6+j%6:=by omega
 have hv:(rcs rs)[(j/6)*6+j%6]?=(rcl rs[j/6])[j%6]?:=flat_at rcl 6 (fun _=>rfl) rs (j/6) (j%6) _ hrk (by omega);rw[<- hjj,hj] at hv
 have e2:(⟨b,o,none⟩:Addr).add j=⟨b,o+(j/6)*6+j%6,none⟩:=by
  have e3:o+j/6*6+j%6=o+j:=by omega
  rw[e3];unfold Addr.add;clear hv hj hrk k0 k1 k2 k3 k4 k5 hc hjj;split
  ·rename_i h0;rw[h0];rfl
  ·rfl
 rw[e2];have hm:j%6<6:=Nat.mod_lt _ (by decide);generalize j%6=m at *
 match m,hm with
 | 0,_=>simp[rcl] at hv;rw[hv];exact k0
 | 1,_=>simp[rcl] at hv;rw[hv];exact k1
 | 2,_=>simp[rcl] at hv;rw[hv];exact k2
 | 3,_=>simp[rcl] at hv;rw[hv];exact k3
 | 4,_=>simp[rcl] at hv;rw[hv];exact k4
 | 5,_=>simp[rcl] at hv;rw[hv];exact k5
theorem newWatch_any (c:Cf) (rs:List Rl) (q:Option Addr) (cap:Nat) (w:World) (hr:RsIn w q cap rs) (h6:rs.length<=6) :
  Calls prog 13 #[.agg (cfw (Cf.ci c)),.slice q rs.length cap] w fun e w'=>∃ rb ow,e = .returned (.pointer (some ⟨rb,0,none⟩))/\DaK w' rb ow c rs St.zero 0 0/\(∀ b,ow b≠0->w.heap.size<=b)/\Below w.heap.size w w':=by
 obtain ⟨i0,hi,hz0,hz1,hz2⟩:=info_parts WaB.info32;obtain ⟨m,hm⟩:∃ m,m=rs.length:=⟨_,rfl⟩;have HM:Hid (m=rs.length):=hm;have HR:Hid (RsIn w q cap rs):=hr;have HNIL:Hid (q=none->m=0/\cap=0):=fun e=>by obtain ⟨h1,h2⟩:=hr.nil e;rw[hm,h1];exact ⟨rfl,h2⟩
 have HLEN:Hid ((rcs rs).length=m*6):=by show _ = _;rw[rcs_len,hm]
 have HONE:Hid (∀ u ∈ rcs rs,u.oneCell'=true):=rcs_one rs;have hm6:m<=6:=by omega
 have HML:Hid (m<=maxLen):=by show _<=_;unfold maxLen;omega
 have HBY:Hid (m*56<=140737488355328):=by show _<=_;omega
 have HB0:Hid (∀ o o',Below w.heap.size w ((w.alloc o).alloc o')):=fun o o'=>((Below.refl _ w).alloc (Nat.le_refl _) o).alloc (by simp) o';have HNEWS:Hid (∀ o o',m≠0->∃ ad,q=some ad/\∀ j u,(rcs rs)[j]?=some u->((w.alloc o).alloc o').cell? (ad.add j)=some u):=fun o o' hne=>rs_cells (hr.below (HB0.out o o')) (by rw[<- hm];exact hne);have HNT:Hid (∀ V:World,Calls prog 39 #[.int .i64 (c.W:Int),.int .i64 (c.need:Int)] V fun e w'=>e = .returned (.pointer (some ⟨V.heap.size+1,0,none⟩))/\w'.heap.size=V.heap.size+2/\RfAt w' (V.heap.size+1) (fun b=>V.heap.size<=b/\b<V.heap.size+2) c.W c.need 0 []/\Below V.heap.size V w'):=fun V=>TkA.newTrack_any c.W c.need V;obtain ⟨C,hC⟩:∃ C,C=cfw (Cf.ci c):=⟨_,rfl⟩;have HC:Hid (C = #[.int .i64 (c.len:Int),.int .i64 (c.late:Int),.int .i64 (c.W:Int),.int .i64 (c.need:Int),.int .i64 (c.span:Int),.int .i64 (c.score:Int),.int .i64 (c.pl 0 0),.int .i64 (c.pl 0 1),.int .i64 (c.pl 0 2),.int .i64 (c.pl 0 3),.int .i64 (c.pl 1 0),.int .i64 (c.pl 1 1),.int .i64 (c.pl 1 2),.int .i64 (c.pl 1 3),.int .i64 (c.pl 2 0),.int .i64 (c.pl 2 1),.int .i64 (c.pl 2 2),.int .i64 (c.pl 2 3),.int .i64 (c.pl 3 0),.int .i64 (c.pl 3 1),.int .i64 (c.pl 3 2),.int .i64 (c.pl 3 3)]):=hC;have HCC:Hid (C=cfw (Cf.ci c)):=hC;have hi':(prog.info? 25).map (·.size)=some C.toList.length:=by rw[hC];kernel_rfl
 have hra:(w.alloc (.cells C 25)).rangeAt w.heap.size 0 C.toList:=WbA.range_new (Go.heap_alloc_new w _);rw[<- hm,<- hC];obtain ⟨W1,hW1⟩:∃ W1,W1=(w.alloc (.cells #[.int .i64 (c.len:Int),.int .i64 (c.late:Int),.int .i64 (c.W:Int),.int .i64 (c.need:Int),.int .i64 (c.span:Int),.int .i64 (c.score:Int),.int .i64 (c.pl 0 0),.int .i64 (c.pl 0 1),.int .i64 (c.pl 0 2),.int .i64 (c.pl 0 3),.int .i64 (c.pl 1 0),.int .i64 (c.pl 1 1),.int .i64 (c.pl 1 2),.int .i64 (c.pl 1 3),.int .i64 (c.pl 2 0),.int .i64 (c.pl 2 1),.int .i64 (c.pl 2 2),.int .i64 (c.pl 2 3),.int .i64 (c.pl 3 0),.int .i64 (c.pl 3 1),.int .i64 (c.pl 3 2),.int .i64 (c.pl 3 3)] 25)).alloc (.cells #[.int .i64 (c.len:Int),.int .i64 (c.late:Int),.int .i64 (c.W:Int),.int .i64 (c.need:Int),.int .i64 (c.span:Int),.int .i64 (c.score:Int),.int .i64 (c.pl 0 0),.int .i64 (c.pl 0 1),.int .i64 (c.pl 0 2),.int .i64 (c.pl 0 3),.int .i64 (c.pl 1 0),.int .i64 (c.pl 1 1),.int .i64 (c.pl 1 2),.int .i64 (c.pl 1 3),.int .i64 (c.pl 2 0),.int .i64 (c.pl 2 1),.int .i64 (c.pl 2 2),.int .i64 (c.pl 2 3),.int .i64 (c.pl 3 0),.int .i64 (c.pl 3 1),.int .i64 (c.pl 3 2),.int .i64 (c.pl 3 3),  .slice none 0 0,.string ⟨#[]⟩,.int .i64 0,.string ⟨#[]⟩,.int .i64 0,.string ⟨#[]⟩,.int .i64 0,.string ⟨#[]⟩,.int .i64 0,.int .i64 (-1),.int .i64 (-1),.int .i64 (-1),.int .i64 (-1),.int .i64 0,.int .i64 0,.int .i64 0,.slice none 0 0,.pointer none,.slice none 0 0,.int .i64 0,.int .i64 0,.int .i64 0,.int .i64 0,.int .i64 0] 67):=⟨_,rfl⟩;have hn1:W1.heap[w.heap.size+1]?=some (.cells (nw0 c) 67):=by rw[hW1];have:=Go.heap_alloc_new (w.alloc (.cells #[.int .i64 (c.len:Int),.int .i64 (c.late:Int),.int .i64 (c.W:Int),.int .i64 (c.need:Int),.int .i64 (c.span:Int),.int .i64 (c.score:Int),.int .i64 (c.pl 0 0),.int .i64 (c.pl 0 1),.int .i64 (c.pl 0 2),.int .i64 (c.pl 0 3),.int .i64 (c.pl 1 0),.int .i64 (c.pl 1 1),.int .i64 (c.pl 1 2),.int .i64 (c.pl 1 3),.int .i64 (c.pl 2 0),.int .i64 (c.pl 2 1),.int .i64 (c.pl 2 2),.int .i64 (c.pl 2 3),.int .i64 (c.pl 3 0),.int .i64 (c.pl 3 1),.int .i64 (c.pl 3 2),.int .i64 (c.pl 3 3)] 25)) (.cells (nw0 c) 67);rw[World.size_alloc] at this;exact this
 have hn0:W1.heap[w.heap.size]?=some (.cells #[.int .i64 (c.len:Int),.int .i64 (c.late:Int),.int .i64 (c.W:Int),.int .i64 (c.need:Int),.int .i64 (c.span:Int),.int .i64 (c.score:Int),.int .i64 (c.pl 0 0),.int .i64 (c.pl 0 1),.int .i64 (c.pl 0 2),.int .i64 (c.pl 0 3),.int .i64 (c.pl 1 0),.int .i64 (c.pl 1 1),.int .i64 (c.pl 1 2),.int .i64 (c.pl 1 3),.int .i64 (c.pl 2 0),.int .i64 (c.pl 2 1),.int .i64 (c.pl 2 2),.int .i64 (c.pl 2 3),.int .i64 (c.pl 3 0),.int .i64 (c.pl 3 1),.int .i64 (c.pl 3 2),.int .i64 (c.pl 3 3)] 25):=by rw[hW1,Below.heap_alloc _ _ _ (by simp)];exact Go.heap_alloc_new w _
 have hbW1:Below w.heap.size w W1:=by rw[hW1];exact HB0.out _ _
 have hs1:W1.heap.size=w.heap.size+2:=by rw[hW1];simp
 have HNW:Hid (m≠0->∃ ad,q=some ad/\∀ j u,(rcs rs)[j]?=some u->W1.cell? (ad.add j)=some u):=fun h=>by rw[hW1];exact HNEWS.out _ _ h
 have HN1:Hid (W1.heap[w.heap.size+1]?=some (.cells (nw0 c) 67)):=hn1;have HN0:Hid (W1.heap[w.heap.size]?=some (.cells #[.int .i64 (c.len:Int),.int .i64 (c.late:Int),.int .i64 (c.W:Int),.int .i64 (c.need:Int),.int .i64 (c.span:Int),.int .i64 (c.score:Int),.int .i64 (c.pl 0 0),.int .i64 (c.pl 0 1),.int .i64 (c.pl 0 2),.int .i64 (c.pl 0 3),.int .i64 (c.pl 1 0),.int .i64 (c.pl 1 1),.int .i64 (c.pl 1 2),.int .i64 (c.pl 1 3),.int .i64 (c.pl 2 0),.int .i64 (c.pl 2 1),.int .i64 (c.pl 2 2),.int .i64 (c.pl 2 3),.int .i64 (c.pl 3 0),.int .i64 (c.pl 3 1),.int .i64 (c.pl 3 2),.int .i64 (c.pl 3 3)] 25)):=hn0;have HBW:Hid (Below w.heap.size w W1):=hbW1;have HS1:Hid (W1.heap.size=w.heap.size+2):=hs1;clear hr h6 hm hC hn1 hn0 hbW1 hs1 HNEWS HB0;go_enter func13,ntmps13;go_upto_region 2 with (refine wpList_load_mid rfl 25 (.tmp 2) rfl w.heap.size 0 rfl C.toList _ hra underlying25 rfl hi' ?_;rw[HC.out])
 rw[<- hW1];clear hW1 hra hi';have d22:W1.cell? ⟨w.heap.size+1,22,none⟩=some (.slice none 0 0):=by simp[World.cell?,HN1.out,nw0]
 go_wp2_with (at_builtin;refine WeJ.wpList_append_copy _ rfl _ _ 26 rfl 32 i0 (.agg #[.string ⟨#[]⟩,.int .i64 0,.int .i64 0,.int .i64 0,.int .i64 0,.int .i64 0]) 6 56 underlying26 hi hz0 hz1 hz2 rfl (by decide) rfl q m cap (rcs rs) rfl HNIL.out HLEN.out HNW.out HONE.out HML.out HBY.out ?_);intro rv w2 hown2 hb2
 obtain ⟨rq,rcp,hrvf⟩:∃ rq rcp,rv = .slice rq m rcp:=by
  rcases hown2.2 with ⟨h1,h0⟩ | ⟨g,cap,cur,hv,_⟩
  ·exact ⟨none,0,by rw[h1,h0]⟩
  ·exact ⟨_,_,hv⟩
 subst hrvf;have hs1:=HS1.out;have hr2:w2.heap[w.heap.size+1]?=some (.cells (nw0 c) 67):=(hb2.block _ (by omega)).trans HN1.out;have h20:w2.heap[w.heap.size]?=W1.heap[w.heap.size]?:=hb2.block _ (by omega);have HR2:Hid (w2.heap[w.heap.size+1]?=some (.cells (nw0 c) 67)):=hr2;have H20:Hid (w2.heap[w.heap.size]?=W1.heap[w.heap.size]?):=h20;have HOWN:Hid (w2.ownsRow W1.heap.size 32 6 (.slice rq m rcp) m (rcs rs)):=hown2;have HB2:Hid (Below W1.heap.size W1 w2):=hb2;have f22:w2.frozen? ⟨w.heap.size+1,22,none⟩=false:=by simp[World.frozen?,hr2]
 have e22:w2.cell? ⟨w.heap.size+1,22,none⟩=some (.slice none 0 0):=by simp[World.cell?,hr2,nw0]
 obtain ⟨W3,hW3⟩:∃ W3,W3=w2.setCell ⟨w.heap.size+1,22,none⟩ (.slice rq m rcp):=⟨_,rfl⟩;have HW3:Hid (W3=w2.setCell ⟨w.heap.size+1,22,none⟩ (.slice rq m rcp)):=hW3;clear hr2 h20 hown2 hb2 hs1 d22 hW3;go_upto_region 3 with fail;rw[<- HW3.out];have hW3:=HW3.out;have hr3:W3.heap[w.heap.size+1]?=some (.cells ((nw0 c).setIfInBounds 22 (.slice rq m rcp)) 67):=by rw[hW3];exact EqA.cells_set HR2.out 22 _
 have h30:∀ b,b≠w.heap.size+1->W3.heap[b]?=w2.heap[b]?:=fun b hb=>by rw[hW3];exact Below.heap_setCell _ _ _ _ hb
 have hs3:W3.heap.size=w2.heap.size:=by rw[hW3];simp[World.setCell]
 have hk3:W3.os=w2.os/\W3.tape=w2.tape/\W3.output=w2.output:=by rw[hW3];exact ⟨rfl,rfl,rfl⟩
 have hbx3:W3.heap[w.heap.size]?=some (.cells #[.int .i64 (c.len:Int),.int .i64 (c.late:Int),.int .i64 (c.W:Int),.int .i64 (c.need:Int),.int .i64 (c.span:Int),.int .i64 (c.score:Int),.int .i64 (c.pl 0 0),.int .i64 (c.pl 0 1),.int .i64 (c.pl 0 2),.int .i64 (c.pl 0 3),.int .i64 (c.pl 1 0),.int .i64 (c.pl 1 1),.int .i64 (c.pl 1 2),.int .i64 (c.pl 1 3),.int .i64 (c.pl 2 0),.int .i64 (c.pl 2 1),.int .i64 (c.pl 2 2),.int .i64 (c.pl 2 3),.int .i64 (c.pl 3 0),.int .i64 (c.pl 3 1),.int .i64 (c.pl 3 2),.int .i64 (c.pl 3 3)] 25):=by rw[h30 _ (by omega),H20.out];exact HN0.out
 have c0:W3.cell? ⟨w.heap.size,0,none⟩=some (.int .i64 (c.len:Int)):=by simp[World.cell?,hbx3]
 have c1:W3.cell? ⟨w.heap.size,1,none⟩=some (.int .i64 (c.late:Int)):=by simp[World.cell?,hbx3]
 have fz3:∀ i,W3.frozen? ⟨w.heap.size+1,i,none⟩=false:=fun i=>by simp[World.frozen?,hr3]
 have r35:W3.cell? ⟨w.heap.size+1,35,none⟩=some (.int .i64 0):=by simp[World.cell?,hr3,nw0]
 have r36:W3.cell? ⟨w.heap.size+1,36,none⟩=some (.int .i64 0):=by simp[World.cell?,hr3,nw0]
 have r37:W3.cell? ⟨w.heap.size+1,37,none⟩=some (.int .i64 0):=by simp[World.cell?,hr3,nw0]
 have r38:W3.cell? ⟨w.heap.size+1,38,none⟩=some (.slice none 0 0):=by simp[World.cell?,hr3,nw0]
 have HR3:Hid (W3.heap[w.heap.size+1]?=some (.cells ((nw0 c).setIfInBounds 22 (.slice rq m rcp)) 67)):=hr3;have H30:Hid (∀ b,b≠w.heap.size+1->W3.heap[b]?=w2.heap[b]?):=h30;have HS3:Hid (W3.heap.size=w2.heap.size):=hs3;have HK3:Hid (W3.os=w2.os/\W3.tape=w2.tape/\W3.output=w2.output):=hk3;have HBX3:Hid (W3.heap[w.heap.size]?=some (.cells #[.int .i64 (c.len:Int),.int .i64 (c.late:Int),.int .i64 (c.W:Int),.int .i64 (c.need:Int),.int .i64 (c.span:Int),.int .i64 (c.score:Int),.int .i64 (c.pl 0 0),.int .i64 (c.pl 0 1),.int .i64 (c.pl 0 2),.int .i64 (c.pl 0 3),.int .i64 (c.pl 1 0),.int .i64 (c.pl 1 1),.int .i64 (c.pl 1 2),.int .i64 (c.pl 1 3),.int .i64 (c.pl 2 0),.int .i64 (c.pl 2 1),.int .i64 (c.pl 2 2),.int .i64 (c.pl 2 3),.int .i64 (c.pl 3 0),.int .i64 (c.pl 3 1),.int .i64 (c.pl 3 2),.int .i64 (c.pl 3 3)] 25)):=hbx3;obtain ⟨W4,hW4⟩:∃ W4,W4=(((W3.setCell ⟨w.heap.size+1,35,none⟩ (.int .i64 (c.len:Int))).setCell ⟨w.heap.size+1,36,none⟩ (.int .i64 (c.late:Int))).setCell ⟨w.heap.size+1,37,none⟩ (.int .i64 0)).setCell ⟨w.heap.size+1,38,none⟩ (.slice none 0 0):=⟨_,rfl⟩;have HW4:Hid (W4=(((W3.setCell ⟨w.heap.size+1,35,none⟩ (.int .i64 (c.len:Int))).setCell ⟨w.heap.size+1,36,none⟩ (.int .i64 (c.late:Int))).setCell ⟨w.heap.size+1,37,none⟩ (.int .i64 0)).setCell ⟨w.heap.size+1,38,none⟩ (.slice none 0 0)):=hW4;clear hW3 hW4 hr3 h30 hs3 hk3 hbx3 f22 e22;go_upto_region 4 with fail
 rw[<- HW4.out];have hW4:=HW4.out;have hr4:W4.heap[w.heap.size+1]?=some (.cells (((((nw0 c).setIfInBounds 22 (.slice rq m rcp)).setIfInBounds 35 (.int .i64 (c.len:Int))).setIfInBounds 36 (.int .i64 (c.late:Int))).setIfInBounds 37 (.int .i64 0) |>.setIfInBounds 38 (.slice none 0 0)) 67):=by rw[hW4];exact EqA.cells_set (EqA.cells_set (EqA.cells_set (EqA.cells_set HR3.out _ _) _ _) _ _) _ _
 have h40:∀ b,b≠w.heap.size+1->W4.heap[b]?=W3.heap[b]?:=fun b hb=>by rw[hW4,Below.heap_setCell _ _ _ _ hb,Below.heap_setCell _ _ _ _ hb,Below.heap_setCell _ _ _ _ hb,Below.heap_setCell _ _ _ _ hb]
 have hs4:W4.heap.size=W3.heap.size:=by rw[hW4];simp[World.setCell]
 have hk4:W4.os=W3.os/\W4.tape=W3.tape/\W4.output=W3.output:=by rw[hW4];exact ⟨rfl,rfl,rfl⟩
 have hbx4:W4.heap[w.heap.size]?=some (.cells #[.int .i64 (c.len:Int),.int .i64 (c.late:Int),.int .i64 (c.W:Int),.int .i64 (c.need:Int),.int .i64 (c.span:Int),.int .i64 (c.score:Int),.int .i64 (c.pl 0 0),.int .i64 (c.pl 0 1),.int .i64 (c.pl 0 2),.int .i64 (c.pl 0 3),.int .i64 (c.pl 1 0),.int .i64 (c.pl 1 1),.int .i64 (c.pl 1 2),.int .i64 (c.pl 1 3),.int .i64 (c.pl 2 0),.int .i64 (c.pl 2 1),.int .i64 (c.pl 2 2),.int .i64 (c.pl 2 3),.int .i64 (c.pl 3 0),.int .i64 (c.pl 3 1),.int .i64 (c.pl 3 2),.int .i64 (c.pl 3 3)] 25):=by rw[h40 _ (by omega)];exact HBX3.out
 have c2:W4.cell? ⟨w.heap.size,2,none⟩=some (.int .i64 (c.W:Int)):=by simp[World.cell?,hbx4]
 have c3:W4.cell? ⟨w.heap.size,3,none⟩=some (.int .i64 (c.need:Int)):=by simp[World.cell?,hbx4]
 have HR4:Hid (W4.heap[w.heap.size+1]?=some (.cells (((((nw0 c).setIfInBounds 22 (.slice rq m rcp)).setIfInBounds 35 (.int .i64 (c.len:Int))).setIfInBounds 36 (.int .i64 (c.late:Int))).setIfInBounds 37 (.int .i64 0) |>.setIfInBounds 38 (.slice none 0 0)) 67)):=hr4;have H40:Hid (∀ b,b≠w.heap.size+1->W4.heap[b]?=W3.heap[b]?):=h40;have HS4:Hid (W4.heap.size=W3.heap.size):=hs4;have HK4:Hid (W4.os=W3.os/\W4.tape=W3.tape/\W4.output=W3.output):=hk4;clear hW4 hr4 h40 hs4 hk4 hbx4 c0 c1 fz3 r35 r36 r37 r38;go_wp2_with fail;refine (HNT.out _).mono ?_;rintro e w5 ⟨rfl,hs5,hrf,hb5⟩;have hsz4:w.heap.size+2<=W4.heap.size:=by have h1:=HS4.out;have h2:=HS3.out;have h3:=HB2.out.size;have h4:=HS1.out;omega
 have hr5:w5.heap[w.heap.size+1]? = _:=(hb5.block _ (by omega)).trans HR4.out;have f39:w5.frozen? ⟨w.heap.size+1,39,none⟩=false:=by simp[World.frozen?,hr5]
 have e39:∃ z,w5.cell? ⟨w.heap.size+1,39,none⟩=some z:=⟨.pointer none,by simp[World.cell?,hr5,nw0]⟩;obtain ⟨z39,e39⟩:=e39
 have HFI:Hid (DaK (w5.setCell ⟨w.heap.size+1,39,none⟩ (.pointer (some ⟨W4.heap.size+1,0,none⟩))) (w.heap.size+1) (fun b=>if b=w.heap.size+1 then 1 else if (Value.slice rq m rcp).ownBlock=some b then 2 else if W4.heap.size<=b/\b<W4.heap.size+2 then 5 else 0) c rs St.zero 0 0/\(∀ b,(if b=w.heap.size+1 then 1 else if (Value.slice rq m rcp).ownBlock=some b then 2 else if W4.heap.size<=b/\b<W4.heap.size+2 then 5 else 0)≠0->w.heap.size<=b)/\Below w.heap.size w (w5.setCell ⟨w.heap.size+1,39,none⟩ (.pointer (some ⟨W4.heap.size+1,0,none⟩)))):=by
  have q1:=HS4.out;have q2:=HS3.out;have q3:=HB2.out.size;have q4:=HS1.out;have hrv:∀ b,(Value.slice rq m rcp).ownBlock=some b->W1.heap.size<=b/\b<w2.heap.size:=fun b hb=>HOWN.out.lt b hb;have hmv:∀ b,b<w2.heap.size->b≠w.heap.size+1->(w5.setCell ⟨w.heap.size+1,39,none⟩ (.pointer (some ⟨W4.heap.size+1,0,none⟩))).heap[b]?=w2.heap[b]?:=fun b hb hne=>by rw[Below.heap_setCell _ _ _ _ hne,hb5.block b (by omega),H40.out b hne,H30.out b hne]
  have hsz:(w5.setCell ⟨w.heap.size+1,39,none⟩ (.pointer (some ⟨W4.heap.size+1,0,none⟩))).heap.size=W4.heap.size+2:=by simp[World.setCell,hs5]
  refine ⟨⟨⟨(.slice rq m rcp),.slice none 0 0,.slice none 0 0,W4.heap.size+1⟩,?_,by simp,fun b hb=>?_,?_,fun b hb=>?_,World.ownsRow_nil _ _ _ _,fun b hb=>by simp[Value.ownBlock] at hb,World.ownsRow_nil _ _ _ _,fun b hb=>by simp[Value.ownBlock] at hb,⟨fun b=>W4.heap.size<=b/\b<W4.heap.size+2,?_,fun b hb=>?_⟩⟩,fun b hb=>?_,?_⟩
  ·rw[EqA.cells_set hr5];rfl
  ·rw[hsz];by_cases h1:b=w.heap.size+1
   ·omega
   ·rw[if_neg h1] at hb;by_cases h2:(Value.slice rq m rcp).ownBlock=some b
    ·have:=hrv b h2;omega
    ·rw[if_neg h2] at hb;by_cases h3:W4.heap.size<=b/\b<W4.heap.size+2
     ·omega
     ·rw[if_neg h3] at hb;exact absurd rfl hb
  ·rw[<- HM.out];exact own_base (own_keep HOWN.out (fun b hb=>by have:=hrv b hb;exact hmv b this.2 (by omega))) (Nat.zero_le _)
  ·have:=hrv b hb;rw[if_neg (by omega),if_pos hb]
  ·rw[show Ep c St.zero 0 = [] from rfl]
   exact hrf.move (by simp[World.setCell]) (fun b hb hF=>Below.heap_setCell _ _ _ _ (by
    have h7:W4.heap.size<=b/\b<W4.heap.size+2:=hF;show b≠w.heap.size+1;omega))
  ·rw[if_neg (by omega),if_neg (fun h=>by have:=hrv b h;omega),if_pos hb]
  ·by_cases h1:b=w.heap.size+1
   ·omega
   ·rw[if_neg h1] at hb;by_cases h2:(Value.slice rq m rcp).ownBlock=some b
    ·have:=hrv b h2;omega
    ·rw[if_neg h2] at hb;by_cases h3:W4.heap.size<=b/\b<W4.heap.size+2
     ·omega
     ·rw[if_neg h3] at hb;exact absurd rfl hb
  ·refine ⟨?_,?_,?_,by rw[hsz];omega,fun b hb=>?_⟩
   ·exact hb5.os.trans (HK4.out.1.trans (HK3.out.1.trans (HB2.out.os.trans HBW.out.os)))
   ·exact hb5.tape.trans (HK4.out.2.1.trans (HK3.out.2.1.trans (HB2.out.tape.trans HBW.out.tape)))
   ·exact hb5.output.trans (HK4.out.2.2.trans (HK3.out.2.2.trans (HB2.out.output.trans HBW.out.output)))
   ·rw[hmv b (by omega) (by omega),HB2.out.block b (by omega)];exact HBW.out.block b hb
 clear hs5 hrf hb5 hr5 hsz4 c2 c3;go_wp2;go_ret;exact ⟨_,_,rfl,HFI.out⟩
end
end WeA
namespace TagA
open Go.RowKit TagM
def bitsL (X:Nat):Nat->List Bool
 | 0=>[]
 | L+1=>bitsL (X/2) L ++ [decide (X%2=1)]
theorem bitsL_len (L:Nat):∀ X,(bitsL X L).length=L:=by
 induction L with
 | zero=>intro X;rfl
 | succ L ih=>intro X;simp[bitsL,ih]
theorem bitsL_at (L:Nat):∀ (X i:Nat),i<L->(bitsL X L)[i]?=some (decide (X/2 ^ (L-1-i)%2=1)):=by
 induction L with
 | zero=>intro X i h;omega
 | succ L ih=>
  intro X i h;unfold bitsL;by_cases hi:i<L
  ·rw[List.getElem?_append_left (by rw[bitsL_len];exact hi),ih _ _ hi,Nat.div_div_eq_div_mul,<- Nat.pow_succ',show (L-1-i).succ=L+1-1-i by omega]
  ·obtain rfl:i=L:=(by omega);rw[List.getElem?_append_right (by rw[bitsL_len];exact Nat.le_refl _),bitsL_len];simp
theorem bits_step (X N m t:Nat) (ht:t<m):(X*2 ^ (t+1)+N/2 ^ (m-(t+1)))/2=X*2 ^ t+N/2 ^ (m-t)/\(X*2 ^ (t+1)+N/2 ^ (m-(t+1)))%2=N/2 ^ (m-(t+1))%2:=by
 have e:N/2 ^ (m-t)=N/2 ^ (m-(t+1))/2:=by rw[Nat.div_div_eq_div_mul,<- Nat.pow_succ,show (m-(t+1)).succ=m-t by omega]
 rw[e,Nat.pow_succ];generalize N/2 ^ (m-(t+1))=z;generalize hY:X*2 ^ t=Y;rw[show X*(2 ^ t*2)=2*Y by rw[<- hY,<- Nat.mul_assoc];omega];omega
theorem i64_and1 (a:Nat) (ha:a<16777216):bits .and .i64 (a:Int) 1=((a%2:Nat):Int):=by
 show IntKind.i64.wrap ((BitVec.ofInt 64 (a:Int) &&& BitVec.ofInt 64 ((1:Nat):Int)).toNat:Int) = _;have e1:(BitVec.ofInt 64 (a:Int)).toNat=a:=by rw[BitVec.ofInt_natCast,BitVec.toNat_ofNat];exact Nat.mod_eq_of_lt (by omega)
 have e2:(BitVec.ofInt 64 ((1:Nat):Int)).toNat=1:=by rw[BitVec.ofInt_natCast,BitVec.toNat_ofNat]
 rw[BitVec.toNat_and,e1,e2,Nat.and_one_is_mod];exact wrapI _ (by omega) (by omega)
theorem bit_val (N t:Nat) (h:N<16777216):(bits .and .i64 ((N:Int)/2 ^ t) 1 == 1)=decide (N/2 ^ t%2=1):=by
 have e:((N:Int)/2 ^ t)=((N/2 ^ t:Nat):Int):=by simp
 rw[e,i64_and1 _ (Nat.lt_of_le_of_lt (Nat.div_le_self _ _) h)];generalize N/2 ^ t%2=z;rw[Bool.eq_iff_iff];simp;omega
theorem info4:(prog.info? 4).map (fun i=>(i.zero,i.size,i.bytes))=some (some (.bool false),1,1):=by kernel_rfl
theorem bits_any (v:Value) (X L N m base:Nat) (w:World) (hown:w.ownsRow base 4 1 v L ((bitsL X L).map Value.bool)) (hb:base<=w.heap.size) (hL:L<=64) (hm:m<=24) (hN:N<2 ^ m) :
  Calls prog 64 #[v,.int .i64 N,.int .i64 m] w fun e w'=>∃ v',e = .returned v'/\w'.ownsRow base 4 1 v' (L+m) ((bitsL (X*2 ^ m+N) (L+m)).map Value.bool)/\Below base w w':=by
 have HO:Hid (w.ownsRow base 4 1 v L ((bitsL X L).map Value.bool)):=hown;have HB:Hid (base<=w.heap.size):=hb;have HN:Hid (N<2 ^ m):=hN;have hN2:N<16777216:=Nat.lt_of_lt_of_le hN (Nat.pow_le_pow_right (by omega) hm);clear hown hb hN;obtain ⟨i0,hi,hz0,hz1,hz2⟩:=info_parts info4;go_enter func64,ntmps64;go_wp2;go_loopw [0,7] (fun u i V=>∃ t:Nat,t<=m/\i = .int .i64 ((m:Int)-1-t)/\V.ownsRow base 4 1 u (L+t) ((bitsL (X*2 ^ t+N/2 ^ (m-t)) (L+t)).map Value.bool)/\Below base w V) (fun _ i _=>(intOf i+1).toNat)
 case atStart=>refine ⟨0,Nat.zero_le _,by go_num,?_,Below.refl _ _⟩;have e:N/2 ^ (m-0)=0:=Nat.div_eq_of_lt HN.out;rw[e];simpa using HO.out
 case round=>
  obtain ⟨t,ht,rfl,hown,hbl⟩:=hrel;by_cases hlt:t<m
  ·go_wp2_with (at_builtin;refine wpList_append_own _ rfl _ _ 155 rfl base 4 i0 (.bool false) 1 1 underlying155 hi hz0 hz1 hz2 rfl (by decide) _ _ _ rfl (hown.alloc _) ⟨wr.heap.size,0,none⟩ 1 1 [.bool (bits .and .i64 ((N:Int)/2 ^ (m-1-t)) 1 == 1)] rfl rfl ?c1 ?c2 ?c3 ?c4 ?c5 ?_)
   case c1=>
    intro j u hj
    match j,hj with
    | 0,hj=>simp at hj;subst hj;simp[Addr.add]
   case c2=>intro u hu;simp at hu;subst hu;rfl
   case c3=>unfold maxLen;omega
   case c4=>omega
   case c5=>have:=hbl.size;have:=HB.out;simp;omega
   ·intro v' w1 hown' hgrow _;have hR:w1.ownsRow base 4 1 v' (L+(t+1)) ((bitsL (X*2 ^ (t+1)+N/2 ^ (m-(t+1))) (L+(t+1))).map Value.bool):=(by rw[bit_val _ _ hN2,show m-1-t=m-(t+1) by omega] at hown';have e:=bits_step X N m t hlt;have e2:(bitsL (X*2 ^ (t+1)+N/2 ^ (m-(t+1))) (L+(t+1))).map Value.bool=(bitsL (X*2 ^ t+N/2 ^ (m-t)) (L+t)).map Value.bool ++ [.bool (decide (N/2 ^ (m-(t+1))%2=1))]:=(by rw[show L+(t+1)=L+t+1 by omega];rw[bitsL,e.1,e.2,List.map_append];rfl);rw[e2];exact hown');have hB':Below base w w1:=(hbl.alloc (Nat.le_trans HB.out hbl.size) _).grown hgrow (by have:=hbl.size;have:=HB.out;simp;omega) (fun k hk=>(hown.lt k hk).1);have HR:Hid _:=hR;have HB':Hid _:=hB';clear hown' hgrow hown hbl hR hB';go_wp2;go_roundw
    case rel=>exact ⟨t+1,by omega,by go_num,HR.out,HB'.out⟩
    case measure=>simp[intOf];omega
  ·obtain rfl:t=m:=(by omega);go_wp2;go_ret;refine ⟨_,rfl,?_,hbl⟩;simpa using hown
end TagA
end Go.Proofs.YtmolafjalaeoaaaGreatDoor
