/-
  WaE WaU WaV
-/
import Derived.Test.YtmolafjalaeoaaaGreatDoorQav
set_option maxRecDepth 100000
set_option maxHeartbeats 8000000
namespace Go.Proofs.YtmolafjalaeoaaaGreatDoor
open Tryz
namespace WaB
open Go.RowKit TkW WaM WaW Go.Maps
open TkM (Sg epOf told whr)
open RuM (Rl)
theorem cv_rest (c:Cf) (s:St) (p:Pt) {r:Nat} (hr:r<4):cv c s p (r*7) = .string (FrmA.str (s.rest r)):=by unfold cv;rw[if_pos (by omega),if_pos (by omega),show r*7/7=r by omega]
theorem cv_lost (c:Cf) (s:St) (p:Pt) {r:Nat} (hr:r<4):cv c s p (r*7+1) = .int .i64 (s.lost r:Int):=by unfold cv;rw[if_pos (by omega),if_neg (by omega),if_pos (by omega),show (r*7+1)/7=r by omega]
theorem cv_place (c:Cf) (s:St) (p:Pt) {r a:Nat} (hr:r<4) (ha:a<4):cv c s p (r*7+2+a) = .int .i64 (c.pl r a):=by unfold cv;rw[if_pos (by omega),if_neg (by omega),if_neg (by omega),if_neg (by omega),show (r*7+2+a)/7=r by omega,show (r*7+2+a)%7-2=a by omega]
theorem cv_line (c:Cf) (s:St) (p:Pt) {r:Nat} (hr:r<4) (R:List UInt8) (n:Nat) (j:Nat):cv c (s.line r R n) p j=if j=r*7+1 then .int .i64 (n:Int) else if j=r*7 then .string (FrmA.str R) else cv c s p j:=by
 by_cases h1:j=r*7+1
 ·rw[if_pos h1,h1,cv_lost c _ p hr];unfold St.line;simp only[upd_same]
 ·rw[if_neg h1];by_cases h2:j=r*7
  ·rw[if_pos h2,h2,cv_rest c _ p hr];unfold St.line;simp only[upd_same]
  ·rw[if_neg h2];unfold cv;by_cases h3:j<28
   ·rw[if_pos h3,if_pos h3];by_cases h4:j%7=0
    ·rw[if_pos h4,if_pos h4];unfold St.line;simp only;rw[upd_other _ _ (by omega)]
    ·rw[if_neg h4,if_neg h4];by_cases h5:j%7=1
     ·rw[if_pos h5,if_pos h5];unfold St.line;simp only;rw[upd_other _ _ (by omega)]
     ·rw[if_neg h5,if_neg h5];rfl
   ·rw[if_neg h3,if_neg h3];rfl
def layW (c:Cf) (s:St) (p:Pt) (r:Nat) (hr:r<4):FrmA.Lay:=⟨r*7,wcs c s p,116,by rw[wcs_size];omega⟩
theorem layW_obj (c:Cf) (s:St) (p:Pt) (r:Nat) (hr:r<4) (R:List UInt8) (n:Nat):(layW c s p r hr).obj (FrmA.str R) n = .cells (wcs c (s.line r R n) p) 116:=by
 unfold FrmA.Lay.obj layW;simp only;congr 1;apply Array.ext_getElem?;intro j;rw[Array.getElem?_setIfInBounds,Array.getElem?_setIfInBounds,Array.size_setIfInBounds,wcs_size];by_cases hj:j<39
 ·rw[wcs_at c (s.line r R n) p hj,wcs_at c s p hj,cv_line c s p hr R n j];by_cases h1:j=r*7+1
  ·subst h1;simp[hj]
  ·have h1':¬ r*7+1=j:=fun e=>h1 e.symm;rw[if_neg h1',if_neg h1];by_cases h2:j=r*7
   ·subst h2;simp[hj]
   ·have h2':¬ r*7=j:=fun e=>h2 e.symm;rw[if_neg h2',if_neg h2]
 ·have e1:(wcs c (s.line r R n) p)[j]?=none:=Array.getElem?_eq_none (by rw[wcs_size];omega);have e2:(wcs c s p)[j]?=none:=Array.getElem?_eq_none (by rw[wcs_size];omega);rw[e1,e2];have h1':¬ r*7+1=j:=by omega
  have h2':¬ r*7=j:=by omega
  simp[h1',h2']
theorem line_self (s:St) (r:Nat):s.line r (s.rest r) (s.lost r)=s:=by
 unfold St.line;have e1:upd s.rest r (s.rest r)=s.rest:=by funext i;unfold upd;split<;>simp_all
 have e2:upd s.lost r (s.lost r)=s.lost:=by funext i;unfold upd;split<;>simp_all
 rw[e1,e2]
theorem line_at {w:World} {wb:Nat} {c:Cf} {s:St} {p:Pt} (r:Nat) (hr:r<4) (hb:w.heap[wb]?=some (.cells (wcs c s p) 116)):FrmA.LineAt w wb (layW c s p r hr) (FrmA.str (s.rest r)) (s.lost r):=⟨by rw[layW_obj,line_self];exact hb⟩
section
variable {w : World} {wb : Nat} {ow : Nat → Nat} {c : Cf} {rs : List Rl} {s : St} {k : Nat}
theorem wrapS {z:Int} (h0 : 0<=z) (h1:z<=10000000):IntKind.i64.wrap z=z:=by simp[IntKind.wrap,IntKind.bits,IntKind.signed];omega
def dv (s:St) (n:Nat):Value:=.agg #[.int .i64 (n:Int),.int .i64 (s.bad:Int),.int .i64 (s.nowh:Int),.int .i64 (s.late:Int),.int .i64 (s.full:Int)]
def los (s:St) (i:Nat):Nat:=((List.range i).map s.lost).sum
theorem los_succ (s:St) (i:Nat):los s (i+1)=los s i+s.lost i:=by unfold los;rw[List.range_succ,List.map_append,List.sum_append];simp
theorem drops_any (h:WaK w wb ow c rs s k) :
  Calls prog 49 #[.pointer (some ⟨wb,0,none⟩)] w fun e w'=>e = .returned (dv s (los s 4))/\Below w.heap.size w w':=by
 obtain ⟨p,h⟩:=h.out;have hlt:=h.lt;have hal:∀ (o:Obj) (i:Nat),i<39->(w.alloc o).cell? ⟨wb,i,none⟩=some (cv c s p i):=fun o i hi=>by rw[((Below.refl w.heap.size w).alloc (Nat.le_refl _) o).cell h.lt];exact h.cell i hi
 have d0:∀ o,(w.alloc o).cell? ⟨wb,34,none⟩=some (.int .i64 0):=fun o=>hal o 34 (by omega);have d1:∀ o,(w.alloc o).cell? ⟨wb,35,none⟩=some (.int .i64 (s.bad:Int)):=fun o=>hal o 35 (by omega);have d2:∀ o,(w.alloc o).cell? ⟨wb,36,none⟩=some (.int .i64 (s.nowh:Int)):=fun o=>hal o 36 (by omega);have d3:∀ o,(w.alloc o).cell? ⟨wb,37,none⟩=some (.int .i64 (s.late:Int)):=fun o=>hal o 37 (by omega);have d4:∀ o,(w.alloc o).cell? ⟨wb,38,none⟩=some (.int .i64 (s.full:Int)):=fun o=>hal o 38 (by omega);have HH:Hid (Wa w wb ow c rs s k p):=h;clear hal h;go_enter func49,ntmps49;go_upto_region 3 with fail
 clear d0 d1 d2 d3 d4;have HB0:Hid (∀ o o',Below w.heap.size w ((w.alloc o).alloc o')):=fun o o'=>((Below.refl _ w).alloc (Nat.le_refl _) o).alloc (by simp) o';have HN:Hid (∀ o o',((w.alloc o).alloc o').heap[w.heap.size+1]?=some o'):=fun o o'=>by show _ = _;have:=Go.heap_alloc_new (w.alloc o) o';simpa using this
 have HN0:Hid (∀ o o',((w.alloc o).alloc o').heap[w.heap.size]?=some o):=fun o o'=>by show _ = _;rw[Below.heap_alloc _ _ _ (by simp)];exact Go.heap_alloc_new w o
 go_loopw [9] (fun i V=>∃ j:Nat,j<=4/\i = .int .i64 (j:Int)/\V.heap[w.heap.size+1]?=some (.cells #[.int .i64 (los s j:Int),.int .i64 (s.bad:Int),.int .i64 (s.nowh:Int),.int .i64 (s.late:Int),.int .i64 (s.full:Int)] 65)/\V.heap[w.heap.size]?=some (.cells #[.int .i64 0,.int .i64 0,.int .i64 0,.int .i64 0,.int .i64 0] 65)/\Below w.heap.size w V) (fun i _=>4-(intOf i).toNat)
 case atStart=>exact ⟨0,by omega,rfl,HN.out _ _,HN0.out _ _,HB0.out _ _⟩
 case round=>
  obtain ⟨j,hj,rfl,hc,hc0,hbl⟩:=hrel;have HBL:Hid (Below w.heap.size w wr):=hbl;have HC:Hid (wr.heap[w.heap.size+1]?=some (.cells #[.int .i64 (los s j:Int),.int .i64 (s.bad:Int),.int .i64 (s.nowh:Int),.int .i64 (s.late:Int),.int .i64 (s.full:Int)] 65)):=hc;have HC0:Hid (wr.heap[w.heap.size]?=some (.cells #[.int .i64 0,.int .i64 0,.int .i64 0,.int .i64 0,.int .i64 0] 65)):=hc0;have e0:wr.cell? ⟨w.heap.size+1,0,none⟩=some (.int .i64 (los s j:Int)):=by simp[World.cell?,hc]
  have ez:wr.frozen? ⟨w.heap.size+1,0,none⟩=false:=by simp[World.frozen?,hc]
  clear hc hc0 hbl;by_cases hlt:j<4
  case pos=>
   have hI:(j:Int)<4:=by omega
   have hsum:los s j+s.lost j<=6000:=by
    have h1:=HH.out.use
    have h2:los s j+s.lost j<=s.sum:=by
     unfold St.sum los
     match j,hlt with
     | 0,_=>simp;omega
     | 1,_=>simp[List.range_succ];omega
     | 2,_=>simp[List.range_succ];omega
     | 3,_=>simp[List.range_succ];omega
    omega
   have HLO:Hid (∀ V:World,V.heap=wr.heap->Calls prog 89 #[.pointer (some ⟨wb,j*7,none⟩)] V fun e w'=>e = .returned (.int .i64 (s.lost j:Int))/\w'=V):=fun V hV=>FrmA.lost_any (L:=layW c s p j hlt) wb _ _ _ (line_at j hlt (by
    rw[hV];exact (HBL.out.block wb HH.out.lt).trans HH.out.blk))
   have HWR:Hid (IntKind.i64.wrap ((los s j:Int)+(s.lost j:Int))=((los s (j+1):Nat):Int)):=(by show _ = _;rw[los_succ,wrapS (by omega) (by omega)];omega);have HF1:Hid (((wr.setCell ⟨w.heap.size+1,0,none⟩ (.int .i64 ((los s (j+1):Nat):Int))).drew).heap[w.heap.size+1]?=some (.cells #[.int .i64 (los s (j+1):Int),.int .i64 (s.bad:Int),.int .i64 (s.nowh:Int),.int .i64 (s.late:Int),.int .i64 (s.full:Int)] 65)):=(by show (wr.setCell _ _).heap[_]? = _;simp[World.setCell,Array.getElem?_modify,HC.out]);have HF2:Hid (((wr.setCell ⟨w.heap.size+1,0,none⟩ (.int .i64 ((los s (j+1):Nat):Int))).drew).heap[w.heap.size]?=some (.cells #[.int .i64 0,.int .i64 0,.int .i64 0,.int .i64 0,.int .i64 0] 65)):=(by show (wr.setCell _ _).heap[_]? = _;rw[Below.heap_setCell _ _ _ _ (by show w.heap.size≠w.heap.size+1;omega)];exact HC0.out);have HF3:Hid (Below w.heap.size w ((wr.setCell ⟨w.heap.size+1,0,none⟩ (.int .i64 ((los s (j+1):Nat):Int))).drew)):=(HBL.out.setCell (by simp) _).drew;go_wp2_with fail;go_region_with (go_at_call 89;refine (HLO.out wr.drew rfl).mono ?_;rintro e w' ⟨rfl,rfl⟩)
   all_goals
    rw[HWR.out];go_wp2;go_roundw
    case rel=>exact ⟨j+1,by omega,by go_num,HF1.out,HF2.out,HF3.out⟩
    case measure=>simp[intOf];omega
  case neg=>
   obtain rfl:j=4:=(by omega);have hI:¬ ((4:Nat):Int)<4:=(by omega);have f0:wr.cell? ⟨w.heap.size+1,1,none⟩=some (.int .i64 (s.bad:Int)):=(by simp[World.cell?,HC.out]);have f1:wr.cell? ⟨w.heap.size+1,2,none⟩=some (.int .i64 (s.nowh:Int)):=(by simp[World.cell?,HC.out]);have f2:wr.cell? ⟨w.heap.size+1,3,none⟩=some (.int .i64 (s.late:Int)):=(by simp[World.cell?,HC.out]);have f3:wr.cell? ⟨w.heap.size+1,4,none⟩=some (.int .i64 (s.full:Int)):=(by simp[World.cell?,HC.out]);have g0:wr.cell? ⟨w.heap.size,0,none⟩=some (.int .i64 0):=(by simp[World.cell?,HC0.out]);have g1:wr.cell? ⟨w.heap.size,1,none⟩=some (.int .i64 0):=(by simp[World.cell?,HC0.out]);have g2:wr.cell? ⟨w.heap.size,2,none⟩=some (.int .i64 0):=(by simp[World.cell?,HC0.out]);have g3:wr.cell? ⟨w.heap.size,3,none⟩=some (.int .i64 0):=(by simp[World.cell?,HC0.out]);have g4:wr.cell? ⟨w.heap.size,4,none⟩=some (.int .i64 0):=(by simp[World.cell?,HC0.out]);have gz:∀ i:Nat,wr.frozen? ⟨w.heap.size,i,none⟩=false:=fun i=>by simp[World.frozen?,HC0.out]
   have HB:Hid (Below w.heap.size w (((((wr.setCell ⟨w.heap.size,0,none⟩ (.int .i64 (los s 4:Int))).setCell ⟨w.heap.size,1,none⟩ (.int .i64 (s.bad:Int))).setCell ⟨w.heap.size,2,none⟩ (.int .i64 (s.nowh:Int))).setCell ⟨w.heap.size,3,none⟩ (.int .i64 (s.late:Int))).setCell ⟨w.heap.size,4,none⟩ (.int .i64 (s.full:Int)))):=
    ((((HBL.out.setCell (Nat.le_refl _) _).setCell (Nat.le_refl _) _).setCell (Nat.le_refl _) _).setCell (Nat.le_refl _) _).setCell (Nat.le_refl _) _
   go_wp2;refine bodyPost_ret (v:=dv s (los s 4)) (by simp[results,results49,go_sem,dv,g0,g1,g2,g3,g4]) rfl ⟨rfl,HB.out⟩
end
end WaB
namespace WaB
open Go.RowKit TkW WaM WaW Go.Maps
open RuM (Rl)
theorem info32:(prog.info? 32).map (fun i=>(i.zero,i.size,i.bytes))=some (some (.agg #[.string ⟨#[]⟩,.int .i64 0,.int .i64 0,.int .i64 0,.int .i64 0,.int .i64 0]),6,56):=by kernel_rfl
theorem eqR_some (a:Addr) (n cap:Nat) (w:World):(binOp BinOp.eql 26 (.slice (some a) n cap) (.slice none 0 0)).run prog w = .ok (.bool false) w:=by kernel_rfl
theorem eqR_none (w:World):(binOp BinOp.eql 26 (.slice none 0 0) (.slice none 0 0)).run prog w = .ok (.bool true) w:=by kernel_rfl
theorem RsOn.cells {w:World} {b o:Nat} {rs:List Rl} (h:RsOn w (some ⟨b,o,none⟩) rs) (j:Nat) (u:Value) (hj:(rcs rs)[j]?=some u):w.cell? ⟨b,o+j,none⟩=some u:=by
 have hl:j<rs.length*6:=by have:=(List.getElem?_eq_some_iff.1 hj).1;rw[rcs_len] at this;exact this
 obtain ⟨k,i,hk,hi,rfl⟩:∃ k i,k<rs.length/\i<6/\j=k*6+i:=⟨j/6,j%6,by omega,by omega,by omega⟩;have hr:rs[k]?=some rs[k]:=List.getElem?_eq_getElem hk;unfold rcs at hj;rw[flat_at rcl 6 (fun _=>rfl) rs k i _ hr hi] at hj;obtain ⟨b',o',hq,_,hc⟩:=h.at_ (fun e=>by rw[e] at hk;simp at hk);simp at hq;obtain ⟨rfl,rfl⟩:=hq;obtain ⟨c0,c1,c2,c3,c4,c5⟩:=hc k _ hr;rw[show o+(k*6+i)=o+k*6+i by omega]
 match i,hi,hj with
 | 0,_,hj=>simp[rcl] at hj;subst hj;exact c0
 | 1,_,hj=>simp[rcl] at hj;subst hj;exact c1
 | 2,_,hj=>simp[rcl] at hj;subst hj;exact c2
 | 3,_,hj=>simp[rcl] at hj;subst hj;exact c3
 | 4,_,hj=>simp[rcl] at hj;subst hj;exact c4
 | 5,_,hj=>simp[rcl] at hj;subst hj;exact c5
theorem addr_addo (g o j:Nat):(⟨g,o,none⟩:Addr).add j=⟨g,o+j,none⟩:=by unfold Addr.add;split<;>simp_all
theorem cloneR_any (rs:List Rl) (q:Option Addr) (cap:Nat) (w:World) (h:RsOn w q rs) (hq:q=none->rs = []/\cap=0) (hA:rs.length<=100000) :
  Calls prog 73 #[.slice q rs.length cap] w fun e w'=>∃ u,e = .returned u/\w'.ownsRow w.heap.size 32 6 u rs.length (rcs rs)/\Below w.heap.size w w':=by
 obtain ⟨i0,hi,hz0,hz1,hz2⟩:=info_parts info32;cases q with
 | none=>
  obtain ⟨rfl,rfl⟩:=hq rfl;have he:=eqR_none w;clear h hq;go_enter func73,ntmps73;go_wp2;go_ret;exact ⟨_,rfl,World.ownsRow_nil _ _ _ _,Below.refl _ _⟩
 | some a=>
  have he:=eqR_some a rs.length cap w;have HR:Hid (RsOn w (some a) rs):=h;have HM:Hid ((w.alloc (.cells #[] 32)).ownsRow w.heap.size 32 6 (.slice (some ⟨w.heap.size,0,none⟩) 0 0) 0 []):=World.ownsRow_made w #[] 0 (Nat.le_refl _) (by decide) rfl;have HL:=rcs_len rs;clear h hq;go_enter func73,ntmps73;go_wp2_with (at_builtin;refine wpList_append_own _ rfl _ _ 26 rfl w.heap.size 32 i0 (.agg #[.string ⟨#[]⟩,.int .i64 0,.int .i64 0,.int .i64 0,.int .i64 0,.int .i64 0]) 6 56 underlying26 hi hz0 hz1 hz2 rfl (by decide) _ _ _ rfl HM.out a rs.length cap (rcs rs) rfl HL ?q1 (rcs_one rs) ?q3 ?q4 ?q5 ?_)
  case q1=>intro j u hj;have hne:rs≠[]:=fun e=>(by rw[e] at hj;simp[rcs] at hj);obtain ⟨b,o,e,_,_⟩:=HR.out.at_ hne;cases e;rw[addr_addo];exact TagA.keepCell ((Below.refl w.heap.size w).alloc (Nat.le_refl _) _) (RsOn.cells HR.out j u hj)
  case q3=>unfold maxLen;omega
  case q4=>omega
  case q5=>simp
  intro v' w3 hown3 hgrow3 hnil3;have hb:Below w.heap.size w w3:=((Below.refl w.heap.size w).alloc (Nat.le_refl _) _).grown hgrow3 (by simp) (fun k hk=>by simp[Value.ownBlock] at hk;omega);have HB:Hid (Below w.heap.size w w3):=hb;have HO3:Hid (w3.ownsRow w.heap.size 32 6 v' rs.length (rcs rs)):=hown3;clear hown3 hgrow3 hnil3 hb;go_wp2;go_ret;exact ⟨_,rfl,HO3.out,HB.out⟩
theorem setCell_self {w:World} {b i:Nat} {v:Value} (h:w.cell? ⟨b,i,none⟩=some v):(w.setCell ⟨b,i,none⟩ v).heap=w.heap:=by
 apply Array.ext_getElem?;intro k;simp only[World.setCell,Array.getElem?_modify];by_cases hk:b=k
 ·subst hk;simp only[if_true];unfold World.cell? at h;cases hb:w.heap[b]? with
  | none=>rfl
  | some ob=>
   rw[hb] at h;cases ob with
   | cells c e fz=>
    simp only[Option.isSome_none,Bool.false_eq_true,if_false] at h;simp only[Option.map_some,Option.isSome_none,Bool.false_eq_true,if_false];congr 2;apply Array.ext_getElem?;intro j;rw[Array.getElem?_setIfInBounds];by_cases hj:i=j
    ·subst hj;rw[if_pos rfl,h];split
     ·rfl
     ·rename_i hlt;rw[Array.getElem?_eq_none (by omega)] at h;cases h
    ·rw[if_neg hj]
   | _=>simp at h
 ·simp[hk]
theorem apart_any (rs:List Rl) (q:Option Addr) (cap:Nat) (w:World) (h:RsOn w q rs) (hq:q=none->rs = []/\cap=0) (hA:rs.length<=6) (hsz:∀ r,r ∈ rs->r.nm.size<=100000) :
  Calls prog 37 #[.slice q rs.length cap] w fun e w'=>∃ u,e = .returned u/\w'.ownsRow w.heap.size 32 6 u rs.length (rcs rs)/\Below w.heap.size w w':=by
 have HC:Hid (Calls prog 73 #[.slice q rs.length cap] w fun e w'=>∃ u,e = .returned u/\w'.ownsRow w.heap.size 32 6 u rs.length (rcs rs)/\Below w.heap.size w w'):=cloneR_any rs q cap w h hq (by omega);have HSZ:Hid (∀ r,r ∈ rs->r.nm.size<=100000):=hsz;obtain ⟨n,hn⟩:∃ n,n=rs.length:=⟨_,rfl⟩;have HN:Hid (n=rs.length):=hn;rw[<- hn] at HC hA ⊢;clear h hq hsz hn;go_enter func37,ntmps37;go_wp2_with fail;refine Calls.mono HC.out ?_;rintro e w1 ⟨u,rfl,hown,hb1⟩
 obtain ⟨uq,uc,hu⟩:∃ uq uc,u = .slice uq n uc:=by
  rcases hown.2 with ⟨rfl,h0⟩ | ⟨g,cap,cur,hv,_⟩
  ·exact ⟨none,0,by rw[h0]⟩
  ·exact ⟨_,_,hv⟩
 subst hu;have HO1:Hid (w1.ownsRow w.heap.size 32 6 (.slice uq n uc) n (rcs rs)):=hown;have HB1:Hid (Below w.heap.size w w1):=hb1;clear hown hb1;go_wp2;go_loopw [4,5,10] (fun _ _ i V=>∃ j:Nat,j<=n/\i = .int .i64 (j:Int)/\V.ownsRow w.heap.size 32 6 (.slice uq n uc) n (rcs rs)/\Below w.heap.size w V) (fun _ _ i _=>n-(intOf i).toNat)
 case atStart=>exact ⟨0,by omega,rfl,HO1.out,HB1.out⟩
 case round=>
  obtain ⟨j,hj,rfl,hown,hbl⟩:=hrel;have HO:Hid (wr.ownsRow w.heap.size 32 6 (.slice uq n uc) n (rcs rs)):=hown;have HBL:Hid (Below w.heap.size w wr):=hbl;by_cases hlt:j<n
  case neg=>have hI:¬ (j:Int)<n:=(by omega);clear hown hbl;go_wp2;go_ret;exact ⟨_,rfl,HO.out,HBL.out⟩
  case pos=>
   have hI:(j:Int)<n:=(by omega);have hj':j<rs.length:=(by rw[<- HN.out];exact hlt);have hrj:rs[j]?=some rs[j]:=List.getElem?_eq_getElem hj';obtain ⟨g,cp',hq,hg1,hg2⟩:=hown.form (by omega);obtain ⟨rfl,-⟩:uq=some ⟨g,0,none⟩/\True:=(by simp at hq;exact ⟨hq.1,trivial⟩);have hcl:∀ i x,i<6->(rcl rs[j])[i]?=some x->wr.cell? ⟨g,j*6+i,none⟩=some x:=fun i x hi hx=>(by have:=hown.cells (g:=g) rfl (j*6+i) x (by unfold rcs;rw[flat_at rcl 6 (fun _=>rfl) rs j i _ hrj hi];exact hx);rw[addr_add] at this;exact this);have k0:=hcl 0 _ (by omega) rfl;have k1:=hcl 1 _ (by omega) rfl;have k2:=hcl 2 _ (by omega) rfl;have k3:=hcl 3 _ (by omega) rfl;have k4:=hcl 4 _ (by omega) rfl;have k5:=hcl 5 _ (by omega) rfl;rw[Nat.add_zero] at k0;have hnz:=HSZ.out _ (List.getElem_mem hj');have HFZ:Hid (∀ V:World,V.ownsRow w.heap.size 32 6 (.slice (some ⟨g,0,none⟩) n uc) n (rcs rs)->V.frozen? ⟨g,j*6,none⟩=false):=fun V hV=>(by obtain ⟨cur,hc⟩:=own_tag hV rfl;simp[World.frozen?,hc]);generalize rs[j]=r at *;obtain ⟨rn,rk,rf,rt,rw_,ri⟩:=r;simp only at k0 k1 k2 k3 k4 k5 hnz;have HBA:Hid (∀ o,Below w.heap.size w (wr.alloc o)):=fun o=>HBL.out.alloc HBL.out.size o;have HK0:Hid (wr.cell? ⟨g,j*6,none⟩=some (.string rn)):=k0;clear hcl hown hbl hrj hq;go_wp2_with fail;refine (TkA.clone_any rn _ hnz).mono ?_;rintro e w2 ⟨rfl,hb2⟩;have hbw:Below wr.heap.size wr w2:=TagA.keepBelow ((Below.refl wr.heap.size wr).alloc (Nat.le_refl _) _) hb2;have hg2':g<wr.heap.size:=own_lt HO.out rfl;have m0:w2.cell? ⟨g,j*6,none⟩=some (.string rn):=TagA.keepCell hbw HK0.out;have ho2:w2.ownsRow w.heap.size 32 6 (.slice (some ⟨g,0,none⟩) n uc) n (rcs rs):=own_keep HO.out (fun b hb=>hbw.block b (own_lt HO.out hb));have mz:=HFZ.out w2 ho2;have HSE:Hid ((w2.setCell ⟨g,j*6,none⟩ (.string rn)).ownsRow w.heap.size 32 6 (.slice (some ⟨g,0,none⟩) n uc) n (rcs rs)/\Below w.heap.size w (w2.setCell ⟨g,j*6,none⟩ (.string rn))):=(by have e:=setCell_self m0;refine ⟨own_keep ho2 (fun b _=>by rw[e]),(HBL.out.trans (hbw.mono HBL.out.size)).setCell ?_ _⟩;show w.heap.size<=g;exact (HO.out.lt g rfl).1);clear hb2 hbw ho2 k0 k1 k2 k3 k4 k5;go_wp2;go_roundw
   case rel=>exact ⟨j+1,by omega,by go_num,HSE.out.1,HSE.out.2⟩
   case measure=>simp[intOf];omega
end WaB
namespace WaB
open Go.RowKit TkW WaM WaW Go.Maps
open RuM (Rl)
def rdA (pl:Nat->Nat->Int) (j:Nat) (i:Nat):Value:=
 if i%7=0 then .string ⟨#[]⟩ else if i/7<j then (if i%7=1 then .int .i64 0 else if i%7=6 then .int .i64 (-1) else .int .i64 (pl (i/7) (i%7-2))) else .int .i64 0
def rdL (pl:Nat->Nat->Int) (j:Nat):Array Value:=#[rdA pl j 0,rdA pl j 1,rdA pl j 2,rdA pl j 3,rdA pl j 4,rdA pl j 5,rdA pl j 6,rdA pl j 7,rdA pl j 8,rdA pl j 9,rdA pl j 10,rdA pl j 11,rdA pl j 12,rdA pl j 13,rdA pl j 14,rdA pl j 15,rdA pl j 16,rdA pl j 17,rdA pl j 18,rdA pl j 19,rdA pl j 20,rdA pl j 21,rdA pl j 22,rdA pl j 23,rdA pl j 24,rdA pl j 25,rdA pl j 26,rdA pl j 27]
theorem rdL_at (pl:Nat->Nat->Int) (j i:Nat) (hi:i<28):(rdL pl j)[i]?=some (rdA pl j i):=by
 match i,hi with
 | 0,_=>rfl
 | 1,_=>rfl
 | 2,_=>rfl
 | 3,_=>rfl
 | 4,_=>rfl
 | 5,_=>rfl
 | 6,_=>rfl
 | 7,_=>rfl
 | 8,_=>rfl
 | 9,_=>rfl
 | 10,_=>rfl
 | 11,_=>rfl
 | 12,_=>rfl
 | 13,_=>rfl
 | 14,_=>rfl
 | 15,_=>rfl
 | 16,_=>rfl
 | 17,_=>rfl
 | 18,_=>rfl
 | 19,_=>rfl
 | 20,_=>rfl
 | 21,_=>rfl
 | 22,_=>rfl
 | 23,_=>rfl
 | 24,_=>rfl
 | 25,_=>rfl
 | 26,_=>rfl
 | 27,_=>rfl
 | i+28,h=>exact absurd h (by omega)
theorem set_block {w:World} {b i:Nat} {v:Value} {c:Array Value} {t:TypeId} (h:w.heap[b]?=some (.cells c t)):(w.setCell ⟨b,i,none⟩ v).heap[b]?=some (.cells (c.setIfInBounds i v) t):=by simp only[World.setCell,Array.getElem?_modify,h,if_true,Option.map_some,Option.isSome_none,Bool.false_eq_true,if_false]
theorem rdL_next (pl:Nat->Nat->Int) (j:Nat) (hj:j<4):(((((((rdL pl j).setIfInBounds (j*7) (.string ⟨#[]⟩)).setIfInBounds (j*7+1) (.int .i64 0)).setIfInBounds (j*7+2) (.int .i64 (pl j 0))).setIfInBounds (j*7+3) (.int .i64 (pl j 1))).setIfInBounds (j*7+4) (.int .i64 (pl j 2))).setIfInBounds (j*7+5) (.int .i64 (pl j 3))).setIfInBounds (j*7+6) (.int .i64 (-1))=rdL pl (j+1):=by
 match j,hj with
 | 0,_=>simp[rdL,rdA]
 | 1,_=>simp[rdL,rdA]
 | 2,_=>simp[rdL,rdA]
 | 3,_=>simp[rdL,rdA]
theorem readersAt_any (pl:Nat->Nat->Int) (w:World) :
  Calls prog 36 #[.agg (plw pl)] w fun e w'=>e = .returned (.agg (rdL pl 4))/\Below w.heap.size w w':=by
 have HB3:Hid (∀ o o' o'',Below w.heap.size w (((w.alloc o).alloc o').alloc o'')):=fun o o' o''=>(((Below.refl _ w).alloc (Nat.le_refl _) o).alloc (by simp) o').alloc (by simp;omega) o'';have HN2:Hid (∀ o o' o'',(((w.alloc o).alloc o').alloc o'').heap[w.heap.size+1+1]?=some o''):=fun o o' o''=>by show _ = _;have:=Go.heap_alloc_new ((w.alloc o).alloc o') o'';rw[World.size_alloc,World.size_alloc] at this;exact this
 have HN1:Hid (∀ o o' o'',(((w.alloc o).alloc o').alloc o'').heap[w.heap.size+1]?=some o'):=fun o o' o''=>by show _ = _;rw[Below.heap_alloc _ _ _ (by simp)];have:=Go.heap_alloc_new (w.alloc o) o';rw[World.size_alloc] at this;exact this
 go_enter func36,ntmps36;unfold plw;go_upto_region 3 with fail
 go_loopw [4,5,7] (fun _ _ i V=>∃ j:Nat,j<=4/\i = .int .i64 (j:Int)/\V.heap[w.heap.size+1+1]?=some (.cells (rdL pl j) 111)/\V.heap[w.heap.size+1]?=some (.cells (rdL pl 0) 111)/\Below w.heap.size w V) (fun _ _ i _=>4-(intOf i).toNat)
 case atStart=>exact ⟨0,by omega,rfl,HN2.out _ _ _,HN1.out _ _ _,HB3.out _ _ _⟩
 case round=>
  obtain ⟨j,hj,rfl,hb2,hb1,hbl⟩:=hrel;have H2:Hid (wr.heap[w.heap.size+1+1]?=some (.cells (rdL pl j) 111)):=hb2;have H1:Hid (wr.heap[w.heap.size+1]?=some (.cells (rdL pl 0) 111)):=hb1;have HBL:Hid (Below w.heap.size w wr):=hbl;clear hb2 hb1 hbl;by_cases hlt:j<4
  case pos=>
   have hI:(j:Int)<4:=(by omega);have hB2:w.heap.size+1+1<wr.heap.size:=(Array.getElem?_eq_some_iff.1 H2.out).1;have hcl:∀ i:Nat,i<28->wr.cell? ⟨w.heap.size+1+1,i,none⟩=some (rdA pl j i):=fun i hi=>(by simp only[World.cell?,H2.out,Option.isSome_none,Bool.false_eq_true,if_false];exact rdL_at pl j i hi);have qz:∀ i:Nat,wr.frozen? ⟨w.heap.size+1+1,i,none⟩=false:=fun i=>by simp[World.frozen?,H2.out]
   have HST:Hid (∀ o,((((((((wr.setCell ⟨w.heap.size+1+1,j*7,none⟩ (.string ⟨#[]⟩)).setCell ⟨w.heap.size+1+1,j*7+1,none⟩ (.int .i64 0)).setCell ⟨w.heap.size+1+1,j*7+2,none⟩ (.int .i64 (pl j 0))).setCell ⟨w.heap.size+1+1,j*7+3,none⟩ (.int .i64 (pl j 1))).setCell ⟨w.heap.size+1+1,j*7+4,none⟩ (.int .i64 (pl j 2))).setCell ⟨w.heap.size+1+1,j*7+5,none⟩ (.int .i64 (pl j 3))).setCell ⟨w.heap.size+1+1,j*7+6,none⟩ (.int .i64 (-1))).alloc o).heap[w.heap.size+1+1]?=some (.cells (rdL pl (j+1)) 111)/\((((((((wr.setCell ⟨w.heap.size+1+1,j*7,none⟩ (.string ⟨#[]⟩)).setCell ⟨w.heap.size+1+1,j*7+1,none⟩ (.int .i64 0)).setCell ⟨w.heap.size+1+1,j*7+2,none⟩ (.int .i64 (pl j 0))).setCell ⟨w.heap.size+1+1,j*7+3,none⟩ (.int .i64 (pl j 1))).setCell ⟨w.heap.size+1+1,j*7+4,none⟩ (.int .i64 (pl j 2))).setCell ⟨w.heap.size+1+1,j*7+5,none⟩ (.int .i64 (pl j 3))).setCell ⟨w.heap.size+1+1,j*7+6,none⟩ (.int .i64 (-1))).alloc o).heap[w.heap.size+1]?=some (.cells (rdL pl 0) 111)/\Below w.heap.size w ((((((((wr.setCell ⟨w.heap.size+1+1,j*7,none⟩ (.string ⟨#[]⟩)).setCell ⟨w.heap.size+1+1,j*7+1,none⟩ (.int .i64 0)).setCell ⟨w.heap.size+1+1,j*7+2,none⟩ (.int .i64 (pl j 0))).setCell ⟨w.heap.size+1+1,j*7+3,none⟩ (.int .i64 (pl j 1))).setCell ⟨w.heap.size+1+1,j*7+4,none⟩ (.int .i64 (pl j 2))).setCell ⟨w.heap.size+1+1,j*7+5,none⟩ (.int .i64 (pl j 3))).setCell ⟨w.heap.size+1+1,j*7+6,none⟩ (.int .i64 (-1))).alloc o)):=by
    intro o;have hb:=HBL.out;have hbX:Below w.heap.size w (((((((wr.setCell ⟨w.heap.size+1+1,j*7,none⟩ (.string ⟨#[]⟩)).setCell ⟨w.heap.size+1+1,j*7+1,none⟩ (.int .i64 0)).setCell ⟨w.heap.size+1+1,j*7+2,none⟩ (.int .i64 (pl j 0))).setCell ⟨w.heap.size+1+1,j*7+3,none⟩ (.int .i64 (pl j 1))).setCell ⟨w.heap.size+1+1,j*7+4,none⟩ (.int .i64 (pl j 2))).setCell ⟨w.heap.size+1+1,j*7+5,none⟩ (.int .i64 (pl j 3))).setCell ⟨w.heap.size+1+1,j*7+6,none⟩ (.int .i64 (-1))):=((((((hb.setCell (by show w.heap.size<=w.heap.size+1+1;omega) _).setCell (by show w.heap.size<=w.heap.size+1+1;omega) _).setCell (by show w.heap.size<=w.heap.size+1+1;omega) _).setCell (by show w.heap.size<=w.heap.size+1+1;omega) _).setCell (by show w.heap.size<=w.heap.size+1+1;omega) _).setCell (by show w.heap.size<=w.heap.size+1+1;omega) _).setCell (by show w.heap.size<=w.heap.size+1+1;omega) _;have hsz:((((((((wr.setCell ⟨w.heap.size+1+1,j*7,none⟩ (.string ⟨#[]⟩)).setCell ⟨w.heap.size+1+1,j*7+1,none⟩ (.int .i64 0)).setCell ⟨w.heap.size+1+1,j*7+2,none⟩ (.int .i64 (pl j 0))).setCell ⟨w.heap.size+1+1,j*7+3,none⟩ (.int .i64 (pl j 1))).setCell ⟨w.heap.size+1+1,j*7+4,none⟩ (.int .i64 (pl j 2))).setCell ⟨w.heap.size+1+1,j*7+5,none⟩ (.int .i64 (pl j 3))).setCell ⟨w.heap.size+1+1,j*7+6,none⟩ (.int .i64 (-1)))).heap.size=wr.heap.size:=(by simp[World.setCell]);refine ⟨?_,?_,hbX.alloc hbX.size o⟩
    ·rw[Below.heap_alloc _ _ _ (by rw[hsz];exact hB2),set_block (set_block (set_block (set_block (set_block (set_block (set_block H2.out)))))),rdL_next pl j hlt]
    ·rw[Below.heap_alloc _ _ _ (by rw[hsz];omega)];rw[Below.heap_setCell _ _ _ _ (by show w.heap.size+1≠w.heap.size+1+1;omega),Below.heap_setCell _ _ _ _ (by show w.heap.size+1≠w.heap.size+1+1;omega),Below.heap_setCell _ _ _ _ (by show w.heap.size+1≠w.heap.size+1+1;omega),Below.heap_setCell _ _ _ _ (by show w.heap.size+1≠w.heap.size+1+1;omega),Below.heap_setCell _ _ _ _ (by show w.heap.size+1≠w.heap.size+1+1;omega),Below.heap_setCell _ _ _ _ (by show w.heap.size+1≠w.heap.size+1+1;omega),Below.heap_setCell _ _ _ _ (by show w.heap.size+1≠w.heap.size+1+1;omega)];exact H1.out
   rcases (show j=0\/j=1\/j=2\/j=3 by omega) with rfl | rfl | rfl | rfl
   ·have hi:=idxP0 pl;unfold plw plr at hi;have c0:=hcl 0 (by omega);have c1:=hcl 1 (by omega);have c2:=hcl 2 (by omega);have c3:=hcl 3 (by omega);have c4:=hcl 4 (by omega);have c5:=hcl 5 (by omega);have c6:=hcl 6 (by omega);clear hcl;go_wp2;go_roundw
    case rel=>exact ⟨1,by omega,rfl,(HST.out _).1,(HST.out _).2.1,(HST.out _).2.2⟩
    case measure=>simp[intOf]
   ·have hi:=idxP1 pl;unfold plw plr at hi;have c0:=hcl 7 (by omega);have c1:=hcl 8 (by omega);have c2:=hcl 9 (by omega);have c3:=hcl 10 (by omega);have c4:=hcl 11 (by omega);have c5:=hcl 12 (by omega);have c6:=hcl 13 (by omega);clear hcl;go_wp2;go_roundw
    case rel=>exact ⟨2,by omega,rfl,(HST.out _).1,(HST.out _).2.1,(HST.out _).2.2⟩
    case measure=>simp[intOf]
   ·have hi:=idxP2 pl;unfold plw plr at hi;have c0:=hcl 14 (by omega);have c1:=hcl 15 (by omega);have c2:=hcl 16 (by omega);have c3:=hcl 17 (by omega);have c4:=hcl 18 (by omega);have c5:=hcl 19 (by omega);have c6:=hcl 20 (by omega);clear hcl;go_wp2;go_roundw
    case rel=>exact ⟨3,by omega,rfl,(HST.out _).1,(HST.out _).2.1,(HST.out _).2.2⟩
    case measure=>simp[intOf]
   ·have hi:=idxP3 pl;unfold plw plr at hi;have c0:=hcl 21 (by omega);have c1:=hcl 22 (by omega);have c2:=hcl 23 (by omega);have c3:=hcl 24 (by omega);have c4:=hcl 25 (by omega);have c5:=hcl 26 (by omega);have c6:=hcl 27 (by omega);clear hcl;go_wp2;go_roundw
    case rel=>exact ⟨4,by omega,rfl,(HST.out _).1,(HST.out _).2.1,(HST.out _).2.2⟩
    case measure=>simp[intOf]
  case neg=>obtain rfl:j=4:=(by omega);have hI:¬ ((4:Nat):Int)<4:=(by omega);have hra:wr.rangeAt (w.heap.size+1+1) 0 (rdL pl 4).toList:=fun i v hv=>(by simp only[World.cell?,H2.out,Option.isSome_none,Bool.false_eq_true,if_false,Nat.zero_add];rw[<- hv,Array.getElem?_toList]);have hth:wr.there (w.heap.size+1) 0 28:=fun i hi=>(by simp only[World.cell?,World.frozen?,H1.out,Option.isSome_none,Bool.false_eq_true,if_false,Nat.zero_add];refine ⟨?_,by simp⟩;rw[rdL_at pl 0 i hi];rfl);have h1:(rdL pl 4).all (·.oneCell')=true:=(by simp[rdL,rdA,Value.oneCell']);have hsz:(rdL pl 4).size=28:=rfl;have HF:Hid (Below w.heap.size w (wr.setCells (w.heap.size+1) 0 (rdL pl 4).toList)/\(wr.setCells (w.heap.size+1) 0 (rdL pl 4).toList).rangeAt (w.heap.size+1) 0 (rdL pl 4).toList):=(by refine ⟨HBL.out.trans (TkA.setCells_below _ _ _ _ _ (Nat.le_succ _)),World.rangeAt_setCells_same wr (w.heap.size+1) 0 (rdL pl 4).toList ?_⟩;exact hth);have hlv:(loadVar 111 ⟨w.heap.size+1,0,none⟩).run prog (wr.setCells (w.heap.size+1) 0 (rdL pl 4).toList) = .ok (.agg (rdL pl 4).toList.toArray) (wr.setCells (w.heap.size+1) 0 (rdL pl 4).toList):=run_loadVar_mid _ _ _ 111 _ _ HF.out.2 underlying111 rfl (by kernel_rfl);rw[Array.toArray_toList] at hlv;have hi:(prog.info? 111).map (·.size)=some (rdL pl 4).size:=(by kernel_rfl);have hi':(prog.info? 111).map (·.size)=some (rdL pl 4).toList.length:=(by kernel_rfl);rw[<- hsz] at hth;clear hsz H1 H2 HBL;generalize hA:rdL pl 4=A at *;have HA:Hid (A=rdL pl 4):=hA.symm;clear hA;go_wp2_with (first | (refine wpList_load_mid rfl 111 (.tmp 3) rfl (w.heap.size+1+1) 0 rfl A.toList _ hra underlying111 rfl hi' ?_) | (refine wpList_store_mid rfl 111 (.tmp 2) (.tmp 16) rfl (w.heap.size+1) 0 A rfl rfl hth hi h1 ?_));refine bodyPost_ret (v:=.agg A) ?_ rfl ⟨congrArg (fun a=>Ending.returned (.agg a)) HA.out,HF.out.1⟩;exact TkA.results_mid (P:=prog) (fn:=f36) (p:=2) (ty:=111) rfl _ _ (w.heap.size+1) A rfl hlv
end WaB
end Go.Proofs.YtmolafjalaeoaaaGreatDoor
