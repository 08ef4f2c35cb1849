/-
  WaG WaI
-/
import Derived.Test.YtmolafjalaeoaaaGreatDoorQbh
import Derived.Maps.OwnIn
set_option maxRecDepth 100000
set_option maxHeartbeats 8000000
namespace Go.Proofs.YtmolafjalaeoaaaGreatDoor
open Tryz
namespace WaB
open Go.RowKit TkW WaM WaW Go.Maps
open TkM (Sg epOf told whr)
open RuM (Rl)
theorem tabs_wp {w w':World} {ow ow':Nat->Nat} (h:TagA.Tabs w) (h0:ow 0=0) (hp:Wp w w' ow ow'):TagA.Tabs w':=by have hs:=h.size;have hb:w'.heap[0]?=w.heap[0]?:=hp.kp.block 0 (by omega) (fun e=>e h0);exact ⟨Nat.le_trans hs hp.kp.size,fun k hk=>by rw[World.cell?_of_block hb];exact h.c0 k hk,fun k hk=>by rw[World.cell?_of_block hb];exact h.c1 k hk,fun k hk=>by rw[World.cell?_of_block hb];exact h.c2 k hk,fun k hk=>by rw[World.cell?_of_block hb];exact h.c3 k hk⟩
theorem ow_wp {w w':World} {ow ow':Nat->Nat} {b:Nat} (h0:ow b=0) (hb:b<w.heap.size) (hp:Wp w w' ow ow'):ow' b=0:=by
 apply Decidable.byContradiction;intro hn;rcases hp.new b hn with h | h
 ·exact h h0
 ·omega
section
variable {w : World} {wb : Nat} {ow : Nat → Nat} {c : Cf} {rs : List Rl} {s : St} {k : Nat}
theorem WaK.lim (h:WaK w wb ow c rs s k) {b:Nat} (hb:ow b≠0):b<w.heap.size:=by obtain ⟨_,h⟩:=h.out;exact h.lim b hb
theorem To.then_below {w1 w2:World} (h:To w w1 wb ow c rs s k) (hb:Below w1.heap.size w1 w2):To w w2 wb ow c rs s k:=by obtain ⟨ow',h1,h2⟩:=h.out;exact ⟨ow',h1.below hb,h2.trans (Wp.below hb ow')⟩
theorem hear_warm (f:FrmM.Fr) (r:Nat) (q:Option Addr) (cap:Nat) (h:WaK w wb ow c rs s k) (hr:r<4) (hf:FrmM.Ok f) (h3:f.ty=3) :
  Calls prog 46 #[.pointer (some ⟨wb,0,none⟩),.pointer (some ⟨wb,r*7,none⟩),.agg #[.int .i64 f.ty,.slice q f.rs.length cap,.int .i64 f.wm]] w fun e w'=>e = .returned (.tuple #[])/\To w w' wb ow c rs (s.hear c r f) k:=by
 have hrs:f.rs = []:=hf.rs (by omega);obtain ⟨ty,frs,wm⟩:=f;simp only at hrs h3;subst h3 hrs
 have HF:Hid (∀ o,To w ((w.setCell ⟨wb,r*7+6,none⟩ (.int .i64 wm)).alloc o) wb ow c rs (s.hear c r ⟨3,[],wm⟩) k):=fun o=>by
  obtain ⟨p,h1⟩:=h.out;refine To.then_below (To.count (p:=p) h1 (fun j hj=>?_) rfl rfl ?_) ((Below.refl _ _).alloc (Nat.le_refl _) o)
  ·exact cv_warm c s p hr wm j
  ·exact h1.use
 have cw:∀ o,(w.alloc o).cell? ⟨wb,r*7+6,none⟩=some (.int .i64 (s.warm r)):=fun o=>by obtain ⟨p,h1⟩:=(h.below ((Below.refl w.heap.size w).alloc (Nat.le_refl _) o)).out;rw[h1.cell (r*7+6) (by omega)];unfold cv;rw[if_pos (by omega),show (r*7+6)%7=6 by omega,show (r*7+6)/7=r by omega];rfl
 have fw:∀ o,(w.alloc o).frozen? ⟨wb,r*7+6,none⟩=false:=fun o=>by obtain ⟨p,h1⟩:=(h.below ((Below.refl w.heap.size w).alloc (Nat.le_refl _) o)).out;exact h1.fz _
 have hlt:wb<w.heap.size:=by obtain ⟨p,h1⟩:=h.out;exact h1.lt
 clear h hf;go_enter func46,ntmps46;go_wp2;go_loopw [7,19] (fun _ i V=>i = .int .i64 0/\To w V wb ow c rs (s.hear c r ⟨3,[],wm⟩) k) (fun _ _ _=>0)
 case atStart=>exact ⟨rfl,HF.out _⟩
 case round=>obtain ⟨rfl,hto⟩:=hrel;have HTO:Hid (To w wr wb ow c rs (s.hear c r ⟨3,[],wm⟩) k):=hto;clear hto;go_wp2;go_end0;exact ⟨rfl,HTO.out⟩
theorem hear_reads (f:FrmM.Fr) (r:Nat) (q:Option Addr) (cap:Nat) (h:WaK w wb ow c rs s k) (hT:TagA.Tabs w) (h0:ow 0=0) (hk:k=s.cl c) (hr:r<4) (hf:FrmM.Ok f) (h3:f.ty≠3) (hon:FrmA.ReadsOn w q f.rs) (hap:f.rs≠[]->∀ b o,q=some ⟨b,o,none⟩->ow b=0) (hu:s.sum+f.rs.length<=6000) :
  Calls prog 46 #[.pointer (some ⟨wb,0,none⟩),.pointer (some ⟨wb,r*7,none⟩),.agg #[.int .i64 f.ty,.slice q f.rs.length cap,.int .i64 f.wm]] w fun e w'=>e = .returned (.tuple #[])/\To w w' wb ow c rs (s.hear c r f) k:=by
 have hheat:s.hear c r f=f.rs.foldl (St.read c r) s:=by unfold St.hear St.heat;rw[if_neg h3]
 rw[hheat];have hall:=hf.all;have hlen:=hf.len;obtain ⟨ty,frs,wm⟩:=f;simp only at h3 hon hap hu hall hlen ⊢;have hty:(ty == 3)=false:=by simpa using h3
 obtain ⟨n,hn⟩:∃ n,n=frs.length:=⟨_,rfl⟩;have HN:Hid (n=frs.length):=hn;rw[<- hn];have hn4:n<=4:=by omega
 have HH:Hid (WaK w wb ow c rs s k):=h;have HT:Hid (TagA.Tabs w):=hT;have HON:Hid (FrmA.ReadsOn w q frs):=hon;have HAP:Hid (frs≠[]->∀ b o,q=some ⟨b,o,none⟩->ow b=0):=hap;have HALL:Hid (∀ x ∈ frs,(0<=x.a/\x.a<=3)/\(0<=x.s/\x.s<=255)/\(0<=x.g/\x.g<=255)/\x.t.size=8):=hall;have HU:Hid (s.sum+frs.length<=6000):=hu;have HK:Hid (k=s.cl c):=hk;have HB0:Hid (∀ o,Below w.heap.size w (w.alloc o)):=fun o=>(Below.refl _ _).alloc (Nat.le_refl _) o;clear h hT hon hap hall hlen hu hn hf h3 hk hheat;go_enter func46,ntmps46;go_wp2;go_loopw [7,19] (fun _ i V=>∃ (j:Nat) (ow':Nat->Nat),j<=n/\i = .int .i64 (j:Int)/\WaK V wb ow' c rs ((frs.take j).foldl (St.read c r) s) k/\Wp w V ow ow') (fun _ i _=>n-(intOf i).toNat)
 case atStart=>exact ⟨0,ow,Nat.zero_le _,rfl,HH.out.below (HB0.out _),Wp.below (HB0.out _) ow⟩
 case round=>
  obtain ⟨j,ow',hj,rfl,hw,hwp⟩:=hrel;have HW:Hid (WaK wr wb ow' c rs ((frs.take j).foldl (St.read c r) s) k):=hw;have HWP:Hid (Wp w wr ow ow'):=hwp;clear hw hwp;by_cases hlt:j<n
  case neg=>obtain rfl:j=n:=(by omega);have hI:¬ (j:Int)<j:=(by omega);have HF:Hid (To w wr wb ow c rs (frs.foldl (St.read c r) s) k):=⟨ow',by have:=HW.out;rw[HN.out,List.take_length] at this;exact this,HWP.out⟩;go_wp2;go_end0;exact ⟨rfl,HF.out⟩
  case pos=>
   have hI:(j:Int)<n:=(by omega);have hj':j<frs.length:=(by rw[<- HN.out];exact hlt);have hne:frs≠[]:=fun e=>(by rw[e] at hj';simp at hj');obtain ⟨b,o,rfl,hb,hc⟩:=HON.out.at_ hne;have hob:=HAP.out hne b o rfl;have hbk:wr.heap[b]?=w.heap[b]?:=HWP.out.kp.block b hb (fun e=>e hob);obtain ⟨k0,k1,k2,k3⟩:=(hc j _ (List.getElem?_eq_getElem hj')).keep hbk;have hx:=HALL.out _ (List.getElem_mem hj');have HTK:Hid (frs.take (j+1)=frs.take j ++ [frs[j]]):=List.take_succ_eq_append_getElem hj';generalize frs[j]=x at *;obtain ⟨S,hS⟩:∃ S,S=(frs.take j).foldl (St.read c r) s:=⟨_,rfl⟩;have HS:Hid ((frs.take (j+1)).foldl (St.read c r) s=S.read c r x):=(by show _ = _;rw[HTK.out,List.foldl_append,hS];rfl);have HSS:Hid (S=(frs.take j).foldl (St.read c r) s):=hS;rw[<- hS] at HW;have hsum:S.sum+1<=6000:=(by have e:=reads_cnt c r (frs.take j) s;obtain ⟨e1,e2,_⟩:=reads_rest c r (frs.take j) s;rw[<- hS] at e e1 e2;have:=HU.out;have hl:(frs.take j).length=j:=(by rw[List.length_take];omega);unfold St.sum at this ⊢;rw[e,e1,e2,hl];omega);have hcl:k=S.cl c:=(by rw[HK.out];unfold St.cl;rw[hS,(reads_rest c r (frs.take j) s).2.2.1]);obtain ⟨xa,xs,xg,xt⟩:=x;simp only at k0 k1 k2 k3 hx;obtain ⟨⟨ha0,ha1⟩,hs01,hg01,ht8⟩:=hx;obtain ⟨a,rfl⟩:∃ a:Nat,xa=(a:Int):=⟨xa.toNat,by omega⟩;have ha4:a<4:=(by omega);have haI:(a:Int)<4:=(by omega);obtain ⟨Y,hY⟩:∃ Y,Y=wr.alloc (.cells #[.int .i64 (a:Int),.int .i64 xs,.int .i64 xg,.string xt] 90):=⟨_,rfl⟩;have hbY:Below wr.heap.size wr Y:=(by rw[hY];exact (Below.refl _ _).alloc (Nat.le_refl _) _);have hbx:Y.heap[wr.heap.size]?=some (.cells #[.int .i64 (a:Int),.int .i64 xs,.int .i64 xg,.string xt] 90):=(by rw[hY];exact Go.heap_alloc_new wr _);have hYs:wr.heap.size<Y.heap.size:=(by rw[hY];simp);have HWY:Hid (WaK Y wb ow' c rs S k):=HW.out.below hbY;have HTY:Hid (TagA.Tabs Y):=(tabs_wp HT.out h0 HWP.out).below hbY (tabs_wp HT.out h0 HWP.out).size;have HBX:Hid (Y.heap[wr.heap.size]?=some (.cells #[.int .i64 (a:Int),.int .i64 xs,.int .i64 xg,.string xt] 90)):=hbx;have HWPY:Hid (Wp w Y ow ow'):=HWP.out.trans (Wp.below hbY ow');have hoB:ow' wr.heap.size=0:=(by apply Decidable.byContradiction;intro hn;have:=WaK.lim HW.out hn;omega);have HSV:Hid (∀ V (ow2:Nat->Nat) (S2:St),WaK V wb ow2 c rs S2 k->V.heap[wr.heap.size]?=some (.cells #[.int .i64 (a:Int),.int .i64 xs,.int .i64 xg,.string xt] 90)->V.cell? ⟨wr.heap.size,0,none⟩=some (.int .i64 (a:Int))/\V.cell? ⟨wr.heap.size,1,none⟩=some (.int .i64 xs)/\V.cell? ⟨wr.heap.size,2,none⟩=some (.int .i64 xg)/\V.cell? ⟨wr.heap.size,3,none⟩=some (.string xt)/\V.cell? ⟨wb,r*7+2+a,none⟩=some (.int .i64 (c.pl r a))):=fun V ow2 S2 hV hb2=>by obtain ⟨p,h1⟩:=hV.out;refine ⟨by simp[World.cell?,hb2],by simp[World.cell?,hb2],by simp[World.cell?,hb2],by simp[World.cell?,hb2],?_⟩;rw[h1.cell (r*7+2+a) (by omega),cv_place c S2 p hr ha4]
   have HS0:Hid (∀ V:World,V.heap=Y.heap->V.cell? ⟨wr.heap.size,0,none⟩=some (.int .i64 (a:Int))/\V.cell? ⟨wr.heap.size,1,none⟩=some (.int .i64 xs)/\V.cell? ⟨wr.heap.size,2,none⟩=some (.int .i64 xg)/\V.cell? ⟨wr.heap.size,3,none⟩=some (.string xt)/\V.cell? ⟨wb,r*7+2+a,none⟩=some (.int .i64 (c.pl r a))):=fun V hV=>
    HSV.out V ow' S (HWY.out.move (by rw[hV];exact Nat.le_refl _) (fun b _ _=>by rw[hV])) (by rw[hV];exact HBX.out)
   have HTA:Hid (∀ V:World,V.heap=Y.heap->Calls prog 84 #[.pointer (some ⟨wb,0,none⟩),.agg #[.int .i64 (a:Int),.int .i64 xs,.int .i64 xg,.string xt],.int .i64 (c.pl r a)] V fun e w'=>e = .returned (.tuple #[])/\To V w' wb ow' c rs (S.read c r ⟨(a:Int),xs,xg,xt⟩) k):=fun V hV=>(by have hbV:Below Y.heap.size Y V\/True:=Or.inr trivial;have:=take_any (w:=V) ⟨(a:Int),xs,xg,xt⟩ r (HWY.out.move (by rw[hV];exact Nat.le_refl _) (fun b _ _=>by rw[hV])) ⟨by rw[hV];exact HTY.out.size,fun k hk=>by rw[World.cell?_of_block (w:=Y) (by rw[hV])];exact HTY.out.c0 k hk,fun k hk=>by rw[World.cell?_of_block (w:=Y) (by rw[hV])];exact HTY.out.c1 k hk,fun k hk=>by rw[World.cell?_of_block (w:=Y) (by rw[hV])];exact HTY.out.c2 k hk,fun k hk=>by rw[World.cell?_of_block (w:=Y) (by rw[hV])];exact HTY.out.c3 k hk⟩ hr hcl ⟨by simp,by simp only;omega⟩ hs01 hg01 ht8 hsum;exact this);have HSA:Hid (∀ V V':World,V.heap=Y.heap->To V V' wb ow' c rs (S.read c r ⟨(a:Int),xs,xg,xt⟩) k->V'.cell? ⟨wr.heap.size,0,none⟩=some (.int .i64 (a:Int))/\V'.cell? ⟨wr.heap.size,1,none⟩=some (.int .i64 xs)/\V'.cell? ⟨wr.heap.size,2,none⟩=some (.int .i64 xg)/\V'.cell? ⟨wr.heap.size,3,none⟩=some (.string xt)/\V'.cell? ⟨wb,r*7+2+a,none⟩=some (.int .i64 (c.pl r a))):=fun V V' hV hto=>(by obtain ⟨o2,h1,h2⟩:=hto.out;refine HSV.out V' o2 _ h1 ?_;rw[h2.kp.block wr.heap.size (by rw[hV];exact hYs) (fun e=>e hoB),hV];exact HBX.out);have HFI:Hid (∀ V V':World,V.heap=Y.heap->V.os=Y.os->V.tape=Y.tape->V.output=Y.output->To V V' wb ow' c rs (S.read c r ⟨(a:Int),xs,xg,xt⟩) k->∃ ow2,WaK V' wb ow2 c rs ((frs.take (j+1)).foldl (St.read c r) s) k/\Wp w V' ow ow2):=fun V V' hV e1 e2 e3 hto=>(by obtain ⟨o2,h1,h2⟩:=hto.out;refine ⟨o2,by rw[HS.out];exact h1,HWPY.out.trans ⟨⟨h2.kp.os.trans e1,h2.kp.tape.trans e2,h2.kp.output.trans e3,by rw[<- hV];exact h2.kp.size,fun b hb hn=>by rw[h2.kp.block b (by rw[hV];exact hb) hn,hV]⟩,fun b hb=>by rw[<- hV];exact h2.new b hb⟩⟩);clear hc hbk hS hbx hbY;go_wp2;rw[<- hY];clear hY k0 k1 k2 k3
   go_region_held3 (fun V=>V.cell? ⟨wr.heap.size,0,none⟩=some (.int .i64 (a:Int))/\V.cell? ⟨wr.heap.size,1,none⟩=some (.int .i64 xs)/\V.cell? ⟨wr.heap.size,2,none⟩=some (.int .i64 xg)/\V.cell? ⟨wr.heap.size,3,none⟩=some (.string xt)/\V.cell? ⟨wb,r*7+2+a,none⟩=some (.int .i64 (c.pl r a)))
    (first | exact HS0.out _ rfl | exact HSA.out Y.drew _ rfl hto)
    (first | (go_at_call 84;go_split_ands;refine (HTA.out Y.drew rfl).mono ?_;rintro e w4 ⟨rfl,hto⟩))
   have HTO:Hid (To Y.drew w4 wb ow' c rs (S.read c r ⟨(a:Int),xs,xg,xt⟩) k):=hto;clear hto;go_wp2;go_roundw
   case rel=>obtain ⟨o2,h1,h2⟩:=HFI.out Y.drew w4 rfl rfl rfl rfl HTO.out;exact ⟨j+1,o2,by omega,by go_num,h1,h2⟩
   case measure=>simp[intOf];omega
theorem hear_any (f:FrmM.Fr) (r:Nat) (q:Option Addr) (cap:Nat) (h:WaK w wb ow c rs s k) (hT:TagA.Tabs w) (h0:ow 0=0) (hk:k=s.cl c) (hr:r<4) (hf:FrmM.Ok f) (hon:FrmA.ReadsOn w q f.rs) (hap:f.rs≠[]->∀ b o,q=some ⟨b,o,none⟩->ow b=0) (hu:s.sum+f.rs.length<=6000) :
  Calls prog 46 #[.pointer (some ⟨wb,0,none⟩),.pointer (some ⟨wb,r*7,none⟩),.agg #[.int .i64 f.ty,.slice q f.rs.length cap,.int .i64 f.wm]] w fun e w'=>e = .returned (.tuple #[])/\To w w' wb ow c rs (s.hear c r f) k:=by
 by_cases h3:f.ty=3
 ·exact hear_warm f r q cap h hr hf h3
 ·exact hear_reads f r q cap h hT h0 hk hr hf h3 hon hap hu
end
end WaB
namespace WaB
open Go.RowKit TkW WaM WaW Go.Maps TkA Go.Shelf
open TkM (Sg epOf told whr seenG)
open RuM (Rl)
structure TgI (w1 U:World) (NB:Nat) (names:List ByteArray) (v:Value):Prop where
 box:U.heap[NB]?=some (.cells #[v] 63)
 own:U.ownsRow w1.heap.size 9 1 v names.length (names.map sv)
 kp:Kp (fun b=>b=NB) w1 U
structure TgJ (w1 U:World) (NB:Nat) (names:List ByteArray):Prop where
 out:∃ v,TgI w1 U NB names v
theorem TgI.keep {w1 U U':World} {NB:Nat} {names:List ByteArray} {v:Value} (h:TgI w1 U NB names v) (hk:Kp (fun b=>b=NB) w1 U') (hb:∀ (k:Nat) (c:Array Value) (t:TypeId) (f:Nat×Nat),U.heap[k]?=some (.cells c t f)->U'.heap[k]?=U.heap[k]?):TgI w1 U' NB names v where
 box:=(hb _ _ _ _ h.box).trans h.box
 own:=own_keep h.own (fun b hb'=>by obtain ⟨c,hc⟩:=own_tag h.own hb';exact hb _ _ _ _ hc)
 kp:=hk
theorem TgJ.from_ {w1:World} {NB:Nat} {A:ByteArray->Prop}:OwnFrom w1.heap.size (fun (pre:List { x:ByteArray // A x }) U=>TgJ w1 U NB (pre.map (·.1))):=fun s U U' row hs hg hr=>by
 obtain ⟨v,h⟩:=hs.out;refine ⟨v,h.keep (h.kp.then (G:=fun b=>row=some b) ⟨hg.os,hg.tape,hg.output,hg.size,fun k hk hn=>hg.block k hk (fun e=>hn e.symm)⟩ (fun i hi e=>?_)) (fun k c t f hk=>hg.block k (Array.getElem?_eq_some_iff.1 hk).1 (fun e=>?_))⟩
 ·have:=(hr i e).1;omega
 ·obtain ⟨_,o,ho,hc⟩:=hr k e.symm;rw[hk] at ho;cases ho;cases hc
structure TP (e:Ending) (w w':World) (L:List ByteArray):Prop where
 out:∃ v,e = .returned v/\w'.ownsRow w.heap.size 9 1 v L.length (L.map sv)
 kp:Below w.heap.size w w'
section
variable {w : World} {wb : Nat}
attribute [local go_sem] Oper.semAt_some
theorem tags_of {E:List (List Sg)} {tb W need n r:Nat} {who:Nat->Nat×ByteArray×Nat} (hlt:wb<w.heap.size) (c30:w.cell? ⟨wb,30,none⟩=some (.pointer (some ⟨tb,0,none⟩))) (ht:TrAt w tb who W need n r (epOf E)) (hr9:r<=90000) :
  Calls prog 78 #[.pointer (some ⟨wb,0,none⟩)] w fun e w'=>TP e w w' (tagsL E):=by
 obtain ⟨i9,hi9,hz9,hs9,hb9⟩:=info_parts TkA.info9;obtain ⟨V0,hV0⟩:∃ V0,V0=w.alloc (.cells #[.slice none 0 0] 63):=⟨_,rfl⟩;have hb0:Below w.heap.size w V0:=by rw[hV0];exact (Below.refl _ w).alloc (Nat.le_refl _) _
 have hs0:V0.heap.size=w.heap.size+1:=by rw[hV0];simp
 have q5:V0.heap[w.heap.size]?=some (.cells #[.slice none 0 0] 63):=by rw[hV0];exact Go.heap_alloc_new w _
 have kx:∀ o:Obj,(w.alloc o).cell? ⟨wb,30,none⟩=some (.pointer (some ⟨tb,0,none⟩)):=fun o=>by rw[((Below.refl w.heap.size w).alloc (Nat.le_refl _) o).cell hlt];exact c30
 have HTG:Hid (Calls prog 112 #[.pointer (some ⟨tb,0,none⟩)] V0 fun e w'=>e = .returned (.func (.func 138) #[] #[.pointer (some ⟨V0.heap.size,0,none⟩)])/\∃ (v:Value) (ss:List (List UInt8)),w'.cell? ⟨V0.heap.size,0,none⟩=some v/\w'.ownsRow V0.heap.size 9 1 v ss.length (ss.map encStr)/\ss.length<=90000/\ss.Nodup/\(∀ g:ByteArray,g.data.toList ∈ ss↔∃ e,seenG g (epOf E e)=true)/\Below V0.heap.size V0 w'/\V0.heap.size<w'.heap.size):=TkA.tags_any (ht.below hb0) hr9;have HQ:Hid (V0.heap[w.heap.size]?=some (.cells #[.slice none 0 0] 63)):=q5;have HB0:Hid (Below w.heap.size w V0/\V0.heap.size=w.heap.size+1):=⟨hb0,hs0⟩;have hV0':=hV0;clear hV0 hb0 hs0 q5 ht hlt c30;refine (callsIn_wide (n:=3)).1 ?_;refine callsIn_of_wp_marks func78 rfl trivial ?_ rfl;refine wpIn_wide.2 ?_;simp only[ntmps78,List.size_toArray,List.length_cons,List.length_nil,Nat.reduceAdd,Nat.reduceSub,Array.replicate_succ,Array.replicate_zero,List.push_toArray,List.append_toArray,List.nil_append,List.cons_append];go_wp2_with fail;rw[<- hV0'];refine Calls.mono HTG.out ?_;rintro e' w1 ⟨rfl,v,ss,hcv,hown,hl9,hnd,hmem,hb1,hsz1⟩;obtain ⟨xs,hxs⟩:=InA.mkxs (A:=fun x=>∃ e,seenG x (epOf E e)=true) ss (fun l hl=>(hmem ⟨l.toArray⟩).1 (by simpa using hl));have hxl:xs.length=ss.length:=by rw[<- hxs];simp
 obtain ⟨pv,cv,hve,hcells⟩:=InA.own_strs hown;subst hve;obtain ⟨TB,hTB⟩:∃ TB,TB=V0.heap.size:=⟨_,rfl⟩;rw[<- hTB] at hcv hown hb1 hsz1 ⊢;have HTG1:Hid (TgOn w1 TB pv xs cv):=by refine ⟨by rw[hxl];exact hcv,fun j x hx=>?_⟩;obtain ⟨g,hp,hc⟩:=hcells j x.1.data.toList (by rw[<- hxs,List.getElem?_map,hx];rfl);exact ⟨g,hp,hc⟩
 have HOB:Hid (∀ b,(b=TB\/(∃ o,pv=some ⟨b,o,none⟩))->TB<=b/\b<w1.heap.size):=fun b hb=>by
  rcases hb with rfl | ⟨o,hp⟩
  ·exact ⟨Nat.le_refl _,hsz1⟩
  ·have hown':=hown;rw[hp] at hown';have h1:=hown'.lt b (InA.own_zero hown');omega
 have HMEM:Hid (∀ g:ByteArray,g ∈ xs.map (·.1)↔∃ e,seenG g (epOf E e)=true):=fun g=>by
  rw[<- hmem g,<- hxs];constructor
  ·intro h;obtain ⟨y,hy,rfl⟩:=List.mem_map.1 h;exact List.mem_map.2 ⟨y,hy,rfl⟩
  ·intro h;obtain ⟨y,hy,hye⟩:=List.mem_map.1 h;exact List.mem_map.2 ⟨y,hy,bytes_ext hye⟩
 have HND:Hid ((xs.map (·.1)).Nodup):=by
  show List.Nodup _;have hn2:((xs.map (·.1)).map (fun b:ByteArray=>b.data.toList)).Nodup:=by rw[List.map_map];rw[<- hxs] at hnd;exact hnd
  exact List.Pairwise.imp (fun hab e=>hab (by rw[e])) (List.pairwise_map.1 hn2)
 have HB1:Hid (Below V0.heap.size V0 w1):=by rw[<- hTB];exact hb1
 obtain ⟨NB,hNB⟩:∃ NB,NB=w.heap.size:=⟨_,rfl⟩;have HNB:Hid (NB=w.heap.size/\TB=NB+1):=⟨hNB,by rw[hTB,HB0.out.2,hNB]⟩;have hNTB:NB<TB:=by have:=HNB.out.2;omega
 have HBX:Hid (w1.heap[NB]?=some (.cells #[.slice none 0 0] 63)):=by rw[hNB];exact (HB1.out.block _ (Array.getElem?_eq_some_iff.1 HQ.out).1).trans HQ.out
 have HBW:Hid (Below w.heap.size w w1):=HB0.out.1.trans (HB1.out.mono HB0.out.1.size);have hx9:xs.length<=90000:=by omega
 clear hown hcells hnd hmem hb1 hxs hcv hV0' HTG HQ hTB kx hl9 hxl;rw[<- hNB];clear hNB;go_wp2;refine (wpIn_wide (n:=3)).1 ?_
 refine wpIn_rangeFunc_ownF rfl (by omega) (gf:=138) (lb:=#[.pointer (some ⟨TB,0,none⟩)]) rfl trivial (enters_of func138 (by kernel_rfl) rfl)
  (tseq_stops (A:=fun x=>∃ e,seenG x (epOf E e)=true) 2 (by omega) w1 TB pv cv xs (fun b=>b=TB\/(∃ o,pv=some ⟨b,o,none⟩)) (Or.inl rfl) (fun b o h=>Or.inr ⟨o,h⟩) hx9 (fun b hb=>(HOB.out b hb).2) HTG1.out) kpB_t (kpB_b (fun b hb=>(HOB.out b hb).2)) (Below.refl _ _) (fun _=>rfl)
  (fun pre U=>TgJ w1 U NB (pre.map (·.1))) (fun _ _ _=>False) ?hI (fun _ _ _ _ _ hs _ _=>hs) ?h0 ?a1 ?assign ?body ?done ?stop
 case hI=>exact TgJ.from_
 case h0=>exact ⟨.slice none 0 0,HBX.out,World.ownsRow_nil _ _ _ _,Kp.refl _ _⟩
 case assign=>intro l x U K hK;gi_wp2;exact hK
 case body=>
  rintro l pre ⟨x,hx⟩ U hJ hlen;obtain ⟨v,hI⟩:=hJ.out;have HI:Hid (TgI w1 U NB (pre.map (·.1)) v):=hI;have c1:U.cell? ⟨NB,0,none⟩=some v:=by simp[World.cell?,hI.box]
  obtain ⟨nm,hnm⟩:∃ nm,nm=pre.map (·.1):=⟨_,rfl⟩;have HNM:Hid (nm=pre.map (·.1)):=hnm;have hown:∀ o,(U.alloc o).ownsRow w1.heap.size 9 1 v nm.length (nm.map sv):=fun o=>by rw[hnm];exact own_keep hI.own (fun b hb=>Below.heap_alloc _ _ _ (own_lt hI.own hb))
  have hpl:nm.length<=90000:=by rw[hnm,List.length_map];omega
  have hUs:w1.heap.size<=U.heap.size:=hI.kp.size;clear hJ hI hnm;gi_wp2_with (gi_at_builtin;refine wpListIn_append_own _ rfl _ _ 63 rfl w1.heap.size 9 i9 (.string ⟨#[]⟩) 1 16 underlying63 hi9 hz9 hs9 hb9 rfl (by decide) _ _ _ rfl (hown _) ⟨U.heap.size,0,none⟩ 1 1 [.string x] rfl rfl ?q1 ?q2 ?q3 ?q4 ?q5 ?_)
  case q1=>
   intro j u hj;rw[addr_add]
   match j,hj with
   | 0,hj=>simp at hj;subst hj;simp
  case q2=>intro u hu;simp at hu;subst hu;rfl
  case q3=>unfold maxLen;omega
  case q4=>omega
  case q5=>simp;omega
  intro v' V5 hown5 hgrow5 hnil5;obtain ⟨g',cap',rfl⟩:=ownsRow_succ hown5;clear hnil5;have HO5:Hid (V5.ownsRow w1.heap.size 9 1 (.slice (some ⟨g',0,none⟩) (nm.length+1) cap') (nm.length+1) (nm.map sv ++ [.string x])):=hown5;have hNU:NB<U.heap.size:=(Array.getElem?_eq_some_iff.1 HI.out.box).1;have hN1:NB<w1.heap.size:=(Array.getElem?_eq_some_iff.1 HBX.out).1;have hrlt:∀ b,v.ownBlock=some b->w1.heap.size<=b/\b<U.heap.size:=fun b hb=>HI.out.own.lt b hb;have s5:=hgrow5.size;rw[World.size_alloc] at s5;have k0:∀ b,b<U.heap.size->v.ownBlock≠some b->V5.heap[b]?=U.heap[b]?:=fun b hb hn=>(hgrow5.block b (by simp;omega) (fun e=>hn e.symm)).trans (Below.heap_alloc U _ _ hb);have hNo:v.ownBlock≠some NB:=fun e=>by have:=(hrlt NB e).1;omega
  have h5:V5.heap[NB]?=some (.cells #[v] 63):=(k0 NB hNU hNo).trans HI.out.box;have c5:V5.cell? ⟨NB,0,none⟩=some v:=by simp[World.cell?,h5]
  have f5:V5.frozen? ⟨NB,0,none⟩=false:=by simp[World.frozen?,h5]
  have HPO:Hid (KeepsOthers U (V5.setCell ⟨NB,0,none⟩ (.slice (some ⟨g',0,none⟩) (nm.length+1) cap'))/\KpB (fun b=>b=TB\/(∃ o,pv=some ⟨b,o,none⟩)) U (V5.setCell ⟨NB,0,none⟩ (.slice (some ⟨g',0,none⟩) (nm.length+1) cap'))/\TgJ w1 (V5.setCell ⟨NB,0,none⟩ (.slice (some ⟨g',0,none⟩) (nm.length+1) cap')) NB ((pre ++ [(⟨x,hx⟩ : { x:ByteArray // ∃ e,seenG x (epOf E e)=true })]).map (·.1))):=by
   have k6:∀ b,b≠NB->(V5.setCell ⟨NB,0,none⟩ (.slice (some ⟨g',0,none⟩) (nm.length+1) cap')).heap[b]?=V5.heap[b]?:=fun b hb=>Below.heap_setCell _ _ _ _ hb;have s6:(V5.setCell ⟨NB,0,none⟩ (.slice (some ⟨g',0,none⟩) (nm.length+1) cap')).heap.size=V5.heap.size:=(by simp[World.setCell]);refine ⟨⟨by omega,fun b o hb ho=>?_⟩,fun b hb=>?_,⟨.slice (some ⟨g',0,none⟩) (nm.length+1) cap',?_,?_,?_⟩⟩
   ·have hlt:=(Array.getElem?_eq_some_iff.1 hb).1
    rw[k6 b (fun e=>by rw[e,HI.out.box] at hb;cases hb;cases ho),k0 b hlt (fun e=>by
     obtain ⟨c',hc'⟩:=own_tag HI.out.own e;rw[hb] at hc';cases hc';cases ho)]
    exact hb
   ·have hob:=HOB.out b hb;rw[k6 b (by omega),k0 b (by omega) (fun e=>by have:=(hrlt b e).1;omega)]
   ·simp[World.setCell,Array.getElem?_modify,h5]
   ·have hl2:((pre ++ [(⟨x,hx⟩ : { x:ByteArray // ∃ e,seenG x (epOf E e)=true })]).map (·.1)).length=nm.length+1:=(by rw[HNM.out];simp);have hm2:((pre ++ [(⟨x,hx⟩ : { x:ByteArray // ∃ e,seenG x (epOf E e)=true })]).map (·.1)).map sv=nm.map sv ++ [.string x]:=(by rw[HNM.out];simp[sv]);rw[hl2,hm2];exact own_keep HO5.out (fun b hb=>k6 b (fun e=>by have:=(HO5.out.lt b hb).1;omega))
   ·have a2:Kp (fun b=>b=NB) w1 (U.alloc (.cells #[.string x] 9)):=HI.out.kp.trans (alloc_kp _ _ _);have a3:Kp (fun b=>b=NB) w1 V5:=a2.then (G:=fun b=>v.ownBlock=some b) (grown_kp hgrow5 (fun k e=>e)) (fun i hi e=>by have:=(hrlt i e).1;omega);exact a3.trans (set_kp _ _ _ rfl)
  clear hown5 hgrow5 k0 h5 hrlt hown;gi_wp2;exact HPO.out
 case done=>
  rintro D ys U hD rfl hJ hK;obtain ⟨v,hI⟩:=hJ.out;have c5:U.cell? ⟨NB,0,none⟩=some v:=by simp[World.cell?,hI.box]
  obtain ⟨nm,hnm⟩:∃ nm:List ByteArray,nm=ys.map (·.1):=⟨_,rfl⟩;rw[<- hnm] at hI;have HNM:Hid (nm=ys.map (·.1)):=hnm;obtain ⟨ss',hss⟩:∃ ss':List (List UInt8),ss'=nm.map (fun b=>b.data.toList):=⟨_,rfl⟩;have HSS:Hid (ss'=nm.map (fun b=>b.data.toList)):=hss;have hle:nm.length=ss'.length:=by rw[hss];simp
  have hme:nm.map sv=ss'.map encStr:=by rw[hss,List.map_map];rfl
  have hl9:ss'.length<=100000:=by rw[hss,hnm];simp;omega
  have HSO:Hid (Calls prog 113 #[v] U fun e w'=>e = .returned (.tuple #[])/\w'.ownsRow w1.heap.size 9 1 v ss'.length ((ss'.mergeSort leB).map encStr)/\U.grownBy w' v.ownBlock):=sortS v ss' U w1.heap.size (by rw[<- hle,<- hme];exact hI.own) hl9;have HI:Hid (TgI w1 U NB nm v):=hI;have HKD:Hid (U.heap[D]?=some (.deferred (some []))):=hK;clear hI hJ hK hnm hss hle hme;go_wp2_with fail;refine Calls.mono HSO.out ?_;rintro e w2 ⟨rfl,ho2,hg2⟩;have hrlt:∀ b,v.ownBlock=some b->w1.heap.size<=b/\b<U.heap.size:=fun b hb=>HI.out.own.lt b hb;have hN1:NB<w1.heap.size:=(Array.getElem?_eq_some_iff.1 HBX.out).1;have hbx2:w2.heap[NB]?=some (.cells #[v] 63):=(hg2.block NB (Array.getElem?_eq_some_iff.1 HI.out.box).1 (fun e=>by have:=(hrlt NB e.symm).1;omega)).trans HI.out.box;have d5:w2.cell? ⟨NB,0,none⟩=some v:=by simp[World.cell?,hbx2]
  have hK2:w2.heap[D]?=some (.deferred (some [])):=(hg2.block D (Array.getElem?_eq_some_iff.1 HKD.out).1 (fun e=>by
   obtain ⟨c',hc'⟩:=own_tag HI.out.own e.symm;rw[HKD.out] at hc';cases hc')).trans HKD.out
  have HK2:Hid (w2.heap[D]?=some (.deferred (some []))):=hK2
  have HFF:Hid (TP (.returned v) w (w2.putObj D (.deferred none)) (tagsL E)):=by
   obtain ⟨L,hL⟩:∃ L:List ByteArray,L=(ss'.mergeSort leB).map (fun l=>⟨l.toArray⟩):=⟨_,rfl⟩;have hls:ss'.Nodup:=(by rw[HSS.out,HNM.out];have h1:=HND.out;exact List.pairwise_map.2 (List.Pairwise.imp (fun hab e=>hab (bytes_ext e)) h1));have hsn:(ss'.mergeSort leB).Nodup:=(List.mergeSort_perm ss' leB).nodup_iff.2 hls;have hsp:(ss'.mergeSort leB).Pairwise (fun a b=>leB a b=true):=List.pairwise_mergeSort (fun a b c h1 h2=>by simp[leB] at *;exact List.le_trans h1 h2) (fun a b=>by simp[leB];exact List.le_total a b) ss';have hLs:L.Pairwise (fun a b=>a.toList<b.toList):=by rw[hL];refine List.pairwise_map.2 (List.Pairwise.imp₂ (fun a b h1 h2=>?_) hsp hsn);rw[ByteArray.toList_eq,ByteArray.toList_eq];simp[leB] at h1;exact InM.lt_tri (fun h3=>h2 (List.le_antisymm h1 (List.le_of_lt h3))) (fun e=>h2 e.symm)
   have hLm:∀ g,g ∈ L↔told g E=true:=fun g=>by
    rw[told_seen,<- HMEM.out g,<- HNM.out,hL];constructor
    ·intro hg;obtain ⟨l,h1,rfl⟩:=List.mem_map.1 hg;rw[List.mem_mergeSort,HSS.out] at h1;obtain ⟨y,h2,rfl⟩:=List.mem_map.1 h1;exact h2
    ·intro hg;exact List.mem_map.2 ⟨g.data.toList,by rw[List.mem_mergeSort,HSS.out];exact List.mem_map.2 ⟨g,hg,rfl⟩,rfl⟩
   have hLe:L=tagsL E:=tagsL_is hLs hLm;rw[<- hLe];have g1:w2.grownBy (w2.putObj D (.deferred none)) (some D):=grownBy_putObj' w2 D _;have hll:L.length=ss'.length:=(by rw[hL,List.length_map,List.length_mergeSort]);have hlv:L.map sv=(ss'.mergeSort leB).map encStr:=(by rw[hL,List.map_map];rfl);have hkp:Kp (fun b=>b=NB) w1 (w2.putObj D (.deferred none)):=(HI.out.kp.then (G:=fun b=>v.ownBlock=some b) (grown_kp hg2 (fun k e=>e)) (fun i hi e=>by have:=(hrlt i e).1;omega)).then (G:=fun b=>b=D) (grown_kp g1 (fun k e=>by simpa using e.symm)) (fun i hi e=>by have e:i=D:=e;omega)
   have hNw:NB=w.heap.size:=HNB.out.1;refine ⟨⟨v,rfl,?_⟩,HBW.out.trans (hkp.below HBW.out.size (fun k hk e=>by have e:k=NB:=e;omega))⟩;rw[hll,hlv]
   refine own_base (own_keep ho2 (fun b hb=>g1.block b (own_lt ho2 hb) (fun e=>by
    obtain ⟨c',hc'⟩:=own_tag ho2 hb;have e:b=D:=(by simpa using e);rw[e,HK2.out] at hc';cases hc'))) (by have:=HBW.out.size;omega)
  clear ho2 hg2 hrlt hbx2 hK2;go_wp2;refine ⟨by simp,.inl ⟨_,_,rfl,run_takeDeferred HK2.out,?_⟩⟩;refine ⟨v,?_,HFF.out⟩;simp[results,f78,go_sem]
 case stop=>rintro D c pre U _ _ h _;exact h.elim
end
end WaB
end Go.Proofs.YtmolafjalaeoaaaGreatDoor
