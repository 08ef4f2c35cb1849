/-
  WaY WbA WbB EpE
-/
import Derived.Test.YtmolafjalaeoaaaGreatDoorQax
set_option maxRecDepth 100000
set_option maxHeartbeats 8000000
namespace Go.Proofs.YtmolafjalaeoaaaGreatDoor
open Tryz
namespace WaB
open Go.RowKit TkW WaM WaW Go.Maps
open RuM (Rl)
def ow0 (wb kb a0 a1 a2:Nat) (rv:Value) (b:Nat):Nat:=
 if b=wb then 1 else if b=kb then 2 else if a0<=b/\b<a0+2 then 3 else if a1<=b/\b<a1+2 then 4 else if b=a2 then 5 else if rv.ownBlock=some b then 6 else 0
theorem closedN0 (len late:Nat):EpM.closedN len late 0=0:=by unfold EpM.closedN;rw[Nat.zero_sub,Nat.zero_div]
theorem made_wa {c:Cf} {rs:List Rl} {U:World} {a0 a1 a2 kb:Nat} {rv:Value}
  (hd:EpW.DeskAt U (a0+1) (fun b=>a0<=b/\b<a0+2) c.len c.late 0 [] 0)
  (ht:TrAt U (a1+1) (TkA.who0 a1 (a1+1)) c.W c.need 0 0 (TkM.epOf []))
  (hi:InA.InAt U a2 (a1+1) (fun b=>b=a2) c.span c.score 0 (fun _ _=>⟨#[]⟩))
  (hm:U.ownsMap (H:=Value) prog 9 unitElem kb 0 (.map []))
  (hr:U.ownsRow (kb+1) 32 6 rv rs.length (rcs rs))
  (l1:a0+2<=a1) (l2:a1+2<=a2) (l3:a2<kb) (hok:c.Ok) (hn:Ck rs 0) :
  Wa (U.alloc (.cells (wcs c St.zero ⟨kb,a0+1,a1+1,a2,rv,.slice none 0 0⟩) 116)) U.heap.size (ow0 U.heap.size kb a0 a1 a2 rv) c rs St.zero 0 ⟨kb,a0+1,a1+1,a2,rv,.slice none 0 0⟩:=by
 have lk:kb<U.heap.size:=hm.lt;have hrl:∀ b,rv.ownBlock=some b->kb+1<=b/\b<U.heap.size:=fun b h=>hr.lt b h;have o1:ow0 U.heap.size kb a0 a1 a2 rv U.heap.size=1:=by unfold ow0;rw[if_pos rfl]
 have o2:ow0 U.heap.size kb a0 a1 a2 rv kb=2:=by unfold ow0;rw[if_neg (by omega),if_pos rfl]
 have o3:∀ b,ow0 U.heap.size kb a0 a1 a2 rv b=3↔a0<=b/\b<a0+2:=fun b=>by
  unfold ow0;constructor
  ·intro h;by_cases h1:b=U.heap.size
   ·simp[h1] at h
   ·by_cases h2:b=kb
    ·rw[if_neg h1,if_pos h2] at h;omega
    ·by_cases h3:a0<=b/\b<a0+2
     ·exact h3
     ·rw[if_neg h1,if_neg h2,if_neg h3] at h;split at h
      ·omega
      ·split at h
       ·omega
       ·split at h<;>omega
  ·intro h;rw[if_neg (by omega),if_neg (by omega),if_pos h]
 have o4:∀ b,a1<=b/\b<a1+2->ow0 U.heap.size kb a0 a1 a2 rv b=4:=fun b h=>by unfold ow0;rw[if_neg (by omega),if_neg (by omega),if_neg (by omega),if_pos h]
 have o5:ow0 U.heap.size kb a0 a1 a2 rv a2=5:=by unfold ow0;rw[if_neg (by omega),if_neg (by omega),if_neg (by omega),if_neg (by omega),if_pos rfl]
 have o6:∀ b,rv.ownBlock=some b->ow0 U.heap.size kb a0 a1 a2 rv b=6:=fun b h=>by have:=hrl b h;unfold ow0;rw[if_neg (by omega),if_neg (by omega),if_neg (by omega),if_neg (by omega),if_neg (by omega),if_pos h]
 have hkeep:∀ b,b<U.heap.size->∀ o,(U.alloc o).heap[b]?=U.heap[b]?:=fun b hb o=>Below.heap_alloc _ _ _ hb;have hEp:Ep c St.zero 0 = []:=rfl;have hal:alerts c rs St.zero 0 = []:=alerts_zero c rs St.zero;refine ⟨Go.heap_alloc_new U _,o1,?_,⟨0,.map [],map_keep hm (hkeep kb lk _),rfl,fun g=>rfl,rfl⟩,o2,?_,⟨TkA.who0 a1 (a1+1),?_,?_⟩,⟨fun b=>b=a2,fun _ _=>⟨#[]⟩,?_,InM.Prs.zero,fun b h=>by rw[h];exact o5⟩,?_,o6,?_,fun b h=>by simp[Value.ownBlock] at h,fun _=>rfl,hok,Ck.zero hn,by decide,Nat.zero_le _,by decide,fun x hx=>absurd hx List.not_mem_nil,by decide⟩
 ·intro b hb;rw[World.size_alloc];unfold ow0 at hb;by_cases h1:b=U.heap.size
  ·omega
  ·rw[if_neg h1] at hb;by_cases h2:b=kb
   ·omega
   ·rw[if_neg h2] at hb;by_cases h3:a0<=b/\b<a0+2
    ·omega
    ·rw[if_neg h3] at hb;by_cases h4:a1<=b/\b<a1+2
     ·omega
     ·rw[if_neg h4] at hb;by_cases h5:b=a2
      ·omega
      ·rw[if_neg h5] at hb;by_cases h6:rv.ownBlock=some b
       ·have:=hrl b h6;omega
       ·rw[if_neg h6] at hb;exact absurd rfl hb
 ·have e:(fun b=>ow0 U.heap.size kb a0 a1 a2 rv b=3)=(fun b=>a0<=b/\b<a0+2):=funext fun b=>propext (o3 b);show EpW.DeskAt _ (a0+1) (fun b=>ow0 U.heap.size kb a0 a1 a2 rv b=3) c.len c.late 0 [] (EpM.closedN c.len c.late 0);rw[e,closedN0 c.len c.late];exact hd.move (fun b hb _=>hkeep b hb _)
 ·rw[hEp];exact ht.move (by simp) (fun b hb _=>hkeep b hb _)
 ·intro b hb;refine o4 b ?_;rcases TkA.of_who0 hb with h | h<;>omega
 ·exact hi.move (by simp) (fun b hb _=>hkeep b hb _)
 ·exact own_base (own_keep hr (fun b h=>hkeep b (hrl b h).2 _)) (Nat.zero_le _)
 ·rw[hal];exact World.ownsRow_nil _ _ _ _
theorem wcs0 (c:Cf) (p:Pt):wcs c St.zero p = #[.string ⟨#[]⟩,.int .i64 0,.int .i64 (c.pl 0 0),.int .i64 (c.pl 0 1),.int .i64 (c.pl 0 2),.int .i64 (c.pl 0 3),.int .i64 (-1),.string ⟨#[]⟩,.int .i64 0,.int .i64 (c.pl 1 0),.int .i64 (c.pl 1 1),.int .i64 (c.pl 1 2),.int .i64 (c.pl 1 3),.int .i64 (-1),.string ⟨#[]⟩,.int .i64 0,.int .i64 (c.pl 2 0),.int .i64 (c.pl 2 1),.int .i64 (c.pl 2 2),.int .i64 (c.pl 2 3),.int .i64 (-1),.string ⟨#[]⟩,.int .i64 0,.int .i64 (c.pl 3 0),.int .i64 (c.pl 3 1),.int .i64 (c.pl 3 2),.int .i64 (c.pl 3 3),.int .i64 (-1),.map (some p.kb),.pointer (some ⟨p.db,0,none⟩),.pointer (some ⟨p.tb,0,none⟩),.pointer (some ⟨p.xb,0,none⟩),p.rv,p.av,.int .i64 0,.int .i64 0,.int .i64 0,.int .i64 0,.int .i64 0]:=by rfl
theorem new_ok (c:Cf) (rs:List Rl) (q:Option Addr) (cap:Nat) (w:World) (hok:c.Ok) (hn:Ck rs 0) (hr:RsOn w q rs) (hq:q=none->rs = []/\cap=0) (hc:rs.length<=cap) (hsz:∀ r,r ∈ rs->r.nm.size<=100000) :
  Calls prog 10 #[.agg (cfw (Cf.ci c)),.slice q rs.length cap] w fun e w'=>∃ wb ow,e = .returned (.tuple #[.pointer (some ⟨wb,0,none⟩),.nilIface])/\WaK w' wb ow c rs St.zero 0/\(∀ b,ow b≠0->w.heap.size<=b)/\Below w.heap.size w w':=by
 have HD:Hid (∀ V:World,Calls prog 31 #[.int .i64 (c.len:Int),.int .i64 (c.late:Int)] V fun e w'=>e = .returned (.tuple #[.pointer (some ⟨V.heap.size+1,0,none⟩),.nilIface])/\w'.heap.size=V.heap.size+2/\EpW.DeskAt w' (V.heap.size+1) (fun b=>V.heap.size<=b/\b<V.heap.size+2) c.len c.late 0 [] 0/\Below V.heap.size V w'):=fun V=>EpA.new_ok c.len c.late V hok.l0 hok.l1 hok.t1;have HT:Hid (∀ V:World,Calls prog 32 #[.int .i64 (c.W:Int),.int .i64 (c.need:Int)] V fun e w'=>e = .returned (.tuple #[.pointer (some ⟨V.heap.size+1,0,none⟩),.nilIface])/\w'.heap.size=V.heap.size+2/\TrAt w' (V.heap.size+1) (TkA.who0 V.heap.size (V.heap.size+1)) c.W c.need 0 0 (TkM.epOf [])/\Below V.heap.size V w'):=fun V=>TkA.new_ok c.W c.need V hok.w0 hok.w1 hok.n0 hok.n1;have HI:Hid (∀ (tb:Nat) (V:World),Calls prog 33 #[.pointer (some ⟨tb,0,none⟩),.int .i64 (c.span:Int),.int .i64 (c.score:Int)] V fun e w'=>e = .returned (.tuple #[.pointer (some ⟨V.heap.size,0,none⟩),.nilIface])/\w'.heap.size=V.heap.size+1/\InA.InAt w' V.heap.size tb (fun b=>b=V.heap.size) c.span c.score 0 (fun _ _=>⟨#[]⟩)/\Below V.heap.size V w'):=fun tb V=>InA.inNew_ok tb c.span c.score V hok.s0 hok.s1 hok.c0 hok.c1;have HP:Hid (∀ V:World,Calls prog 34 #[.agg (plw c.pl)] V fun e w'=>e = .returned (.bool true)/\Below V.heap.size V w'):=fun V=>arePlaces_is c.pl (b:=true) (by simp[plOk];exact hok.pl) V;have HQ:Hid (∀ V:World,Calls prog 36 #[.agg (plw c.pl)] V fun e w'=>e = .returned (.agg #[.string ⟨#[]⟩,.int .i64 0,.int .i64 (c.pl 0 0),.int .i64 (c.pl 0 1),.int .i64 (c.pl 0 2),.int .i64 (c.pl 0 3),.int .i64 (-1),.string ⟨#[]⟩,.int .i64 0,.int .i64 (c.pl 1 0),.int .i64 (c.pl 1 1),.int .i64 (c.pl 1 2),.int .i64 (c.pl 1 3),.int .i64 (-1),.string ⟨#[]⟩,.int .i64 0,.int .i64 (c.pl 2 0),.int .i64 (c.pl 2 1),.int .i64 (c.pl 2 2),.int .i64 (c.pl 2 3),.int .i64 (-1),.string ⟨#[]⟩,.int .i64 0,.int .i64 (c.pl 3 0),.int .i64 (c.pl 3 1),.int .i64 (c.pl 3 2),.int .i64 (c.pl 3 3),.int .i64 (-1)])/\Below V.heap.size V w'):=fun V=>readersAt_any c.pl V;have HR:Hid (∀ V:World,Below w.heap.size w V->Calls prog 35 #[.slice q rs.length cap] V fun e w'=>e = .returned .nilIface/\Below V.heap.size V w'):=fun V hb=>checkRules_is rs q cap hn V (hr.below hb) (fun r h=>Nat.le_trans (hsz r h) (by decide)) hc (by have:=(Ck.zero hn).1;omega);have HU:Hid (∀ V:World,Below w.heap.size w V->Calls prog 37 #[.slice q rs.length cap] V fun e w'=>∃ u,e = .returned u/\w'.ownsRow V.heap.size 32 6 u rs.length (rcs rs)/\Below V.heap.size V w'):=fun V hb=>apart_any rs q cap V (hr.below hb) hq (Ck.zero hn).1 hsz;have HB0:Hid (∀ o,Below w.heap.size w (w.alloc o)):=fun o=>(Below.refl _ _).alloc (Nat.le_refl _) o;have HCF:Hid (∀ w':World,Below (w.alloc (.cells (cfw (Cf.ci c)) 25)).heap.size (w.alloc (.cells (cfw (Cf.ci c)) 25)) w'->w'.heap[w.heap.size]?=some (.cells (cfw (Cf.ci c)) 25)):=fun w' hb=>(hb.block w.heap.size (by simp)).trans (Go.heap_alloc_new w _);unfold cfw Cf.ci;unfold plw at HP HQ;simp only;have HOK:Hid c.Ok:=hok;have HCK:Hid (Ck rs 0):=hn;obtain ⟨m,hm⟩:∃ m,m=rs.length:=⟨_,rfl⟩;have HM:Hid (m=rs.length):=hm;rw[<- hm] at HR HU ⊢;clear hm hok hn hr hq hc hsz;go_enter func10,ntmps10;go_wp2_with fail;refine (HD.out _).mono ?_;rintro e w1 ⟨rfl,hs1,hd1,hb1⟩;have HA1:Hid (Below _ _ w1):=hb1;have hcf:=HCF.out w1 HA1.out;have c2:w1.cell? ⟨w.heap.size,2,none⟩=some (.int .i64 (c.W:Int)):=cf_cell hcf 2 _ rfl;have c3:w1.cell? ⟨w.heap.size,3,none⟩=some (.int .i64 (c.need:Int)):=cf_cell hcf 3 _ rfl;have HD1:Hid _:=hd1;have HS1:Hid _:=hs1;clear hcf hb1 hd1 hs1;go_wp2_with fail;refine (HT.out _).mono ?_;rintro e w2 ⟨rfl,hs2,hd2,hb2⟩;have HA2:Hid (Below _ _ w2):=HA1.out.trans (hb2.mono HA1.out.size);have hcf:=HCF.out w2 HA2.out;have c4:w2.cell? ⟨w.heap.size,4,none⟩=some (.int .i64 (c.span:Int)):=cf_cell hcf 4 _ rfl;have c5:w2.cell? ⟨w.heap.size,5,none⟩=some (.int .i64 (c.score:Int)):=cf_cell hcf 5 _ rfl;have HD2:Hid _:=hd2;have HS2:Hid _:=hs2;have HB2:Hid _:=hb2;clear hcf hb2 c2 c3 hd2 hs2;go_wp2_with fail;refine (HI.out _ _).mono ?_;rintro e w3 ⟨rfl,hs3,hd3,hb3⟩;have HA3:Hid (Below _ _ w3):=HA2.out.trans (hb3.mono HA2.out.size);have hcf:=HCF.out w3 HA3.out;have c6:w3.cell? ⟨w.heap.size,6,none⟩=some (.int .i64 (c.pl 0 0)):=cf_cell hcf 6 _ rfl;have c7:w3.cell? ⟨w.heap.size,7,none⟩=some (.int .i64 (c.pl 0 1)):=cf_cell hcf 7 _ rfl;have c8:w3.cell? ⟨w.heap.size,8,none⟩=some (.int .i64 (c.pl 0 2)):=cf_cell hcf 8 _ rfl;have c9:w3.cell? ⟨w.heap.size,9,none⟩=some (.int .i64 (c.pl 0 3)):=cf_cell hcf 9 _ rfl;have c10:w3.cell? ⟨w.heap.size,10,none⟩=some (.int .i64 (c.pl 1 0)):=cf_cell hcf 10 _ rfl;have c11:w3.cell? ⟨w.heap.size,11,none⟩=some (.int .i64 (c.pl 1 1)):=cf_cell hcf 11 _ rfl;have c12:w3.cell? ⟨w.heap.size,12,none⟩=some (.int .i64 (c.pl 1 2)):=cf_cell hcf 12 _ rfl;have c13:w3.cell? ⟨w.heap.size,13,none⟩=some (.int .i64 (c.pl 1 3)):=cf_cell hcf 13 _ rfl;have c14:w3.cell? ⟨w.heap.size,14,none⟩=some (.int .i64 (c.pl 2 0)):=cf_cell hcf 14 _ rfl;have c15:w3.cell? ⟨w.heap.size,15,none⟩=some (.int .i64 (c.pl 2 1)):=cf_cell hcf 15 _ rfl;have c16:w3.cell? ⟨w.heap.size,16,none⟩=some (.int .i64 (c.pl 2 2)):=cf_cell hcf 16 _ rfl;have c17:w3.cell? ⟨w.heap.size,17,none⟩=some (.int .i64 (c.pl 2 3)):=cf_cell hcf 17 _ rfl;have c18:w3.cell? ⟨w.heap.size,18,none⟩=some (.int .i64 (c.pl 3 0)):=cf_cell hcf 18 _ rfl;have c19:w3.cell? ⟨w.heap.size,19,none⟩=some (.int .i64 (c.pl 3 1)):=cf_cell hcf 19 _ rfl;have c20:w3.cell? ⟨w.heap.size,20,none⟩=some (.int .i64 (c.pl 3 2)):=cf_cell hcf 20 _ rfl;have c21:w3.cell? ⟨w.heap.size,21,none⟩=some (.int .i64 (c.pl 3 3)):=cf_cell hcf 21 _ rfl;have HD3:Hid _:=hd3;have HS3:Hid _:=hs3;have HB3:Hid _:=hb3;clear hcf hb3 c4 c5 hd3 hs3;go_wp2_with fail;refine (HP.out _).mono ?_;rintro e w4 ⟨rfl,hb4⟩;have HA4:Hid (Below _ _ w4):=HA3.out.trans (hb4.mono HA3.out.size);have HB4:Hid _:=hb4;clear hb4 c6 c7 c8 c9 c10 c11 c12 c13 c14 c15 c16 c17 c18 c19 c20 c21;go_wp2_with fail;refine (HR.out _ ((HB0.out _).trans (HA4.out.mono (HB0.out _).size))).mono ?_;rintro e w5 ⟨rfl,hb5⟩;have HB5:Hid _:=hb5;have HA5:Hid (Below _ _ w5):=HA4.out.trans (hb5.mono HA4.out.size);have hcf:=HCF.out w5 HA5.out;have c6:w5.cell? ⟨w.heap.size,6,none⟩=some (.int .i64 (c.pl 0 0)):=cf_cell hcf 6 _ rfl;have c7:w5.cell? ⟨w.heap.size,7,none⟩=some (.int .i64 (c.pl 0 1)):=cf_cell hcf 7 _ rfl;have c8:w5.cell? ⟨w.heap.size,8,none⟩=some (.int .i64 (c.pl 0 2)):=cf_cell hcf 8 _ rfl;have c9:w5.cell? ⟨w.heap.size,9,none⟩=some (.int .i64 (c.pl 0 3)):=cf_cell hcf 9 _ rfl;have c10:w5.cell? ⟨w.heap.size,10,none⟩=some (.int .i64 (c.pl 1 0)):=cf_cell hcf 10 _ rfl;have c11:w5.cell? ⟨w.heap.size,11,none⟩=some (.int .i64 (c.pl 1 1)):=cf_cell hcf 11 _ rfl;have c12:w5.cell? ⟨w.heap.size,12,none⟩=some (.int .i64 (c.pl 1 2)):=cf_cell hcf 12 _ rfl;have c13:w5.cell? ⟨w.heap.size,13,none⟩=some (.int .i64 (c.pl 1 3)):=cf_cell hcf 13 _ rfl;have c14:w5.cell? ⟨w.heap.size,14,none⟩=some (.int .i64 (c.pl 2 0)):=cf_cell hcf 14 _ rfl;have c15:w5.cell? ⟨w.heap.size,15,none⟩=some (.int .i64 (c.pl 2 1)):=cf_cell hcf 15 _ rfl;have c16:w5.cell? ⟨w.heap.size,16,none⟩=some (.int .i64 (c.pl 2 2)):=cf_cell hcf 16 _ rfl;have c17:w5.cell? ⟨w.heap.size,17,none⟩=some (.int .i64 (c.pl 2 3)):=cf_cell hcf 17 _ rfl;have c18:w5.cell? ⟨w.heap.size,18,none⟩=some (.int .i64 (c.pl 3 0)):=cf_cell hcf 18 _ rfl;have c19:w5.cell? ⟨w.heap.size,19,none⟩=some (.int .i64 (c.pl 3 1)):=cf_cell hcf 19 _ rfl;have c20:w5.cell? ⟨w.heap.size,20,none⟩=some (.int .i64 (c.pl 3 2)):=cf_cell hcf 20 _ rfl;have c21:w5.cell? ⟨w.heap.size,21,none⟩=some (.int .i64 (c.pl 3 3)):=cf_cell hcf 21 _ rfl;clear hcf hb5;go_wp2_with fail;refine (HQ.out _).mono ?_;rintro e w6 ⟨rfl,hb6⟩;have HA6:Hid (Below _ _ w6):=HA5.out.trans (hb6.mono HA5.out.size);have HB6:Hid _:=hb6;clear hb6 c6 c7 c8 c9 c10 c11 c12 c13 c14 c15 c16 c17 c18 c19 c20 c21;have hmm:=@run_makeMap prog;go_wp2_with fail;refine (HU.out _ (((HB0.out _).trans (HA6.out.mono (HB0.out _).size)).alloc ((HB0.out _).trans (HA6.out.mono (HB0.out _).size)).size _)).mono ?_;rintro e w7 ⟨u,rfl,hu,hb7⟩
 obtain ⟨uq,uc,rfl⟩:∃ uq uc,u = .slice uq m uc:=by
  rcases hu.2 with ⟨rfl,h0⟩ | ⟨g,cap,cur,hv,_⟩
  ·exact ⟨none,0,by rw[h0]⟩
  ·exact ⟨_,_,hv⟩
 have HU7:Hid _:=hu;have HB7:Hid _:=hb7;clear hu hb7
 have HFIN:Hid (WaK (w7.alloc (.cells (wcs c St.zero ⟨w6.heap.size,w.heap.size+1+1,w1.heap.size+1,w2.heap.size,.slice uq m uc,.slice none 0 0⟩) 116)) w7.heap.size (ow0 w7.heap.size w6.heap.size (w.heap.size+1) w1.heap.size w2.heap.size (.slice uq m uc)) c rs St.zero 0/\(∀ b,ow0 w7.heap.size w6.heap.size (w.heap.size+1) w1.heap.size w2.heap.size (.slice uq m uc) b≠0->w.heap.size<=b)/\Below w.heap.size w (w7.alloc (.cells (wcs c St.zero ⟨w6.heap.size,w.heap.size+1+1,w1.heap.size+1,w2.heap.size,.slice uq m uc,.slice none 0 0⟩) 116))):=by
  have s1:=HS1.out;have s2:=HS2.out;have s3:=HS3.out;rw[World.size_alloc] at s1;have b2:=HB2.out;have b3:=HB3.out;have b4:=HB4.out;have b5:=HB5.out;have b6:=HB6.out;have b67:Below w6.heap.size w6 w7:=((Below.refl _ w6).alloc (Nat.le_refl _) _).trans (HB7.out.mono (by simp));have b57:Below w5.heap.size w5 w7:=b6.trans (b67.mono b6.size);have b47:Below w4.heap.size w4 w7:=b5.trans (b57.mono b5.size);have b37:Below w3.heap.size w3 w7:=b4.trans (b47.mono b4.size);have b27:Below w2.heap.size w2 w7:=b3.trans (b37.mono b3.size);have b17:Below w1.heap.size w1 w7:=b2.trans (b27.mono b2.size);have bw:Below w.heap.size w w7:=by have h1:=HA1.out;have h0:Below w.heap.size w (w.alloc (.cells (cfw (Cf.ci c)) 25)):=(Below.refl _ _).alloc (Nat.le_refl _) _;have h2:Below w.heap.size w w1:=h0.trans (h1.mono (by simp));exact h2.trans (b17.mono h2.size)
  have d1:=HD1.out;rw[World.size_alloc] at d1;have hu:=HU7.out;rw[World.size_alloc] at hu;have hmn:=HM.out;subst hmn;have hkb:w7.ownsMap (H:=Value) prog 9 unitElem w6.heap.size 0 (.map []):=map_keep (World.ownsMap_made w6 prog 9 unitElem) (HB7.out.block w6.heap.size (by simp));have h63:w3.heap.size<=w6.heap.size:=Nat.le_trans b4.size (Nat.le_trans b5.size b6.size)
  have hw:=made_wa (U:=w7) (a0:=w.heap.size+1) (a1:=w1.heap.size) (a2:=w2.heap.size) (kb:=w6.heap.size) (rv:=.slice uq rs.length uc) (c:=c) (rs:=rs)
   (d1.move (fun b hb _=>b17.block b hb)) (HD2.out.move b27.size (fun b hb _=>b27.block b hb)) (HD3.out.move b37.size (fun b hb _=>b37.block b hb)) hkb hu (by omega) (by omega) (by omega) HOK.out HCK.out
  refine ⟨⟨_,hw⟩,fun b hb=>?_,bw.alloc bw.size _⟩;have hlt:=bw.size;have h71:=b17.size;unfold ow0 at hb;by_cases h1:b=w7.heap.size
  ·omega
  ·rw[if_neg h1] at hb;by_cases h2:b=w6.heap.size
   ·omega
   ·rw[if_neg h2] at hb;by_cases h3:w.heap.size+1<=b/\b<w.heap.size+1+2
    ·omega
    ·rw[if_neg h3] at hb;by_cases h4:w1.heap.size<=b/\b<w1.heap.size+2
     ·omega
     ·rw[if_neg h4] at hb;by_cases h5:b=w2.heap.size
      ·omega
      ·rw[if_neg h5] at hb;by_cases h6:(Value.slice uq rs.length uc).ownBlock=some b
       ·have:=(World.ownsRow.lt hu b h6).1;omega
       ·rw[if_neg h6] at hb;exact absurd rfl hb
 clear HD1 HD2 HD3 HS1 HS2 HS3 HB2 HB3 HB4 HB5 HB6 HB7 HU7;rw[wcs0] at HFIN;go_wp2;go_ret2;exact ⟨_,_,rfl,HFIN.out⟩
end WaB
namespace WbA
open Go.RowKit TkW WaM WaW WaB Go.Maps
open RuM (Rl)
open TkM (Sg)
structure Ac where
 kd:ByteArray
 n:Int
 st:ByteArray
 x:Sg
structure AcAt (w:World) (b o:Nat) (a:Ac):Prop where
 c0:w.cell? ⟨b,o,none⟩=some (.string a.kd)
 c1:w.cell? ⟨b,o+1,none⟩=some (.int .i64 a.n)
 c2:w.cell? ⟨b,o+1+1,none⟩=some (.string a.st)
 c3:w.cell? ⟨b,o+1+1+1,none⟩=some (.int .i64 a.x.p)
 c4:w.cell? ⟨b,o+1+1+1+1,none⟩=some (.int .i64 a.x.s)
 c5:w.cell? ⟨b,o+1+1+1+1+1,none⟩=some (.int .i64 a.x.t)
 c6:w.cell? ⟨b,o+1+1+1+1+1+1,none⟩=some (.string a.x.g)
theorem AcAt.keep {w w':World} {b o:Nat} {a:Ac} (h:AcAt w b o a) (e:w'.heap[b]?=w.heap[b]?):AcAt w' b o a where
 c0:=by rw[World.cell?_of_block (w:=w) e];exact h.c0
 c1:=by rw[World.cell?_of_block (w:=w) e];exact h.c1
 c2:=by rw[World.cell?_of_block (w:=w) e];exact h.c2
 c3:=by rw[World.cell?_of_block (w:=w) e];exact h.c3
 c4:=by rw[World.cell?_of_block (w:=w) e];exact h.c4
 c5:=by rw[World.cell?_of_block (w:=w) e];exact h.c5
 c6:=by rw[World.cell?_of_block (w:=w) e];exact h.c6
structure AcsOn (B:Nat) (w:World) (p:Option Addr) (ac:List Ac):Prop where
 sizes:∀ a ∈ ac,a.st.size<=9223372036854775807
 at_:ac≠[]->∃ b o,p=some ⟨b,o,none⟩/\b<B/\∀ k a,ac[k]?=some a->AcAt w b (o+k*7) a
theorem AcsOn.below {B:Nat} {w w':World} {p:Option Addr} {ac:List Ac} (h:AcsOn B w p ac) (hb:Below B w w'):AcsOn B w' p ac where
 sizes:=h.sizes
 at_:=fun hne=>by obtain ⟨b,o,h1,h2,h3⟩:=h.at_ hne;exact ⟨b,o,h1,h2,fun k a hk=>(h3 k a hk).keep (hb.block b h2)⟩
def aw (a:Ac):Nat:=min a.st.size 500
def awS (ac:List Ac) (j:Nat):Nat:=((ac.take j).map aw).sum
def aok (a:Ac):Prop:=¬ (400<a.st.size/\a.st.size<=2000)/\¬ 3000<a.st.size
def light (ac:List Ac) (m:Nat):Prop:=ac.length<=m/\(∀ a,a ∈ ac->aok a)/\awS ac ac.length<6000
theorem awS_succ {ac:List Ac} {j:Nat} {a:Ac} (h:ac[j]?=some a):awS ac (j+1)=awS ac j+aw a:=by unfold awS;rw[List.take_add_one,h];simp
theorem awS_le (ac:List Ac) (j:Nat):awS ac j<=j*500:=by
 induction j with
 | zero=>simp[awS]
 | succ j ih=>
  cases h:ac[j]? with
  | none=>
   have:awS ac (j+1)=awS ac j:=(by unfold awS;rw[List.take_add_one,h];simp);omega
  | some a=>
   rw[awS_succ h];unfold aw;omega
theorem lightActs_is (ac:List Ac) (p:Option Addr) (cap m B:Nat) {r:Bool} (hr:r=true↔light ac m) (w:World) (h:AcsOn B w p ac) (hm:m<=1000) (hl:ac.length<=9223372036854775807) :
  Calls prog 8 #[.slice p ac.length cap,.int .i64 (m:Int)] w fun e w'=>e = .returned (.bool r)/\∃ q,w'=w.drewN q:=by
 have HR:Hid (r=true↔light ac m):=hr;have HA:Hid (AcsOn B w p ac):=h;obtain ⟨N,hNN⟩:∃ N,N=ac.length:=⟨_,rfl⟩;have HNN:Hid (N=ac.length):=hNN;rw[<- hNN] at hl ⊢;by_cases h6:m<N
 case pos=>
  have e2:r=false:=by
   cases r with
   | false=>rfl
   | true=>have:=(hr.1 rfl).1;omega
  subst e2;have hI:(m:Int)<N:=by omega
  clear hr h hNN;go_enter func8,ntmps8;go_wp2;go_ret;exact ⟨rfl,0,rfl⟩
 case neg=>
  have hI:¬ (m:Int)<N:=by omega
  clear hr h hNN;go_enter func8,ntmps8;go_wp2;go_loopw [5,6] (fun n i V=>∃ j:Nat,j<=N/\i = .int .i64 (j:Int)/\n = .int .i64 (awS ac j:Int)/\(∀ a,a ∈ ac.take j->aok a)/\V=w) (fun _ i _=>N-(intOf i).toNat)
  case atStart=>exact ⟨0,by omega,rfl,rfl,fun a ha=>by simp at ha,rfl⟩
  case round=>
   obtain ⟨j,hj,rfl,rfl,hok,rfl⟩:=hrel;have HOK:Hid (∀ a,a ∈ ac.take j->aok a):=hok;clear hok;by_cases hlt:j<N
   case neg=>
    have hII:¬ (j:Int)<N:=(by omega);have hjN:j=ac.length:=by have:=HNN.out;omega
    have hd:decide ((awS ac j:Int)<6000)=r:=by
     have hlight:light ac m↔awS ac j<6000:=by
      constructor
      ·intro h;rw[hjN];exact h.2.2
      ·intro h;refine ⟨by omega,fun a ha=>HOK.out a (by rw[hjN,List.take_length];exact ha),by rw[<- hjN];exact h⟩
     have h1:=HR.out;rw[hlight] at h1;by_cases h2:awS ac j<6000
     ·rw[h1.2 h2];exact decide_eq_true (by omega)
     ·have:r=false:=by
       cases r with
       | false=>rfl
       | true=>exact absurd (h1.1 rfl) h2
      rw[this];exact decide_eq_false (by omega)
    have HD:Hid _:=hd;clear hd hjN;go_wp2;go_ret;exact ⟨congrArg (fun b=>Ending.returned (.bool b)) HD.out,0,rfl⟩
   case pos=>
    have hII:(j:Int)<N:=(by omega);have hj':j<ac.length:=(by rw[<- HNN.out];exact hlt);have hne:ac≠[]:=fun e=>(by rw[e] at hj';simp at hj');obtain ⟨g,o,rfl,hg,hc'⟩:=HA.out.at_ hne;have hrj:=List.getElem?_eq_getElem hj';have hsz:=HA.out.sizes _ (List.getElem_mem hj');have k2:=(hc' j _ hrj).c2;have HRJ:Hid (ac[j]?=some ac[j]):=hrj;have HIN:Hid (ac[j] ∈ ac):=List.getElem_mem hj';have hSS:=awS_succ hrj;have hle:=awS_le ac j;generalize ac[j]=a at *;clear hrj hc' hne;by_cases hbad:aok a
    case neg=>
     have e2:r=false:=by
      cases r with
      | false=>rfl
      | true=>exact absurd ((HR.out.1 rfl).2.1 a HIN.out) hbad
     subst e2;clear hSS hle;by_cases h4 : 400<a.st.size
     ·have h4I:(400:Int)<a.st.size:=(by omega);by_cases h2:a.st.size<=2000
      ·have h2I:(a.st.size:Int)<=2000:=(by omega);clear hbad;go_wp2;go_ret;exact ⟨rfl,0,rfl⟩
      ·have h2I:¬ (a.st.size:Int)<=2000:=(by omega);have h3I:(3000:Int)<a.st.size:=(by unfold aok at hbad;omega);clear hbad;go_wp2;go_ret;exact ⟨rfl,0,rfl⟩
     ·unfold aok at hbad;omega
    case pos=>
     have HNX:Hid (∀ x,x ∈ ac.take (j+1)->aok x):=fun x hx=>by
      rw[List.take_add_one,HRJ.out] at hx;rcases List.mem_append.1 hx with h1 | h1
      ·exact HOK.out x h1
      ·simp at h1;subst h1;exact hbad
     have h3I:¬ (3000:Int)<a.st.size:=(by unfold aok at hbad;omega);have HSS:Hid ((awS ac j:Int)+min (a.st.size:Int) 500=(awS ac (j+1):Int)):=(by show _ = _;rw[hSS];unfold aw;omega);have hsum:awS ac j<=600000:=(by omega);by_cases h4 : 400<a.st.size
     ·have h4I:(400:Int)<a.st.size:=(by omega);have h2I:¬ (a.st.size:Int)<=2000:=(by unfold aok at hbad;omega);have h5I:¬ (a.st.size:Int)<=500:=(by omega);clear hbad hSS hle;go_wp2;go_roundw
      case rel=>exact ⟨j+1,by omega,by go_num,congrArg (Value.int .i64) HSS.out,HNX.out,trivial⟩
      case measure=>simp[intOf];omega
     ·have h4I:¬ (400:Int)<a.st.size:=(by omega);have h5I:(a.st.size:Int)<=500:=(by omega);clear hbad hSS hle;go_wp2;go_roundw
      case rel=>exact ⟨j+1,by omega,by go_num,congrArg (Value.int .i64) HSS.out,HNX.out,trivial⟩
      case measure=>simp[intOf];omega
end WbA
namespace WbA
open Go.RowKit TkW WaM WaW WaB Go.Maps
open RuM (Rl)
def lightR (rs:List Rl):Prop:=rs.length<=9/\∀ r,r ∈ rs->r.nm.size<=50
theorem lightRules_is (rs:List Rl) (p:Option Addr) (cap:Nat) {b:Bool} (hb:b=true↔lightR rs) (w:World) (h:RsOn w p rs) (hl:rs.length<=9223372036854775807) (hs:∀ r,r ∈ rs->r.nm.size<=9223372036854775807) :
  Calls prog 9 #[.slice p rs.length cap] w fun e w'=>e = .returned (.bool b)/\w'=w:=by
 have HR:Hid (b=true↔lightR rs):=hb;have HA:Hid (RsOn w p rs):=h;have HS:Hid (∀ r,r ∈ rs->r.nm.size<=9223372036854775807):=hs;obtain ⟨N,hNN⟩:∃ N,N=rs.length:=⟨_,rfl⟩;have HNN:Hid (N=rs.length):=hNN;rw[<- hNN] at hl ⊢;by_cases h6 : 9<N
 case pos=>
  have e2:b=false:=by
   cases b with
   | false=>rfl
   | true=>have:=(hb.1 rfl).1;omega
  subst e2;have hI:(9:Int)<N:=by omega
  clear hb h hNN hs;go_enter func9,ntmps9;go_wp2;go_ret;exact ⟨rfl,rfl⟩
 case neg=>
  have hI:¬ (9:Int)<N:=by omega
  clear hb h hNN hs;go_enter func9,ntmps9;go_wp2;go_loopw [3] (fun i V=>∃ j:Nat,j<=N/\i = .int .i64 (j:Int)/\(∀ a,a ∈ rs.take j->a.nm.size<=50)/\V=w) (fun i _=>N-(intOf i).toNat)
  case atStart=>exact ⟨0,by omega,rfl,fun a ha=>by simp at ha,rfl⟩
  case round=>
   obtain ⟨j,hj,rfl,hok,rfl⟩:=hrel;have HOK:Hid (∀ a,a ∈ rs.take j->a.nm.size<=50):=hok;clear hok;by_cases hlt:j<N
   case neg=>have hII:¬ (j:Int)<N:=(by omega);have hd:b=true:=HR.out.2 ⟨by have:=HNN.out;omega,fun a ha=>HOK.out a (by rw[List.take_of_length_le (by have:=HNN.out;omega)];exact ha)⟩;subst hd;go_wp2;go_ret;exact ⟨rfl,rfl⟩
   case pos=>
    have hII:(j:Int)<N:=(by omega);have hj':j<rs.length:=(by rw[<- HNN.out];exact hlt);have hne:rs≠[]:=fun e=>(by rw[e] at hj';simp at hj');obtain ⟨g,o,rfl,hg,hc'⟩:=HA.out.at_ hne;have hrj:=List.getElem?_eq_getElem hj';have hsz:=HS.out _ (List.getElem_mem hj');have k0:=(hc' j _ hrj).1;have HRJ:Hid (rs[j]?=some rs[j]):=hrj;have HIN:Hid (rs[j] ∈ rs):=List.getElem_mem hj';generalize rs[j]=a at *;clear hrj hc' hne;by_cases hbad : 50<a.nm.size
    case pos=>
     have e2:b=false:=by
      cases b with
      | false=>rfl
      | true=>have:=(HR.out.1 rfl).2 a HIN.out;omega
     subst e2;have h5I:(50:Int)<a.nm.size:=(by omega);go_wp2;go_ret;exact ⟨rfl,rfl⟩
    case neg=>
     have HNX:Hid (∀ x,x ∈ rs.take (j+1)->x.nm.size<=50):=fun x hx=>by
      rw[List.take_add_one,HRJ.out] at hx;rcases List.mem_append.1 hx with h1 | h1
      ·exact HOK.out x h1
      ·simp at h1;subst h1;omega
     have h5I:¬ (50:Int)<a.nm.size:=(by omega);go_wp2;go_roundw
     case rel=>exact ⟨j+1,by omega,by go_num,HNX.out,trivial⟩
     case measure=>simp[intOf];omega
theorem range_new {w':World} {C:Array Value} {t:TypeId} {b:Nat} (h:w'.heap[b]?=some (.cells C t)):w'.rangeAt b 0 C.toList:=fun i v hv=>by simp only[World.cell?,h,Option.isSome_none,Bool.false_eq_true,if_false,Nat.zero_add];rw[<- hv,Array.getElem?_toList]
end WbA
namespace EpA
open TkM (Sg)
open Go.RowKit EpM EpW TkW Go.Maps
theorem info75:(prog.info? 125).map (fun i=>(i.zero,i.size,i.bytes))=some (some (.agg #[.int .i64 0,.slice none 0 0]),2,32):=by kernel_rfl
section
variable {w : World} {db : Nat} {F : Nat → Prop} {size late now : Nat} {all : List Sg} {lo : Nat}
theorem tick_bad (n:Int) (d:DeskAt w db F size late now all lo) (h3:now<=1000) (hn:¬ (0<=n/\n<=1000-now)) :
  Calls prog 40 #[.pointer (some ⟨db,0,none⟩),.int .i64 n] w fun e w'=>e = .returned (.tuple #[.slice none 0 0,.iface 105 (.int .i64 1)])/\w'=w:=by
 obtain ⟨mb,m,D,h,d⟩:=d.out;have c2:=d.c2;clear d;have b1:btw n 0 (1000-(now:Int))=false:=by simp[btw];omega
 go_enter func40,ntmps40;go_wp2_with fail;refine (between_is b1 _).mono ?_;rintro e w' ⟨rfl,rfl⟩;go_wp2;go_ret2;exact ⟨rfl,rfl⟩
theorem tick_any (n:Nat) (d:DeskAt w db F size late now all (closedN size late now)) (hF:∀ b,F b->b<w.heap.size) (h0 : 0<size) (h1:size<=50) (h2:late<=50) (h3:now+n<=1000) (hal:all.length<=100000) :
  Calls prog 40 #[.pointer (some ⟨db,0,none⟩),.int .i64 (n:Int)] w fun e w'=>∃ v,e = .returned (.tuple #[v,.nilIface])/\EpsOwn w' w.heap.size F v (tells size all (closedN size late now) (closedN size late (now+n)))/\DeskAt w' db F size late (now+n) all (closedN size late (now+n))/\Kp F w w':=by
 have hdb:=d.lt;obtain ⟨i0,hi,hz0,hz1,hz2⟩:=info_parts info75;obtain ⟨c0,hc0⟩:∃ c,c=closedN size late now:=⟨_,rfl⟩;obtain ⟨c1,hc1⟩:∃ c,c=closedN size late (now+n):=⟨_,rfl⟩;have hcc:c0<=c1:=by rw[hc0,hc1];exact closedN_mono (by omega)
 have hc9:c1<=1000:=by rw[hc1];exact Nat.le_trans closedN_le h3
 have HC1:Hid (c1=closedN size late (now+n)):=hc1;rw[<- hc0] at d;rw[<- hc0,<- hc1];have HC0:Hid (c0=closedN size late now):=hc0;clear hc0 hc1;have HD:Hid (DeskAt w db F size late now all c0):=d;have c2:w.cell? ⟨db,2,none⟩=some (.int .i64 (now:Int)):=by obtain ⟨mb,m,D,h,d⟩:=d.out;exact d.c2
 have z2:w.frozen? ⟨db,2,none⟩=false:=by obtain ⟨mb,m,D,h,d⟩:=d.out;exact d.fz 2
 clear d;have b1:btw (n:Int) 0 (1000-(now:Int))=true:=by simp[btw];omega
 go_enter func40,ntmps40;go_wp2_with fail;refine (between_is b1 _).mono ?_;rintro e w1 ⟨rfl,hw1⟩;subst hw1;go_wp2_with fail;refine (closed_is HC0.out HD.out h0 h1 h2 (by omega)).mono ?_;rintro e w2 ⟨rfl,q,rfl⟩;have HSt:Hid (DeskAt ((w1.drewN q).setCell ⟨db,2,none⟩ (.int .i64 ((now:Int)+n))) db F size late (now+n) all c0):=by obtain ⟨mb,m,D,h,d⟩:=(HD.out.below (drewN_below _ q)).out;exact ⟨mb,m,D,h,d.tick (now+n) (by omega)⟩
 have HKp:Hid (Kp F w1 ((w1.drewN q).setCell ⟨db,2,none⟩ (.int .i64 ((now:Int)+n)))):=(below_kp (drewN_below _ q) F).trans (set_kp _ _ _ (by obtain ⟨mb,m,D,h,d⟩:=HD.out.out;exact d.fd));clear HD;have HF:Hid (∀ b,F b->b<w1.heap.size):=hF;clear hF;go_wp2_with fail;go_loopw [7,8] (fun l i V=>∃ (k:Nat) (G:Nat->Prop),c0<=k/\k<=c1/\i = .int .i64 (k:Int)/\(∀ b,G b->F b)/\EpsOwn V w1.heap.size (fun b=>F b/\¬ G b) l (tells size all c0 k)/\DeskAt V db G size late (now+n) all k/\Kp F w1 V) (fun _ i _=>c1-(intOf i).toNat)
 case atStart=>refine ⟨c0,F,Nat.le_refl _,hcc,rfl,fun _ h=>h,?_,HSt.out,HKp.out⟩;rw[tells_nil all (Nat.le_refl _)];exact EpsOwn.nil _ _ _
 case round=>
  obtain ⟨k,G,hk0,hk1,rfl,hG,heo,hda,hkp⟩:=hrel;have HG:Hid (∀ b,G b->F b):=hG;have HEO:Hid (EpsOwn wr w1.heap.size (fun b=>F b/\¬ G b) u7 (tells size all c0 k)):=heo;have HDA:Hid (DeskAt wr db G size late (now+n) all k):=hda;have HK:Hid (Kp F w1 wr):=hkp;have hsz:w1.heap.size<=wr.heap.size:=hkp.size;clear hG heo hda hkp HSt HKp;go_wp2_with fail;refine (closed_is HC1.out HDA.out h0 h1 h2 h3).mono ?_;rintro e w2 ⟨rfl,q2,rfl⟩;have HDA2:Hid (DeskAt (wr.drewN q2) db G size late (now+n) all k):=HDA.out.below (drewN_below _ _);have HEO2:Hid (EpsOwn (wr.drewN q2) w1.heap.size (fun b=>F b/\¬ G b) u7 (tells size all c0 k)):=HEO.out.below (drewN_below _ _);have HK2:Hid (Kp F w1 (wr.drewN q2)):=HK.out.trans (below_kp (drewN_below _ _) F);have hsz2:w1.heap.size<=(wr.drewN q2).heap.size:=hsz;clear HDA HEO HK hsz;generalize wr.drewN q2=V at *;by_cases hlt:k<c1
  case neg=>have hkk:k=c1:=(by omega);subst hkk;have hI:¬ (k:Int)<k:=(by omega);clear hlt;go_wp2;go_ret2;refine ⟨_,rfl,HEO2.out.mono (fun b h=>h.1),HDA2.out.mono (fun b _ h=>HG.out b h),HK2.out⟩
  case pos=>
   have hI:(k:Int)<c1:=(by omega);go_wp2_with fail;refine (take_any HDA2.out (by omega) hal).mono ?_;rintro e w3 ⟨v,rfl,hrow,hvb,hda3,hkp3⟩;obtain ⟨p,cap,rfl,hsg⟩:=EpW.own_sgs (by rw[<- sorted_length (grp size all k)] at hrow;exact hrow);obtain ⟨L,hL⟩:∃ L,L=sorted (grp size all k):=⟨_,rfl⟩;rw[<- hL] at hsg hvb hda3 ⊢;have HLL:Hid (L=sorted (grp size all k)):=hL;have HSG:Hid (SgsOn w3 p L):=hsg;have HVB:Hid (∀ b,(Value.slice p L.length cap).ownBlock=some b->G b/\b<V.heap.size):=hvb;have HDA3:Hid (DeskAt w3 db (less G (Value.slice p L.length cap)) size late (now+n) all (k+1)):=hda3;have HK3:Hid (Kp G V w3):=hkp3;have hsz3:V.heap.size<=w3.heap.size:=hkp3.size
   have heo3:EpsOwn w3 w1.heap.size (fun b=>F b/\¬ G b) u7 (tells size all c0 k):=HEO2.out.move hkp3.size (fun b hb h=>hkp3.block b hb (fun hg=>by
    rcases h with h | h
    ·have:=HF.out b (HG.out b hg);omega
    ·exact h.2 hg))
   have HNEW:Hid (∀ b,u7.ownBlock=some b->w1.heap.size<=b):=fun b hb=>(by obtain ⟨ps,_,ho,_⟩:=heo3.out;exact (ho.lt b hb).1);obtain ⟨ps,hpl,hpo,hpr⟩:=((heo3.mono (G':=fun b=>F b/\¬ less G (Value.slice p L.length cap) b) (fun b h=>⟨h.1,fun g=>h.2 g.1⟩)).alloc (.cells #[.int .i64 (k:Int),.slice p L.length cap] 125)).out;have HPR:Hid (∀ (j:Nat) (e:Nat×List Sg) (pc:Option Addr×Nat),(tells size all c0 k)[j]?=some e->ps[j]?=some pc->SgsOn (w3.alloc (.cells #[.int .i64 (k:Int),.slice p L.length cap] 125)) pc.1 e.2/\(e.2≠[]->∃ b o,pc.1=some ⟨b,o,none⟩/\(F b/\¬ less G (Value.slice p L.length cap) b)/\u7.ownBlock≠some b)):=hpr;have HPL:Hid (ps.length=(tells size all c0 k).length):=hpl;have hTl:(tells size all c0 k).length<=1000:=(by unfold tells;simp;omega);clear hrow hL hsg hvb hda3 hkp3 heo3 hpl hpr HDA2 HEO2;go_wp2_with (at_builtin;refine wpList_append_lies _ rfl _ _ 120 rfl w1.heap.size 125 i0 (.agg #[.int .i64 0,.slice none 0 0]) 2 32 underlying120 hi hz0 hz1 hz2 rfl (by decide) _ _ _ rfl hpo ⟨w3.heap.size,0,none⟩ 1 1 [.int .i64 (k:Int),.slice p L.length cap] rfl rfl ?q1 ?q2 (by omega) ?q3 ?q4 ?q5 (w3.heap.size+1) ?q6 ?_)
   case q1=>
    intro j u hj
    match j,hj with
    | 0,hj=>simp at hj;subst hj;simp[Addr.add]
    | 1,hj=>simp at hj;subst hj;simp[Addr.add]
   case q2=>intro u hu;simp at hu;rcases hu with rfl | rfl<;>rfl
   case q3=>unfold maxLen;omega
   case q4=>omega
   case q5=>simp;omega
   case q6=>simp
   intro g cap' w4 hown4 hgrow4 hat hlt4;have hk4:Kp (fun b=>w1.heap.size<=b) w3 w4:=(alloc_kp _ w3 _).trans (grown_kp hgrow4 (fun b hb=>HNEW.out b hb));have HEO4:Hid (EpsOwn w4 w1.heap.size (fun b=>F b/\¬ less G (Value.slice p L.length cap) b) (.slice (some ⟨g,0,none⟩) ((tells size all c0 k).length+1) cap') (tells size all c0 (k+1))):=by show EpsOwn _ _ _ _ _;rw[tells_snoc all hk0,<- HLL.out];refine EpsOwn.snoc (p:=p) (c:=cap) (f:=(k,L)) HPL.out HPR.out hown4 hgrow4 (by rcases hat with h | h;exact Or.inl h;exact Or.inr (by rw[h];simp)) (HSG.out.move (by simp) (fun b o _ hb=>Below.heap_alloc _ _ _ hb)) ?_;intro hne;obtain ⟨b,o,hp,_⟩:=HSG.out.at_ hne;have hb:=HVB.out b (by rw[hp];rfl);refine ⟨b,o,hp,⟨HG.out b hb.1,fun h=>h.2 (by rw[hp];rfl)⟩,fun e=>?_⟩;have h1:=HNEW.out b e;have h2:=HF.out b (HG.out b hb.1);omega
   have HDA4:Hid (DeskAt w4 db (less G (Value.slice p L.length cap)) size late (now+n) all (k+1)):=HDA3.out.move (fun b hb h=>hk4.block b hb (fun h'=>by
    have h2:=HF.out b (HG.out b h.1);omega))
   have HK4:Hid (Kp F w1 w4):=(HK2.out.then HK3.out (fun b _ h=>HG.out b h)).then hk4 (fun b hb h=>by omega)
   clear hown4 hgrow4 hat hlt4 hk4 hpo;go_wp2;go_roundw
   case rel=>exact ⟨k+1,_,by omega,by omega,by go_num,fun b h=>HG.out b h.1,HEO4.out,HDA4.out,HK4.out⟩
   case measure=>simp[intOf];omega
end
end EpA
end Go.Proofs.YtmolafjalaeoaaaGreatDoor
