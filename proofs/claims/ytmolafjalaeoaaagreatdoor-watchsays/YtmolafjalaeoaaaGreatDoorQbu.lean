/-
  EqC
-/
import Derived.Test.YtmolafjalaeoaaaGreatDoorQbm
set_option maxRecDepth 100000
set_option maxHeartbeats 8000000
namespace Go.Proofs.YtmolafjalaeoaaaGreatDoor
open Go.Proofs.Tryz
namespace EqA
open TkM (Sg)
open Go.RowKit EpM TkW Go.Maps EpW
open EpA
section
variable {w : World} {rb : Nat} {X : Array Value} {F : Nat → Prop} {size late now : Nat} {all : List Sg}
theorem of_any (e:Nat) (d:RefAt w rb X F size late now all) (hal:all.length<=100000) (hT:∀ x ∈ all,epo size x<=1000) :
  Calls prog 81 #[.pointer (some ⟨rb,35,none⟩),.int .i64 (e:Int)] w fun r w'=>∃ v,r = .returned v/\w'.ownsRow w.heap.size 43 4 v (grp size all e).length (sgcs (sorted (grp size all e)))/\Below w.heap.size w w':=by
 have mixed:prog.follows .mixedOrders=true:=by kernel_rfl
 obtain ⟨i0,hi,hz0,hz1,hz2⟩:=info_parts info61;obtain ⟨v,d⟩:=d.out;have c3:=d.c3;have hrb:=d.lt;obtain ⟨p,cap,rfl,hrs⟩:=own_rs d.own;have HRS:Hid (all≠[]->∃ b,p=some ⟨b,0,none⟩/\b<w.heap.size/\∀ k x,all[k]?=some x->RsAt w b (k*5) x (epo size x)):=hrs;have HT:Hid (∀ x ∈ all,epo size x<=1000):=hT;clear d hrs hT;obtain ⟨n,hn⟩:∃ n,n=all.length:=⟨_,rfl⟩;rw[<- hn] at hal c3;have HN:Hid (n=all.length):=hn;clear hn;go_enter func81,ntmps81;go_wp2;go_loopw [5,6,7,8] (fun l i _ _ V=>∃ k:Nat,k<=n/\i = .int .i64 (k:Int)/\V.ownsRow w.heap.size 43 4 l (grp size (all.take k) e).length (sgcs (sorted (grp size (all.take k) e)))/\Below w.heap.size w V) (fun _ i _ _ _=>n-(intOf i).toNat)
 case atStart=>exact ⟨0,Nat.zero_le _,rfl,by rw[List.take_zero,show grp size [] e = [] from rfl,show sorted [] = [] by unfold sorted;simp];exact World.ownsRow_nil _ _ _ _,Below.refl _ _⟩
 case round=>
  obtain ⟨k,hk,rfl,hown,hbel⟩:=hrel;have HOWN:Hid (wr.ownsRow w.heap.size 43 4 u5 (grp size (all.take k) e).length (sgcs (sorted (grp size (all.take k) e)))):=hown;have HBEL:Hid (Below w.heap.size w wr):=hbel;have r3:wr.cell? ⟨rb,38,none⟩=some (.slice p n cap):=by rw[hbel.cell hrb];exact c3
  have hsz:w.heap.size<=wr.heap.size:=hbel.size;by_cases hlt:k<n
  case neg=>have hkk:k=n:=(by omega);subst hkk;have HF:Hid (all.take k=all):=(by show _ = _;rw[HN.out];exact List.take_length);have hI:¬ (k:Int)<k:=(by omega);clear hown hbel hlt;go_wp2;go_ret;refine ⟨_,rfl,?_,HBEL.out⟩;have:=HOWN.out;rw[HF.out] at this;exact this
  case pos=>
   have hkI:(k:Int)<n:=(by omega);have hk':k<all.length:=(by rw[<- HN.out];exact hlt);obtain ⟨b,rfl,hb,hc⟩:=HRS.out (by intro e;rw[e] at hk';simp at hk');obtain ⟨x,hx⟩:∃ x,x=all[k]:=⟨_,rfl⟩;obtain ⟨a0,a1,a2,a3,a4⟩:=(hc k x (by rw[hx];exact List.getElem?_eq_getElem hk')).keep (hbel.block b hb);have HTK:Hid (all.take (k+1)=all.take k ++ [x]):=(by show _ = _;rw[hx];exact List.take_succ_eq_append_getElem hk');have hex:epo size x<=1000:=HT.out x (by rw[hx];exact List.getElem_mem hk');clear hc hbel hown hx;by_cases hee:epo size x=e
   case neg=>
    have hne:((epo size x:Int) != (e:Int))=true:=(by simp;omega);have HG:Hid (grp size (all.take (k+1)) e=grp size (all.take k) e):=(by show _ = _;rw[HTK.out,grp_snoc_other _ _ (fun h=>hee h.symm)]);clear hee;go_wp2;go_roundw
    case rel=>exact ⟨k+1,by omega,by go_num,by rw[HG.out];exact HOWN.out,HBEL.out⟩
    case measure=>simp[intOf];omega
   case pos=>
    have hne:((epo size x:Int) != (e:Int))=false:=(by simp;omega);have HG:Hid (grp size (all.take (k+1)) e=grp size (all.take k) e ++ [x]):=(by show _ = _;rw[HTK.out,<- hee,grp_snoc_same]);obtain ⟨xp,xs,xt,xg⟩:=x;simp only at a0 a1 a2 a3;obtain ⟨E,hE⟩:∃ E,E=epo size ⟨xp,xs,xt,xg⟩:=⟨_,rfl⟩;rw[<- hE] at a4 hne hex;clear hee hE;obtain ⟨G,hGG⟩:∃ G,G=grp size (all.take k) e:=⟨_,rfl⟩;rw[<- hGG] at HOWN HG;have hGl:G.length<=100000:=(by rw[hGG];have:=grp_length size (all.take k) e;have:=List.length_take_le k all;omega);clear hGG;have hown1:((wr.alloc (.cells #[.int .i64 xp,.int .i64 xs,.int .i64 xt,.string xg] 43)).alloc (.cells #[.int .i64 xp,.int .i64 xs,.int .i64 xt,.string xg] 43)).ownsRow w.heap.size 43 4 u5 G.length (sgcs (sorted G)):=(HOWN.out.alloc _).alloc _;rw[<- sorted_length G] at hown1 hGl;obtain ⟨pL,capL,hu5,-⟩:=EpW.own_sgs hown1;rw[hu5] at hown1;subst hu5;go_wp2_with (at_builtin;refine wpList_append_lies _ rfl _ _ 123 rfl w.heap.size 43 i0 (.agg #[.int .i64 0,.int .i64 0,.int .i64 0,.string ⟨#[]⟩]) 4 40 underlying123 hi hz0 hz1 hz2 rfl (by decide) _ _ _ rfl hown1 ⟨wr.heap.size+1,0,none⟩ 1 1 [.int .i64 xp,.int .i64 xs,.int .i64 xt,.string xg] rfl rfl ?q1 ?q2 (by omega) ?q3 ?q4 ?q5 (wr.heap.size+2) ?q6 ?_)
    case q1=>
     intro j u hj
     match j,hj with
     | 0,hj=>simp at hj;subst hj;simp[Addr.add]
     | 1,hj=>simp at hj;subst hj;simp[Addr.add]
     | 2,hj=>simp at hj;subst hj;simp[Addr.add]
     | 3,hj=>simp at hj;subst hj;simp[Addr.add]
    case q2=>intro u hu;simp at hu;rcases hu with rfl | rfl | rfl | rfl<;>rfl
    case q3=>unfold maxLen;omega
    case q4=>omega
    case q5=>simp;omega
    case q6=>simp
    intro g capg V hownV hgrow hat hltV;have hnew:∀ q,(Value.slice pL (sorted G).length capL).ownBlock=some q->q<wr.heap.size:=fun q hq=>(HOWN.out.lt q hq).2
    have hgsb:g≠wr.heap.size:=by
     rcases hat with hat | hat
     ·have:=hnew g hat;omega
     ·omega
    have HSB:Hid (g≠wr.heap.size):=hgsb;have hbV:Below w.heap.size w V:=(((HBEL.out.alloc (by omega) _).alloc (by simp;omega) _).grown hgrow (by simp;omega) (fun q hq=>(HOWN.out.lt q hq).1));have hboxV:V.heap[wr.heap.size]?=some (.cells #[.int .i64 xp,.int .i64 xs,.int .i64 xt,.string xg] 43):=(by rw[hgrow.block _ (by simp;omega) (fun e=>by have:=hnew _ e.symm;omega),Below.heap_alloc _ _ _ (by simp)];exact Go.heap_alloc_new wr _);have HBV:Hid (Below w.heap.size w V):=hbV;have HBX:Hid (V.heap[wr.heap.size]?=some (.cells #[.int .i64 xp,.int .i64 xs,.int .i64 xt,.string xg] 43)):=hboxV;obtain ⟨L,hL⟩:∃ L,L=sorted G:=⟨_,rfl⟩;have HL:Hid (L=sorted G):=hL;rw[<- hL] at hownV hGl ⊢;obtain ⟨m,hm⟩:∃ m,m=L.length:=⟨_,rfl⟩;have HM:Hid (m=L.length):=hm;rw[<- hm] at hownV hGl ⊢;have HOV:Hid (V.ownsRow w.heap.size 43 4 (.slice (some ⟨g,0,none⟩) (m+1) capg) (m+1) (sgcs (L ++ [⟨xp,xs,xt,xg⟩]))):=(by show World.ownsRow _ _ _ _ _ _ _;rw[sgcs_snoc];exact hownV);have HST:Hid (V.ownsRow w.heap.size 43 4 (.slice (some ⟨g,0,none⟩) (m+1) capg) (m+1) (sgcs (L.take m++⟨xp,xs,xt,xg⟩::L.drop m))):=(by have h1:L.take m=L:=(by rw[HM.out];exact List.take_length);have h2:L.drop m = []:=(by rw[HM.out];exact List.drop_length);show World.ownsRow _ _ _ _ _ _ _;rw[h1,h2];exact HOV.out);have HST:Hid (V.ownsRow w.heap.size 43 4 (.slice (some ⟨g,0,none⟩) (m+1) capg) (m+1) (sgcs (L.take m++⟨xp,xs,xt,xg⟩::L.drop m))):=(by have h1:L.take m=L:=(by rw[HM.out];exact List.take_length);have h2:L.drop m = []:=(by rw[HM.out];exact List.drop_length);show World.ownsRow _ _ _ _ _ _ _;rw[h1,h2];exact HOV.out);have hBs:wr.heap.size<V.heap.size:=(Array.getElem?_eq_some_iff.1 hboxV).1;clear hownV hgrow hat hltV hown1 hnew hgsb hbV hboxV hL hm a0 a1 a2 a3 a4 r3;obtain ⟨sb,hsb⟩:∃ sb,sb=wr.heap.size:=⟨_,rfl⟩;rw[<- hsb] at HSB HBX hBs ⊢;clear hsb;go_wp2_with fail;go_loopw [8] (fun kk V'=>∃ (j:Nat) (y:Sg),j<=m/\kk = .int .i64 (j:Int)/\(∀ z ∈ L.drop j,lt ⟨xp,xs,xt,xg⟩ z=true)/\V'.ownsRow w.heap.size 43 4 (.slice (some ⟨g,0,none⟩) (m+1) capg) (m+1) (sgcs (L.take j++y::L.drop j))/\V'.heap[sb]?=some (.cells #[.int .i64 xp,.int .i64 xs,.int .i64 xt,.string xg] 43)/\Below w.heap.size w V') (fun kk _=>(intOf kk).toNat)
    case atStart=>exact ⟨m,⟨xp,xs,xt,xg⟩,Nat.le_refl _,rfl,by rw[HM.out];simp,HST.out,HBX.out,HBV.out⟩
    case round=>
     obtain ⟨j,y,hj,rfl,hah,hov,hbx,hbe⟩:=hrel;have hml:(L.take j).length=j:=(by rw[List.length_take,<- HM.out];omega);have HML:Hid ((L.take j).length=j):=hml;have HAH:Hid (∀ z ∈ L.drop j,lt ⟨xp,xs,xt,xg⟩ z=true):=hah;have HOV2:Hid (wr.ownsRow w.heap.size 43 4 (.slice (some ⟨g,0,none⟩) (m+1) capg) (m+1) (sgcs (L.take j++y::L.drop j))):=hov;have HBX2:Hid (wr.heap[sb]?=some (.cells #[.int .i64 xp,.int .i64 xs,.int .i64 xt,.string xg] 43)):=hbx;have HBE:Hid (Below w.heap.size w wr):=hbe;have s0:wr.cell? ⟨sb,0,none⟩=some (.int .i64 xp):=(by simp[World.cell?,hbx]);have s1:wr.cell? ⟨sb,1,none⟩=some (.int .i64 xs):=(by simp[World.cell?,hbx]);have s2:wr.cell? ⟨sb,2,none⟩=some (.int .i64 xt):=(by simp[World.cell?,hbx]);have s3:wr.cell? ⟨sb,3,none⟩=some (.string xg):=(by simp[World.cell?,hbx]);have hyc:SgAt wr g (j*4) y:=(by obtain ⟨p',cap',hv,hon⟩:=EpW.own_sgs (xs:=L.take j++y::L.drop j) (by rw[List.length_append,hml,List.length_cons,List.length_drop,<- HM.out,show j+(m-j+1)=m+1 by omega];exact hov);obtain ⟨b',o',hp,_,hc⟩:=hon.at_ (by simp);simp at hv;obtain ⟨hv1,_⟩:=hv;rw[<- hv1] at hp;simp at hp;obtain ⟨rfl,rfl⟩:=hp;have:=hc j y (by rw[List.getElem?_append_right (by omega),hml];simp);rw[Nat.zero_add] at this;exact this);have HYC:Hid (SgAt wr g (j*4) y):=hyc;clear hml hah hov hbx hbe hyc;by_cases hj0:j=0
     case pos=>
      subst hj0;have hmI:(0:Int)<m+1:=(by omega);go_wp2;go_quiet (fail);obtain ⟨V2,hV2⟩:∃ V2,V2=wr.drewN nq:=⟨_,rfl⟩;show Exit.then _ _ _ _ (wr.drewN nq);rw[<- hV2];have hb2:Below wr.heap.size wr V2:=(by rw[hV2];exact drewN_below _ _);clear hV2;have HOV3:Hid (V2.ownsRow w.heap.size 43 4 (.slice (some ⟨g,0,none⟩) (m+1) capg) (m+1) (sgcs (L.take 0++y::L.drop 0))):=own_keep HOV2.out (fun b hb=>hb2.block b (own_lt HOV2.out hb));have HBX3:Hid (V2.heap[sb]?=some (.cells #[.int .i64 xp,.int .i64 xs,.int .i64 xt,.string xg] 43)):=(by show _ = _;rw[hb2.block sb (Array.getElem?_eq_some_iff.1 HBX2.out).1];exact HBX2.out);have HBE3:Hid (Below w.heap.size w V2):=HBE.out.trans (hb2.mono HBE.out.size);have t0:V2.cell? ⟨sb,0,none⟩=some (.int .i64 xp):=(by simp[World.cell?,HBX3.out]);have t1:V2.cell? ⟨sb,1,none⟩=some (.int .i64 xs):=(by simp[World.cell?,HBX3.out]);have t2:V2.cell? ⟨sb,2,none⟩=some (.int .i64 xt):=(by simp[World.cell?,HBX3.out]);have t3:V2.cell? ⟨sb,3,none⟩=some (.string xg):=(by simp[World.cell?,HBX3.out]);obtain ⟨y0,y1,y2,y3⟩:=HYC.out.keep (hb2.block g (own_lt HOV2.out rfl));have z0:=HOV3.out.frozenAt (0*4);have z1:=HOV3.out.frozenAt (0*4+1);have z2:=HOV3.out.frozenAt (0*4+1+1);have z3:=HOV3.out.frozenAt (0*4+1+1+1);simp only[Nat.zero_mul,Nat.zero_add] at y0 y1 y2 y3 z0 z1 z2 z3;have HSO:Hid (L.take 0++(⟨xp,xs,xt,xg⟩:Sg)::L.drop 0=sorted (G ++ [(⟨xp,xs,xt,xg⟩:Sg)])):=(by show _ = _;have hh:=HAH.out;rw[HL.out] at hh ⊢;exact ins_step G (⟨xp,xs,xt,xg⟩:Sg) 0 hh (Or.inl rfl));have HPUT:=own_put (⟨xp,xs,xt,xg⟩:Sg) HOV3.out HML.out;have HPT:Hid (((((V2.setCell ⟨g,0*4,none⟩ (.int .i64 xp)).setCell ⟨g,0*4+1,none⟩ (.int .i64 xs)).setCell ⟨g,0*4+1+1,none⟩ (.int .i64 xt)).setCell ⟨g,0*4+1+1+1,none⟩ (.string xg)).ownsRow w.heap.size 43 4 (.slice (some ⟨g,0,none⟩) (m+1) capg) (m+1) (sgcs (sorted (G ++ [(⟨xp,xs,xt,xg⟩:Sg)])))):=(by show World.ownsRow _ _ _ _ _ _ _;rw[<- HSO.out];exact HPUT);simp only[Nat.zero_mul,Nat.zero_add] at HPT;have hg0:w.heap.size<=g:=(HOV2.out.lt g rfl).1;have hGm:(G ++ [(⟨xp,xs,xt,xg⟩:Sg)]).length=m+1:=(by rw[List.length_append,HM.out,HL.out,sorted_length];rfl);have HGM:Hid ((G ++ [(⟨xp,xs,xt,xg⟩:Sg)]).length=m+1):=hGm;clear hb2 HPUT hGm s0 s1 s2 s3;go_wp2;go_roundw
      case rel=>
       refine ⟨k+1,by omega,by go_num,?_,?_⟩
       ·rw[HG.out,HGM.out];exact HPT.out
       ·exact (((HBE3.out.setCell hg0 _).setCell hg0 _).setCell hg0 _).setCell hg0 _
      case measure=>simp[intOf];omega
     case neg=>
      obtain ⟨i,rfl⟩:∃ i,j=i+1:=⟨j-1,by omega⟩;have hiL:i<L.length:=(by rw[<- HM.out];omega);obtain ⟨u,hu⟩:∃ u,u=L[i]:=⟨_,rfl⟩;have hLu:L[i]?=some u:=(by rw[hu];exact List.getElem?_eq_getElem hiL);have huc:SgAt wr g (i*4) u:=(by obtain ⟨p',cap',hv,hon⟩:=EpW.own_sgs (xs:=L.take (i+1)++y::L.drop (i+1)) (by rw[List.length_append,HML.out,List.length_cons,List.length_drop,<- HM.out,show i+1+(m-(i+1)+1)=m+1 by omega];exact HOV2.out);obtain ⟨b',o',hp,_,hc⟩:=hon.at_ (by simp);simp at hv;obtain ⟨hv1,_⟩:=hv;rw[<- hv1] at hp;simp at hp;obtain ⟨rfl,rfl⟩:=hp;have:=hc i u (by rw[List.getElem?_append_left (by rw[HML.out];omega),List.getElem?_take_of_lt (by omega)];exact hLu);rw[Nat.zero_add] at this;exact this);have HLU:Hid (L[i]?=some u):=hLu;have HUC:Hid (SgAt wr g (i*4) u):=huc;obtain ⟨e0,e1,e2,e3⟩:=huc;obtain ⟨up,us,ut,ug⟩:=u;simp only at e0 e1 e2 e3;have k0:=cell_regrown s0;have k1:=cell_regrown s1;have k2:=cell_regrown s2;have k3:=cell_regrown s3;have l0:=cell_regrown e0;have l1:=cell_regrown e1;have l2:=cell_regrown e2;have l3:=cell_regrown e3;have hI0:(0:Int)<(i:Int)+1:=(by omega);have hI1:(i:Int)<(m:Int)+1:=(by omega);have hcast:(((i+1:Nat)):Int)=(i:Int)+1:=(by omega);rw[hcast];clear hLu hu hj0 hcast;go_wp2;refine wp_region_quiet_below (by kernel_rfl) (by kernel_rfl) ?_
      repeat (go_big_quiet_step (with_reducible exact Calls.regrown_of (ahead_any ⟨xp,xs,xt,xg⟩ ⟨up,us,ut,ug⟩ _)))
      refine wpQuiet_nil ?_;intro _ hw';obtain ⟨⟨dq,osq⟩,hw''⟩:=hw';subst hw'';clear k0 k1 k2 k3 l0 l1 l2 l3;obtain ⟨V2,hV2⟩:∃ V2,V2=Go.Sort.grow (redrawn wr dq) osq:=⟨_,rfl⟩;have hb2:Below wr.heap.size wr V2:=(by rw[hV2];exact below_regrown _ _ _);show Exit.then _ _ _ _ (Go.Sort.grow (redrawn wr dq) osq);rw[<- hV2];clear hV2 e0 e1 e2 e3;cases hlt2:lt ⟨xp,xs,xt,xg⟩ ⟨up,us,ut,ug⟩ with
      | false=>
       have HLT2:Hid (lt ⟨xp,xs,xt,xg⟩ ⟨up,us,ut,ug⟩=false):=hlt2;clear hlt2;have HOV3:Hid (V2.ownsRow w.heap.size 43 4 (.slice (some ⟨g,0,none⟩) (m+1) capg) (m+1) (sgcs (L.take (i+1)++y::L.drop (i+1)))):=own_keep HOV2.out (fun b hb=>hb2.block b (own_lt HOV2.out hb));have HBX3:Hid (V2.heap[sb]?=some (.cells #[.int .i64 xp,.int .i64 xs,.int .i64 xt,.string xg] 43)):=(by show _ = _;rw[hb2.block sb (Array.getElem?_eq_some_iff.1 HBX2.out).1];exact HBX2.out);have HBE3:Hid (Below w.heap.size w V2):=HBE.out.trans (hb2.mono HBE.out.size);have t0:V2.cell? ⟨sb,0,none⟩=some (.int .i64 xp):=(by simp[World.cell?,HBX3.out]);have t1:V2.cell? ⟨sb,1,none⟩=some (.int .i64 xs):=(by simp[World.cell?,HBX3.out]);have t2:V2.cell? ⟨sb,2,none⟩=some (.int .i64 xt):=(by simp[World.cell?,HBX3.out]);have t3:V2.cell? ⟨sb,3,none⟩=some (.string xg):=(by simp[World.cell?,HBX3.out]);obtain ⟨y0,y1,y2,y3⟩:=HYC.out.keep (hb2.block g (own_lt HOV2.out rfl));have z0:=HOV3.out.frozenAt ((i+1)*4);have z1:=HOV3.out.frozenAt ((i+1)*4+1);have z2:=HOV3.out.frozenAt ((i+1)*4+1+1);have z3:=HOV3.out.frozenAt ((i+1)*4+1+1+1);have HSO:Hid (L.take (i+1)++(⟨xp,xs,xt,xg⟩:Sg)::L.drop (i+1)=sorted (G ++ [(⟨xp,xs,xt,xg⟩:Sg)])):=(by show _ = _;have hh:=HAH.out;rw[HL.out] at hh ⊢;exact ins_step G (⟨xp,xs,xt,xg⟩:Sg) (i+1) hh (Or.inr ⟨⟨up,us,ut,ug⟩,by have h:=HLU.out;rw[HL.out] at h;rw[Nat.add_sub_cancel];exact h,HLT2.out⟩));have HPUT:=own_put (⟨xp,xs,xt,xg⟩:Sg) HOV3.out HML.out;have HPT:Hid (((((V2.setCell ⟨g,(i+1)*4,none⟩ (.int .i64 xp)).setCell ⟨g,(i+1)*4+1,none⟩ (.int .i64 xs)).setCell ⟨g,(i+1)*4+1+1,none⟩ (.int .i64 xt)).setCell ⟨g,(i+1)*4+1+1+1,none⟩ (.string xg)).ownsRow w.heap.size 43 4 (.slice (some ⟨g,0,none⟩) (m+1) capg) (m+1) (sgcs (sorted (G ++ [(⟨xp,xs,xt,xg⟩:Sg)])))):=(by show World.ownsRow _ _ _ _ _ _ _;rw[<- HSO.out];exact HPUT);have hg0:w.heap.size<=g:=(HOV2.out.lt g rfl).1;have hGm:(G ++ [(⟨xp,xs,xt,xg⟩:Sg)]).length=m+1:=(by rw[List.length_append,HM.out,HL.out,sorted_length];rfl);have HGM:Hid ((G ++ [(⟨xp,xs,xt,xg⟩:Sg)]).length=m+1):=hGm;clear hb2 HPUT hGm s0 s1 s2 s3;go_wp2;go_roundw
       case rel=>
        refine ⟨k+1,by omega,by go_num,?_,?_⟩
        ·rw[HG.out,HGM.out];exact HPT.out
        ·exact (((HBE3.out.setCell hg0 _).setCell hg0 _).setCell hg0 _).setCell hg0 _
       case measure=>simp[intOf];omega
      | true=>
       have HLT2:Hid (lt ⟨xp,xs,xt,xg⟩ ⟨up,us,ut,ug⟩=true):=hlt2;clear hlt2;have HOV3:Hid (V2.ownsRow w.heap.size 43 4 (.slice (some ⟨g,0,none⟩) (m+1) capg) (m+1) (sgcs (L.take (i+1)++y::L.drop (i+1)))):=own_keep HOV2.out (fun b hb=>hb2.block b (own_lt HOV2.out hb));have HBX3:Hid (V2.heap[sb]?=some (.cells #[.int .i64 xp,.int .i64 xs,.int .i64 xt,.string xg] 43)):=(by show _ = _;rw[hb2.block sb (Array.getElem?_eq_some_iff.1 HBX2.out).1];exact HBX2.out);have HBE3:Hid (Below w.heap.size w V2):=HBE.out.trans (hb2.mono HBE.out.size);obtain ⟨y0,y1,y2,y3⟩:=HYC.out.keep (hb2.block g (own_lt HOV2.out rfl));obtain ⟨e0,e1,e2,e3⟩:=HUC.out.keep (hb2.block g (own_lt HOV2.out rfl));simp only at e0 e1 e2 e3;have z0:=HOV3.out.frozenAt ((i+1)*4);have z1:=HOV3.out.frozenAt ((i+1)*4+1);have z2:=HOV3.out.frozenAt ((i+1)*4+1+1);have z3:=HOV3.out.frozenAt ((i+1)*4+1+1+1);have hdr:L.drop i=⟨up,us,ut,ug⟩::L.drop (i+1):=(by obtain ⟨h1,h2⟩:=List.getElem?_eq_some_iff.1 HLU.out;rw[<- h2];exact List.drop_eq_getElem_cons h1);have htk:L.take (i+1)=L.take i ++ [⟨up,us,ut,ug⟩]:=(by obtain ⟨h1,h2⟩:=List.getElem?_eq_some_iff.1 HLU.out;rw[<- h2];exact List.take_succ_eq_append_getElem h1);have HDR:Hid (L.drop i=⟨up,us,ut,ug⟩::L.drop (i+1)):=hdr;have HPUT:=own_put ⟨up,us,ut,ug⟩ HOV3.out HML.out;have HPT:Hid (((((V2.setCell ⟨g,(i+1)*4,none⟩ (.int .i64 up)).setCell ⟨g,(i+1)*4+1,none⟩ (.int .i64 us)).setCell ⟨g,(i+1)*4+1+1,none⟩ (.int .i64 ut)).setCell ⟨g,(i+1)*4+1+1+1,none⟩ (.string ug)).ownsRow w.heap.size 43 4 (.slice (some ⟨g,0,none⟩) (m+1) capg) (m+1) (sgcs (L.take i++⟨up,us,ut,ug⟩::L.drop i))):=(by show World.ownsRow _ _ _ _ _ _ _;rw[htk] at HPUT;rw[hdr];simpa using HPUT);have hg0:w.heap.size<=g:=(HOV2.out.lt g rfl).1;clear hb2 HPUT s0 s1 s2 s3 hdr htk;go_wp2;go_roundw
       case rel=>
        refine ⟨i,⟨up,us,ut,ug⟩,by omega,by go_num,?_,HPT.out,?_,?_⟩
        ·rw[HDR.out];intro z hz;rcases List.mem_cons.1 hz with rfl | hz
         ·exact HLT2.out
         ·exact HAH.out z hz
        ·have hn:=HSB.out;rw[Below.heap_setCell _ _ _ _ (by show sb≠g;omega),Below.heap_setCell _ _ _ _ (by show sb≠g;omega),Below.heap_setCell _ _ _ _ (by show sb≠g;omega),Below.heap_setCell _ _ _ _ (by show sb≠g;omega)];exact HBX3.out
        ·exact (((HBE3.out.setCell hg0 _).setCell hg0 _).setCell hg0 _).setCell hg0 _
       case measure=>simp[intOf]
theorem rtick_bad (n:Int) (d:RefAt w rb X F size late now all) (h3:now<=1000) (hn:¬ (0<=n/\n<=1000-now)) :
  Calls prog 42 #[.pointer (some ⟨rb,35,none⟩),.int .i64 n] w fun e w'=>e = .returned (.tuple #[.slice none 0 0,.int .i64 1])/\w'=w:=by
 obtain ⟨v,d⟩:=d.out;have c2:=d.c2;clear d;by_cases h0:n<0
 ·have h0':decide (n<0)=true:=by simpa using h0
  go_enter func42,ntmps42;go_wp2;go_ret2;exact ⟨rfl,rfl⟩
 ·have h0':decide (n<0)=false:=by simpa using h0
  have h1:decide (1000-(now:Int)<n)=true:=by simp;omega
  go_enter func42,ntmps42;go_wp2;go_ret2;exact ⟨rfl,rfl⟩
theorem rtick_any (n:Nat) (d:RefAt w rb X F size late now all) (hF:∀ b,F b->b<w.heap.size) (h0 : 0<size) (h1:size<=50) (h2:late<=50) (h3:now+n<=1000) (hal:all.length<=100000) (hT:∀ x ∈ all,epo size x<=1000) :
  Calls prog 42 #[.pointer (some ⟨rb,35,none⟩),.int .i64 (n:Int)] w fun e w'=>∃ v,e = .returned (.tuple #[v,.int .i64 0])/\EpsOwn w' w.heap.size (fun b=>w.heap.size<=b) v (tells size all (closedN size late now) (closedN size late (now+n)))/\RefAt w' rb X F size late (now+n) all/\Kp F w w':=by
 obtain ⟨i0,hi,hz0,hz1,hz2⟩:=info_parts info75;obtain ⟨c0,hc0⟩:∃ c,c=closedN size late now:=⟨_,rfl⟩;obtain ⟨c1,hc1⟩:∃ c,c=closedN size late (now+n):=⟨_,rfl⟩;have hcc:c0<=c1:=by rw[hc0,hc1];exact closedN_mono (by omega)
 have hc9:c1<=1000:=by rw[hc1];exact Nat.le_trans closedN_le h3
 have HC1:Hid (c1=closedN size late (now+n)):=hc1;rw[<- hc0,<- hc1];have HC0:Hid (c0=closedN size late now):=hc0;clear hc0 hc1;have HD:Hid (RefAt w rb X F size late now all):=d;have HT:Hid (∀ x ∈ all,epo size x<=1000):=hT;have HF:Hid (∀ b,F b->b<w.heap.size):=hF;have c2:w.cell? ⟨rb,37,none⟩=some (.int .i64 (now:Int)):=by obtain ⟨v,d⟩:=d.out;exact d.c2
 have z2:w.frozen? ⟨rb,37,none⟩=false:=by obtain ⟨v,d⟩:=d.out;exact d.fz 37
 have hrb:=d.lt;clear d hT hF;have b0:decide ((n:Int)<0)=false:=by simp
 have b1:decide (1000-(now:Int)<(n:Int))=false:=by simp;omega
 have b1':¬ 1000-(now:Int)<(n:Int):=by omega
 go_enter func42,ntmps42;go_wp2_with fail;refine (rclosed_is HC0.out HD.out h0 h1 h2 (by omega)).mono ?_;rintro e w2 ⟨rfl,q,rfl⟩;have HSt:Hid (RefAt ((w.drewN q).setCell ⟨rb,37,none⟩ (.int .i64 ((now:Int)+n))) rb X F size late (now+n) all):=by obtain ⟨v,d⟩:=(HD.out.below (drewN_below _ q)).out;exact ⟨v,d.tick (now+n) (by omega)⟩
 have HKp:Hid (Kp F w ((w.drewN q).setCell ⟨rb,37,none⟩ (.int .i64 ((now:Int)+n)))):=(below_kp (drewN_below _ q) F).trans (set_kp _ _ _ (by obtain ⟨v,d⟩:=HD.out.out;exact d.fd));clear HD;go_wp2_with fail;go_loopw [7,8] (fun l i V=>∃ (k:Nat),c0<=k/\k<=c1/\i = .int .i64 (k:Int)/\EpsOwn V w.heap.size (fun b=>w.heap.size<=b) l (tells size all c0 k)/\RefAt V rb X F size late (now+n) all/\Kp F w V) (fun _ i _=>c1-(intOf i).toNat)
 case atStart=>refine ⟨c0,Nat.le_refl _,hcc,rfl,?_,HSt.out,HKp.out⟩;rw[tells_nil all (Nat.le_refl _)];exact EpsOwn.nil _ _ _
 case round=>
  obtain ⟨k,hk0,hk1,rfl,heo,hda,hkp⟩:=hrel;have HEO:Hid (EpsOwn wr w.heap.size (fun b=>w.heap.size<=b) u7 (tells size all c0 k)):=heo;have HDA:Hid (RefAt wr rb X F size late (now+n) all):=hda;have HK:Hid (Kp F w wr):=hkp;have hsz:w.heap.size<=wr.heap.size:=hkp.size;clear heo hda hkp HSt HKp;go_wp2_with fail;refine (rclosed_is HC1.out HDA.out h0 h1 h2 h3).mono ?_;rintro e w2 ⟨rfl,q2,rfl⟩;have HDA2:Hid (RefAt (wr.drewN q2) rb X F size late (now+n) all):=HDA.out.below (drewN_below _ _);have HEO2:Hid (EpsOwn (wr.drewN q2) w.heap.size (fun b=>w.heap.size<=b) u7 (tells size all c0 k)):=HEO.out.below (drewN_below _ _);have HK2:Hid (Kp F w (wr.drewN q2)):=HK.out.trans (below_kp (drewN_below _ _) F);have hsz2:w.heap.size<=(wr.drewN q2).heap.size:=hsz;clear HDA HEO HK hsz;generalize wr.drewN q2=V at *;by_cases hlt:k<c1
  case neg=>have hkk:k=c1:=(by omega);subst hkk;have hI:¬ (k:Int)<k:=(by omega);clear hlt;go_wp2;go_ret2;exact ⟨_,rfl,HEO2.out,HDA2.out,HK2.out⟩
  case pos=>
   have hI:(k:Int)<c1:=(by omega);go_wp2_with fail;refine (of_any k HDA2.out hal HT.out).mono ?_;rintro e w3 ⟨v,rfl,hrow,hb3⟩;obtain ⟨p,cap,rfl,hsg⟩:=EpW.own_sgs (by rw[<- sorted_length (grp size all k)] at hrow;exact hrow);obtain ⟨L,hL⟩:∃ L,L=sorted (grp size all k):=⟨_,rfl⟩;rw[<- hL] at hsg hrow ⊢;have HLL:Hid (L=sorted (grp size all k)):=hL;have HSG:Hid (SgsOn w3 p L):=hsg;have HVB:Hid (∀ b,(Value.slice p L.length cap).ownBlock=some b->V.heap.size<=b):=fun b hb=>(hrow.lt b hb).1;have HDA3:Hid (RefAt w3 rb X F size late (now+n) all):=HDA2.out.below hb3;have HK3:Hid (Kp F w w3):=HK2.out.trans (below_kp hb3 F);have hsz3:V.heap.size<=w3.heap.size:=hb3.size;have heo3:EpsOwn w3 w.heap.size (fun b=>w.heap.size<=b) u7 (tells size all c0 k):=HEO2.out.below hb3;have HNEW:Hid (∀ b,u7.ownBlock=some b->w.heap.size<=b/\b<V.heap.size):=fun b hb=>(by obtain ⟨ps,_,ho,_⟩:=HEO2.out.out;exact ho.lt b hb);obtain ⟨ps,hpl,hpo,hpr⟩:=(heo3.alloc (.cells #[.int .i64 (k:Int),.slice p L.length cap] 125)).out;have HPR:Hid (∀ (j:Nat) (e:Nat×List Sg) (pc:Option Addr×Nat),(tells size all c0 k)[j]?=some e->ps[j]?=some pc->SgsOn (w3.alloc (.cells #[.int .i64 (k:Int),.slice p L.length cap] 125)) pc.1 e.2/\(e.2≠[]->∃ b o,pc.1=some ⟨b,o,none⟩/\w.heap.size<=b/\u7.ownBlock≠some b)):=hpr;have HPL:Hid (ps.length=(tells size all c0 k).length):=hpl;have hTl:(tells size all c0 k).length<=1000:=(by unfold tells;simp;omega);clear hrow hL hsg hb3 heo3 hpl hpr HDA2 HEO2 HK2;go_wp2_with (at_builtin;refine wpList_append_lies _ rfl _ _ 120 rfl w.heap.size 125 i0 (.agg #[.int .i64 0,.slice none 0 0]) 2 32 underlying120 hi hz0 hz1 hz2 rfl (by decide) _ _ _ rfl hpo ⟨w3.heap.size,0,none⟩ 1 1 [.int .i64 (k:Int),.slice p L.length cap] rfl rfl ?q1 ?q2 (by omega) ?q3 ?q4 ?q5 (w3.heap.size+1) ?q6 ?_)
   case q1=>
    intro j u hj
    match j,hj with
    | 0,hj=>simp at hj;subst hj;simp[Addr.add]
    | 1,hj=>simp at hj;subst hj;simp[Addr.add]
   case q2=>intro u hu;simp at hu;rcases hu with rfl | rfl<;>rfl
   case q3=>unfold maxLen;omega
   case q4=>omega
   case q5=>simp;omega
   case q6=>simp
   intro g cap' w4 hown4 hgrow4 hat hlt4;have hk4:Kp (fun b=>w.heap.size<=b) w3 w4:=(alloc_kp _ w3 _).trans (grown_kp hgrow4 (fun b hb=>(HNEW.out b hb).1));have HEO4:Hid (EpsOwn w4 w.heap.size (fun b=>w.heap.size<=b) (.slice (some ⟨g,0,none⟩) ((tells size all c0 k).length+1) cap') (tells size all c0 (k+1))):=by show EpsOwn _ _ _ _ _;rw[tells_snoc all hk0,<- HLL.out];refine EpsOwn.snoc (p:=p) (c:=cap) (f:=(k,L)) HPL.out HPR.out hown4 hgrow4 (by rcases hat with h | h;exact Or.inl h;exact Or.inr (by rw[h];simp)) (HSG.out.move (by simp) (fun b o _ hb=>Below.heap_alloc _ _ _ hb)) ?_;intro hne;obtain ⟨b,o,hp,_⟩:=HSG.out.at_ hne;have hb:=HVB.out b (by rw[hp];rfl);refine ⟨b,o,hp,by omega,fun e=>?_⟩;have h1:=HNEW.out b e;omega
   have HDA4:Hid (RefAt w4 rb X F size late (now+n) all):=HDA3.out.move (fun b hb h=>hk4.block b hb (fun h'=>by
    have h2:=HF.out b h;omega))
   have HK4:Hid (Kp F w w4):=HK3.out.then hk4 (fun b hb h=>by omega);clear hown4 hgrow4 hat hlt4 hk4 hpo;go_wp2;go_roundw
   case rel=>exact ⟨k+1,by omega,by omega,by go_num,HEO4.out,HDA4.out,HK4.out⟩
   case measure=>simp[intOf];omega
end
end EqA
end Go.Proofs.YtmolafjalaeoaaaGreatDoor
