/-
  WeG WeJ
-/
import Derived.Test.YtmolafjalaeoaaaGreatDoorQbx
import Derived.Laws.AppendOwnNone
set_option maxRecDepth 100000
set_option maxHeartbeats 8000000
namespace Go.Proofs.YtmolafjalaeoaaaGreatDoor
open Go.Proofs.Tryz
namespace WeA
open Go.RowKit TkW WaM WaW WeW Go.Maps
open TkM (Sg epOf told whr)
open TkA (RfAt wv sv)
open RuM (Rl)
open WaB (info86)
section
variable {w V V' U : World} {rb tb : Nat} {ow : Nat → Nat} {c : Cf} {rs : List Rl} {s : St} {k q q' : Nat} {L TL : List ByteArray} {p : Dp} {A : List Al} {l T : Value}
structure Al3 (w V:World) (rb:Nat) (ow:Nat->Nat) (c:Cf) (rs:List Rl) (s:St) (k q:Nat) (L:List ByteArray) (p:Dp) (A:List Al) (l T:Value) (TL:List ByteArray):Prop where
 as_:As w V rb p.tb ow c rs s k q L p
 lim:∀ b,ow b≠0->b<w.heap.size
 row:V.ownsRow w.heap.size 86 3 l A.length (acs A)
 tag:V.ownsRow w.heap.size 9 1 T TL.length (TL.map sv)
 ne:∀ b,l.ownBlock=some b->T.ownBlock≠some b
theorem Al3.size (h:Al3 w V rb ow c rs s k q L p A l T TL):w.heap.size<=V.heap.size:=h.as_.wp.kp.size
theorem As.more (h:As w V rb tb ow c rs s k q L p) (hq:q<=q'):As w V rb tb ow c rs s k q' L p:=by obtain ⟨F,h1,h2⟩:=h.d.trk;exact ⟨⟨h.d.blk,h.d.ob,h.d.lim,h.d.rul,h.d.orl,h.d.dsk,h.d.odk,h.d.knw,h.d.okn,⟨F,h1.more hq,h2⟩⟩,h.wp,h.tb⟩
theorem Al3.more (h:Al3 w V rb ow c rs s k q L p A l T TL) (hq:q<=q'):Al3 w V rb ow c rs s k q' L p A l T TL:=⟨h.as_.more hq,h.lim,h.row,h.tag,h.ne⟩
theorem Al3.free (h:Al3 w V rb ow c rs s k q L p A l T TL) {b:Nat} (hb:w.heap.size<=b):ow b=0:=by apply Decidable.byContradiction;intro hn;have:=h.lim b hn;omega
theorem Al3.asked (h:Al3 w V rb ow c rs s k q L p A l T TL) (ha:As V V' rb p.tb ow c rs s k q' L p):Al3 w V' rb ow c rs s k q' L p A l T TL where
 as_:=⟨ha.d,h.as_.wp.trans ha.wp,rfl⟩
 lim:=h.lim
 row:=own_keep h.row (fun b hb=>ha.wp.kp.block b (own_lt h.row hb) (fun e=>e (h.free (h.row.lt b hb).1)))
 tag:=own_keep h.tag (fun b hb=>ha.wp.kp.block b (own_lt h.tag hb) (fun e=>e (h.free (h.tag.lt b hb).1)))
 ne:=h.ne
theorem Al3.below (h:Al3 w V rb ow c rs s k q L p A l T TL) (hb:Below V.heap.size V V'):Al3 w V' rb ow c rs s k q L p A l T TL:=
 h.asked ⟨h.as_.d.below hb,Wp.below hb ow,rfl⟩
theorem Al3.tags (h:Al3 w V rb ow c rs s k q L p A l T TL) (hb:Below V.heap.size V V') {T':Value} {TL':List ByteArray} (hT:V'.ownsRow V.heap.size 9 1 T' TL'.length (TL'.map sv)):Al3 w V' rb ow c rs s k q L p A l T' TL':=by have h1:=h.below hb;refine ⟨h1.as_,h.lim,h1.row,own_base hT h.size,fun b hb e=>?_⟩;have h2:=own_lt h.row hb;have h3:=(hT.lt b e).1;omega
theorem Al3.put {a:Al} {g cap:Nat} (h:Al3 w V rb ow c rs s k q L p A l T TL) (ho:V'.ownsRow w.heap.size 86 3 (.slice (some ⟨g,0,none⟩) (A.length+1) cap) (A.length+1) (acs A ++ [.int .i64 (a.rule:Int),.int .i64 (a.ep:Int),.string a.g])) (hg:V.grownBy V' l.ownBlock) (hat:l.ownBlock=some g\/V.heap.size<=g) :
  Al3 w V' rb ow c rs s k q L p (A ++ [a]) (.slice (some ⟨g,0,none⟩) (A.length+1) cap) T TL:=by
 have hsz:=hg.size;have hmv:∀ b,b<V.heap.size->ow b≠0->V'.heap[b]?=V.heap[b]?:=fun b hb hn=>hg.block b hb (fun e=>hn (h.free (h.row.lt b e.symm).1));refine ⟨⟨h.as_.d.move hsz hmv,⟨⟨hg.os.trans h.as_.wp.kp.os,hg.tape.trans h.as_.wp.kp.tape,hg.output.trans h.as_.wp.kp.output,Nat.le_trans h.size hsz,fun b hb hn=>?_⟩,fun _ h=>Or.inl h⟩,rfl⟩,h.lim,?_,?_,?_⟩
 ·rw[hg.block b (Nat.lt_of_lt_of_le hb h.size) (fun e=>by have:=(h.row.lt b e.symm).1;omega)];exact h.as_.wp.kp.block b hb hn
 ·rw[acs_snoc,List.length_append];exact ho
 ·exact own_keep h.tag (fun b hb=>hg.block b (own_lt h.tag hb) (fun e=>h.ne b e.symm hb))
 ·intro b hb;simp[Value.ownBlock] at hb;subst hb;rcases hat with h1 | h1
  ·exact h.ne _ h1
  ·intro e;have:=own_lt h.tag e;omega
theorem dholds_any (r:Rl) (g:ByteArray) (e:Nat) {b:Bool} (h:Da V rb ow c rs s k q L p) (hf:Sf c s) (hg:g.size<=100000) (hq:q<=8000000000) (he:e<k) (hk:k<=100) (hok:r.ok) (hnm:r.nm.size<=9223372036854775807) (ht:told g (Ep c s (e+1))=true) (hb:b=WaM.hb g (epOf (Ep c s (e+1))) c.W c.need r e) :
  Calls prog 91 #[.pointer (some ⟨p.tb,0,none⟩),RuA.rV r,.string g,.int .i64 (e:Int)] V fun x w'=>x = .returned (.bool b)/\As V w' rb p.tb ow c rs s k (q+30000) L p:=by
 obtain ⟨F,h1,h2⟩:=h.trk;refine (HlA.rholds_any r g (e:Int) (b:=b) h1 hf.cok.w1 hg hq (by omega) (by omega) hnm ?_).mono ?_
 ·rw[Ep_len,<- WdM.holds_later hf.cok.n0 he,hb,hb_iff hok];exact ⟨fun h=>⟨ht,h⟩,fun h=>h.2⟩
 ·rintro x w' ⟨rfl,h3,h4⟩;obtain ⟨h5,h6⟩:=Da.asked h h2 h3 h4;exact ⟨rfl,h5,h6,rfl⟩
theorem dtags_any (e:Nat) (h:Da V rb ow c rs s k q L p) (he:e<k) :
  Calls prog 90 #[.pointer (some ⟨p.tb,0,none⟩),.int .i64 (e:Int)] V fun x w'=>∃ v,x = .returned v/\w'.ownsRow V.heap.size 9 1 v (tagsL (Ep c s (e+1))).length ((tagsL (Ep c s (e+1))).map sv)/\Below V.heap.size V w':=by
 obtain ⟨F,h1,h2⟩:=h.trk;obtain ⟨pp,cap,hv⟩:=h1.view;refine (TkA.rtags_to e hv).mono ?_;rintro x w' ⟨v,rfl,TL,hT,_,hm,hb⟩;rw[Ep_take c s (by omega)] at hm;have hTL:TL=tagsL (Ep c s (e+1)):=tagsL_is hT.srt hm;rw[<- hTL];exact ⟨v,rfl,hT.own,hb⟩
def QB (q e j m:Nat):Nat:=q+2160000*e+360000*j+30000*m
theorem QB_step (q e j m:Nat):QB q e j m+30000=QB q e j (m+1):=by unfold QB;omega
theorem QB_rule (q e j m:Nat) (h:m<=12):QB q e j m<=QB q e (j+1) 0:=by unfold QB;omega
theorem QB_ep (q e j:Nat) (h:j<=6):QB q e j 0<=QB q (e+1) 0 0:=by unfold QB;omega
theorem QB_all (q e:Nat) (h:e<=100):QB q e 0 0<=q+300000000:=by unfold QB;omega
theorem QB_lim (q e j m:Nat) (hq:q<=6000000000) (he:e<=100) (hj:j<=6) (hm:m<=12):QB q e j m<=8000000000:=by unfold QB;omega
structure Al3x (w V:World) (rb:Nat) (ow:Nat->Nat) (c:Cf) (rs:List Rl) (s:St) (k q:Nat) (L:List ByteArray) (p:Dp) (A:List Al) (l:Value):Prop where
 out:∃ T TL,Al3 w V rb ow c rs s k q L p A l T TL
theorem dalerts_any (h:Da w rb ow c rs s k q L p) (hf:Sf c s) (hk:k<=100) (hR:rs.length<=6) (hrok:∀ r,r ∈ rs->r.ok) (hq:q<=6000000000) :
  Calls prog 52 #[.pointer (some ⟨rb,0,none⟩)] w fun x w'=>∃ v,x = .returned v/\w'.ownsRow w.heap.size 86 3 v (alerts c rs s k).length (acs (alerts c rs s k))/\As w w' rb p.tb ow c rs s k (q+300000000) L p:=by
 obtain ⟨i0,hi,hz0,hz1,hz2⟩:=info_parts info86;have HF:Hid (Sf c s):=hf;have HROK:Hid (∀ r,r ∈ rs->r.ok):=hrok;have HS:Hid (Al3 w w rb ow c rs s k (QB q 0 0 0) L p [] (.slice none 0 0) (.slice none 0 0) []):=by rw[show QB q 0 0 0=q from rfl];exact ⟨⟨h,Wp.refl _ _,rfl⟩,h.lim,World.ownsRow_nil _ _ _ _,World.ownsRow_nil _ _ _ _,fun b hb=>by cases hb⟩
 obtain ⟨R,hRR⟩:∃ R,R=rs.length:=⟨_,rfl⟩;have HRR:Hid (R=rs.length):=hRR;have HEL:Hid (∀ V A l T TL q',Al3 w V rb ow c rs s k q' L p A l T TL->V.cell? ⟨rb,39,none⟩=some (.pointer (some ⟨p.tb,0,none⟩))/\∃ ep ec,V.cell? ⟨p.tb,2,none⟩=some (.slice ep k ec)):=fun V A l T TL q' h=>by refine ⟨h.as_.d.cell (by omega),?_⟩;obtain ⟨F,h1,h2⟩:=h.as_.d.trk;obtain ⟨pp,cap,hv⟩:=h1.view;have:=hv.c2;rw[Ep_len] at this;exact ⟨pp,cap,this⟩
 obtain ⟨rq,rc,hrv⟩:∃ rq rc,p.rv = .slice rq R rc:=by
  rw[hRR];rcases h.rul.2 with ⟨h1,h0⟩ | ⟨g,cap,cur,hv,_⟩
  ·exact ⟨none,0,by rw[h1,h0]⟩
  ·exact ⟨_,_,hv⟩
 have HRU:Hid (∀ V A l T TL q',Al3 w V rb ow c rs s k q' L p A l T TL->V.cell? ⟨rb,22,none⟩=some (.slice rq R rc)/\∀ j r,rs[j]?=some r->∃ g,rq=some ⟨g,0,none⟩/\V.cell? ⟨g,j*6,none⟩=some (.string r.nm)/\V.cell? ⟨g,j*6+1,none⟩=some (.int .i64 r.k)/\V.cell? ⟨g,j*6+1+1,none⟩=some (.int .i64 r.f)/\V.cell? ⟨g,j*6+1+1+1,none⟩=some (.int .i64 r.t)/\V.cell? ⟨g,j*6+1+1+1+1,none⟩=some (.int .i64 r.wo)/\V.cell? ⟨g,j*6+1+1+1+1+1,none⟩=some (.int .i64 r.wi)):=fun V A l T TL q' h=>by
  refine ⟨by rw[<- hrv];exact h.as_.d.cell (by omega),fun j r hrj=>?_⟩;have hrow:=h.as_.d.rul
  have hj':j<rs.length:=by
   rcases Nat.lt_or_ge j rs.length with h | h
   ·exact h
   ·rw[List.getElem?_eq_none h] at hrj;cases hrj
  obtain ⟨g,rc',hq',hg1,hg2⟩:=hrow.form (by omega);rw[hq',] at hrow;have he:rq=some ⟨g,0,none⟩:=by rw[hrv] at hq';simp at hq';exact hq'.1
  have hcl:∀ i u,i<6->(rcl r)[i]?=some u->V.cell? ⟨g,j*6+i,none⟩=some u:=fun i u hi hu=>by have:=hrow.cells (g:=g) rfl (j*6+i) u (by unfold rcs;rw[flat_at rcl 6 (fun _=>rfl) rs j i _ hrj hi];exact hu);rw[addr_add] at this;exact this
  exact ⟨g,he,hcl 0 _ (by omega) rfl,hcl 1 _ (by omega) rfl,hcl 2 _ (by omega) rfl,hcl 3 _ (by omega) rfl,hcl 4 _ (by omega) rfl,hcl 5 _ (by omega) rfl⟩
 have hR6:R<=6:=by omega
 clear h hf hrok hrv hR hRR;go_enter func52,ntmps52;go_wp2;go_loopw [3,4,5,6,7,8] (fun l i _ _ _ _ V=>∃ e:Nat,e<=k/\i = .int .i64 (e:Int)/\Al3x w V rb ow c rs s k (QB q e 0 0) L p (alerts c rs s e) l) (fun _ i _ _ _ _ _=>k-(intOf i).toNat)
 case atStart=>exact ⟨0,Nat.zero_le _,rfl,⟨_,_,HS.out⟩⟩
 case round=>
  obtain ⟨e,he,rfl,hal⟩:=hrel;obtain ⟨T0,TL0,hal⟩:=hal.out;have HA:Hid (Al3 w wr rb ow c rs s k (QB q e 0 0) L p (alerts c rs s e) u3 T0 TL0):=hal;obtain ⟨c39,ep',ec',c2⟩:=HEL.out _ _ _ _ _ _ hal;clear hal HS;by_cases hlt:e<k
  case neg=>obtain rfl:e=k:=(by omega);have hII:¬ (e:Int)<e:=(by omega);have HFI:Hid (wr.ownsRow w.heap.size 86 3 u3 (alerts c rs s e).length (acs (alerts c rs s e))/\As w wr rb p.tb ow c rs s e (q+300000000) L p):=⟨HA.out.row,HA.out.as_.more (QB_all q e hk)⟩;go_wp2;go_ret;exact ⟨_,rfl,HFI.out⟩
  case pos=>
   have hII:(e:Int)<k:=(by omega);have HTG:Hid (Calls prog 90 #[.pointer (some ⟨p.tb,0,none⟩),.int .i64 (e:Int)] wr fun x w'=>∃ v,x = .returned v/\w'.ownsRow wr.heap.size 9 1 v (tagsL (Ep c s (e+1))).length ((tagsL (Ep c s (e+1))).map sv)/\Below wr.heap.size wr w'):=dtags_any e HA.out.as_.d hlt;obtain ⟨TL,hTL⟩:∃ TL,TL=tagsL (Ep c s (e+1)):=⟨_,rfl⟩;rw[<- hTL] at HTG;have HTL:Hid (TL=tagsL (Ep c s (e+1))):=hTL;obtain ⟨N,hN⟩:∃ N,N=TL.length:=⟨_,rfl⟩;have HN:Hid (N=TL.length):=hN;have hN12:N<=12:=(by rw[hN,hTL];exact Nat.le_trans (tags_len c s (e+1)) HF.out.few);obtain ⟨ep,hep⟩:∃ ep,ep=epOf (Ep c s (e+1)):=⟨_,rfl⟩;have HEP:Hid (ep=epOf (Ep c s (e+1))):=hep;clear hTL hep hN;go_wp2_with fail;refine Calls.mono HTG.out ?_;rintro x w2 ⟨v,rfl,hrow,hb2⟩;have ha2:=HA.out.tags hb2 hrow
   obtain ⟨tq,tc,hv⟩:∃ tq tc,v = .slice tq N tc:=by
    rw[HN.out];rcases hrow.2 with ⟨h1,h0⟩ | ⟨g,cap,cur,hv,_⟩
    ·exact ⟨none,0,by rw[h1,h0]⟩
    ·exact ⟨_,_,hv⟩
   subst hv;have HA2:Hid (Al3 w w2 rb ow c rs s k (QB q e 0 0) L p (alerts c rs s e) u3 (.slice tq N tc) TL):=ha2
   have HTC:Hid (∀ V A l q',Al3 w V rb ow c rs s k q' L p A l (.slice tq N tc) TL->∀ m g,TL[m]?=some g->∃ tg,tq=some ⟨tg,0,none⟩/\V.cell? ⟨tg,m,none⟩=some (.string g)):=fun V A l q' h m g hm=>by
    have hm':m<TL.length:=by
     rcases Nat.lt_or_ge m TL.length with h | h
     ·exact h
     ·rw[List.getElem?_eq_none h] at hm;cases hm
    have hrow:=h.tag;obtain ⟨tg,tc',hq',_,_⟩:=hrow.form (by omega);rw[hq'] at hrow;have he:tq=some ⟨tg,0,none⟩:=(by simp at hq';exact hq'.1);refine ⟨tg,he,?_⟩;have:=hrow.cells (g:=tg) rfl m (sv g) (by rw[List.getElem?_map,hm];rfl);rw[addr_add] at this;exact this
   clear hrow hb2 ha2 HTG c39 c2 HA;go_wp2;go_loopw [3,6,7,8] (fun l i _ _ V=>∃ j:Nat,j<=R/\i = .int .i64 (j:Int)/\Al3 w V rb ow c rs s k (QB q e j 0) L p (alerts c rs s e++als c.W c.need ep TL e (rs.take j)) l (.slice tq N tc) TL) (fun _ i _ _ _=>R-(intOf i).toNat)
   case atStart=>exact ⟨0,Nat.zero_le _,rfl,by simpa [als,alsFrom] using HA2.out⟩
   case round=>
    obtain ⟨j,hj,rfl,hal⟩:=hrel;have HA3:Hid (Al3 w wr rb ow c rs s k (QB q e j 0) L p (alerts c rs s e++als c.W c.need ep TL e (rs.take j)) u3 (.slice tq N tc) TL):=hal;obtain ⟨c22,hru⟩:=HRU.out _ _ _ _ _ _ hal;clear hal HA2;by_cases hjl:j<R
    case neg=>
     have hJI:¬ (j:Int)<R:=(by omega);have HNX:Hid (Al3x w wr rb ow c rs s k (QB q (e+1) 0 0) L p (alerts c rs s (e+1)) u3):=(by have h1:=HA3.out;rw[show j=R by omega] at h1;have e2:alerts c rs s e++als c.W c.need ep TL e (rs.take R)=alerts c rs s (e+1):=(by rw[HRR.out,List.take_length,HEP.out,HTL.out];exact (alerts_snoc c rs s e).symm);rw[e2] at h1;exact ⟨_,_,h1.more (QB_ep q e R hR6)⟩);clear hru;go_wp2;go_roundw
     case rel=>exact ⟨e+1,by omega,by go_num,HNX.out⟩
     case measure=>simp[intOf];omega
    case pos=>
     have hJI:(j:Int)<R:=(by omega);have hj':j<rs.length:=(by rw[<- HRR.out];exact hjl);have hrj:rs[j]?=some rs[j]:=List.getElem?_eq_getElem hj';have hrok:=HROK.out _ (List.getElem_mem hj');have HTK:Hid (rs.take (j+1)=rs.take j ++ [rs[j]]):=List.take_succ_eq_append_getElem hj';generalize rs[j]=r at *;have HRJ:Hid (rs[j]?=some r):=hrj;obtain ⟨rg,rfl,_⟩:=hru j r hrj;have HRC:Hid (∀ V A l T TL q',Al3 w V rb ow c rs s k q' L p A l T TL->V.cell? ⟨rb,22,none⟩=some (.slice (some ⟨rg,0,none⟩) R rc)/\V.cell? ⟨rg,j*6,none⟩=some (.string r.nm)/\V.cell? ⟨rg,j*6+1,none⟩=some (.int .i64 r.k)/\V.cell? ⟨rg,j*6+1+1,none⟩=some (.int .i64 r.f)/\V.cell? ⟨rg,j*6+1+1+1,none⟩=some (.int .i64 r.t)/\V.cell? ⟨rg,j*6+1+1+1+1,none⟩=some (.int .i64 r.wo)/\V.cell? ⟨rg,j*6+1+1+1+1+1,none⟩=some (.int .i64 r.wi)):=fun V A l T TL q' h=>(by obtain ⟨h1,h2⟩:=HRU.out _ _ _ _ _ _ h;obtain ⟨g',hg',h3⟩:=h2 j r HRJ.out;simp at hg';rw[<- hg'] at h3;exact ⟨h1,h3⟩);have HTA:Hid (als c.W c.need ep TL e (rs.take (j+1))=als c.W c.need ep TL e (rs.take j)++alR c.W c.need ep TL e r j):=(by show _ = _;rw[HTK.out,als_snoc,List.length_take,Nat.min_eq_left (by omega)]);obtain ⟨AJ,hAJ⟩:∃ AJ,AJ=alerts c rs s e++als c.W c.need ep TL e (rs.take j):=⟨_,rfl⟩;have HAJ:Hid (AJ=alerts c rs s e++als c.W c.need ep TL e (rs.take j)):=hAJ;rw[<- hAJ] at HA3;have hAJl:AJ.length<=8000:=(by rw[hAJ,List.length_append];have h1:=alerts_len c rs s e 12 HF.out.few;have h2:=alsFrom_len c.W c.need ep TL e (rs.take j) 0;rw[List.length_take] at h2;have h3:(min j rs.length)*TL.length<=6*12:=Nat.mul_le_mul (by omega) (by rw[<- HN.out];exact hN12);have h4:e*(rs.length*12)<=100*(6*12):=Nat.mul_le_mul (by omega) (Nat.mul_le_mul (by rw[<- HRR.out];exact hR6) (Nat.le_refl _));unfold als;omega);have hnm:r.nm.size<=9223372036854775807:=(by have h1:=hrok.1;unfold RuM.Rl.named RuM.nameOk at h1;have:r.nm.data.toList.length=r.nm.size:=(by simp);omega);have HOK:Hid r.ok:=hrok;have HNM:Hid (r.nm.size<=9223372036854775807):=hnm;clear hru hrj hAJ hrok hnm hj';go_wp2;go_loopw [3,7,8] (fun l i _ V=>∃ m:Nat,m<=N/\i = .int .i64 (m:Int)/\Al3 w V rb ow c rs s k (QB q e j m) L p (AJ++alR c.W c.need ep (TL.take m) e r j) l (.slice tq N tc) TL) (fun _ i _ _=>N-(intOf i).toNat)
     case atStart=>exact ⟨0,Nat.zero_le _,rfl,by simpa [alR] using HA3.out⟩
     case round=>
      obtain ⟨m,hm,rfl,hal⟩:=hrel;have HA4:Hid (Al3 w wr rb ow c rs s k (QB q e j m) L p (AJ++alR c.W c.need ep (TL.take m) e r j) u3 (.slice tq N tc) TL):=hal;clear hal HA3 c22;by_cases hml:m<N
      case neg=>
       have hMI:¬ (m:Int)<N:=(by omega);have HNX:Hid (Al3 w wr rb ow c rs s k (QB q e (j+1) 0) L p (alerts c rs s e++als c.W c.need ep TL e (rs.take (j+1))) u3 (.slice tq N tc) TL):=(by have h1:=HA4.out;rw[show m=TL.length by rw[<- HN.out];omega,List.take_length,HAJ.out,List.append_assoc,<- HTA.out] at h1;exact h1.more (QB_rule q e j _ (by rw[<- HN.out];exact hN12)));go_wp2;go_roundw
       case rel=>exact ⟨j+1,by omega,by go_num,HNX.out⟩
       case measure=>simp[intOf];omega
      case pos=>
       have hMI:(m:Int)<N:=(by omega);have hm':m<TL.length:=(by rw[<- HN.out];exact hml);have hmj:TL[m]?=some TL[m]:=List.getElem?_eq_getElem hm';have HTKm:Hid (TL.take (m+1)=TL.take m ++ [TL[m]]):=List.take_succ_eq_append_getElem hm';have hmem:TL[m] ∈ tagsL (Ep c s (e+1)):=(by rw[<- HTL.out];exact List.getElem_mem hm');generalize TL[m]=gg at *;obtain ⟨tg,rfl,_⟩:=HTC.out _ _ _ _ HA4.out m gg hmj;have HTT:Hid (∀ V A l q',Al3 w V rb ow c rs s k q' L p A l (.slice (some ⟨tg,0,none⟩) N tc) TL->V.cell? ⟨tg,m,none⟩=some (.string gg)):=fun V A l q' h=>(by obtain ⟨tg',h1,h2⟩:=HTC.out V A l q' h m gg hmj;simp at h1;rw[<- h1] at h2;exact h2);have hg8:gg.size<=100000:=(by have h1:=tags_sub hmem;rw[kn_mem] at h1;obtain ⟨x,hx,hxg⟩:=h1;have h2:=EpM.okS_iff.1 (HF.out.sok x hx).1;rw[<- hxg,h2.g];decide);obtain ⟨b,hbb⟩:∃ b,b=WaM.hb gg ep c.W c.need r e:=⟨_,rfl⟩;have HAR:Hid (alR c.W c.need ep (TL.take (m+1)) e r j=alR c.W c.need ep (TL.take m) e r j++(if b=true then [⟨j,e,gg⟩] else [])):=(by show _ = _;rw[HTKm.out,alR_snoc,hbb]);have HHO:Hid (∀ dd,Calls prog 91 #[.pointer (some ⟨p.tb,0,none⟩),.agg #[.string r.nm,.int .i64 r.k,.int .i64 r.f,.int .i64 r.t,.int .i64 r.wo,.int .i64 r.wi],.string gg,.int .i64 (e:Int)] (wr.drewN dd) fun x w'=>x = .returned (.bool b)/\Al3 w w' rb ow c rs s k (QB q e j (m+1)) L p (AJ++alR c.W c.need ep (TL.take m) e r j) u3 (.slice (some ⟨tg,0,none⟩) N tc) TL):=fun dd=>(by have hbd:Below wr.heap.size wr (wr.drewN dd):=below_drewN (Below.refl _ wr) dd;have h1:=HA4.out.below hbd;have h2:=dholds_any r gg e (b:=b) h1.as_.d HF.out hg8 (QB_lim q e j m hq (by omega) (by omega) (by omega)) hlt hk HOK.out HNM.out (tagsL_mem.1 hmem) (by rw[hbb,HEP.out]);refine h2.mono ?_;rintro x w' ⟨rfl,ha⟩;rw[QB_step] at ha;exact ⟨rfl,h1.asked ha⟩);have HCS:Hid (∀ V A l q',Al3 w V rb ow c rs s k q' L p A l (.slice (some ⟨tg,0,none⟩) N tc) TL->V.cell? ⟨rb,39,none⟩=some (.pointer (some ⟨p.tb,0,none⟩))/\V.cell? ⟨rb,22,none⟩=some (.slice (some ⟨rg,0,none⟩) R rc)/\V.cell? ⟨rg,j*6,none⟩=some (.string r.nm)/\V.cell? ⟨rg,j*6+1,none⟩=some (.int .i64 r.k)/\V.cell? ⟨rg,j*6+1+1,none⟩=some (.int .i64 r.f)/\V.cell? ⟨rg,j*6+1+1+1,none⟩=some (.int .i64 r.t)/\V.cell? ⟨rg,j*6+1+1+1+1,none⟩=some (.int .i64 r.wo)/\V.cell? ⟨rg,j*6+1+1+1+1+1,none⟩=some (.int .i64 r.wi)/\V.cell? ⟨tg,m,none⟩=some (.string gg)):=fun V A l q' h=>(by obtain ⟨h1,h2,h3,h4,h5,h6,h7⟩:=HRC.out _ _ _ _ _ _ h;exact ⟨(HEL.out _ _ _ _ _ _ h).1,h1,h2,h3,h4,h5,h6,h7,HTT.out _ _ _ _ h⟩);obtain ⟨s0,s1,s2,s3,s4,s5,s6,s7,s8⟩:=HCS.out _ _ _ _ HA4.out;clear hbb hmj hm' hmem;go_upto_region 12 with fail;go_region_held3 (fun U=>U.cell? ⟨rb,39,none⟩=some (.pointer (some ⟨p.tb,0,none⟩))/\U.cell? ⟨rb,22,none⟩=some (.slice (some ⟨rg,0,none⟩) R rc)/\U.cell? ⟨rg,j*6,none⟩=some (.string r.nm)/\U.cell? ⟨rg,j*6+1,none⟩=some (.int .i64 r.k)/\U.cell? ⟨rg,j*6+1+1,none⟩=some (.int .i64 r.f)/\U.cell? ⟨rg,j*6+1+1+1,none⟩=some (.int .i64 r.t)/\U.cell? ⟨rg,j*6+1+1+1+1,none⟩=some (.int .i64 r.wo)/\U.cell? ⟨rg,j*6+1+1+1+1+1,none⟩=some (.int .i64 r.wi)/\U.cell? ⟨tg,m,none⟩=some (.string gg)) (first | exact HCS.out _ _ _ _ ‹_› | go_keep) (first | (go_at_call 91;refine (HHO.out 1).mono ?_;rintro x w5 ⟨rfl,ha5⟩;have HA5:Hid (Al3 w w5 rb ow c rs s k (QB q e j (m+1)) L p (AJ++alR c.W c.need ep (TL.take m) e r j) u3 (.slice (some ⟨tg,0,none⟩) N tc) TL):=ha5;obtain ⟨t0,t1,t2,t3,t4,t5,t6,t7,t8⟩:=HCS.out _ _ _ _ ha5;clear ha5))
       all_goals
        clear s0 s1 s2 s3 s4 s5 s6 s7 s8 t0 t1 t2 t3 t4 t5 t6 t7;cases b with
        | false=>
         have HNX:Hid (Al3 w w5 rb ow c rs s k (QB q e j (m+1)) L p (AJ++alR c.W c.need ep (TL.take (m+1)) e r j) u3 (.slice (some ⟨tg,0,none⟩) N tc) TL):=(by show Al3 _ _ _ _ _ _ _ _ _ _ _ _ _ _ _;rw[HAR.out];simpa using HA5.out);clear t8;go_wp2;go_roundw
         case rel=>exact ⟨m+1,by omega,by go_num,HNX.out⟩
         case measure=>simp[intOf];omega
        | true=>
         obtain ⟨AM,hAM⟩:∃ AM,AM=AJ++alR c.W c.need ep (TL.take m) e r j:=⟨_,rfl⟩;have HAM:Hid (AJ++alR c.W c.need ep (TL.take (m+1)) e r j=AM ++ [⟨j,e,gg⟩]):=(by show _ = _;rw[HAR.out,hAM,if_pos rfl,List.append_assoc]);have hAMl:AM.length<=100000:=(by have h1:=alR_len c.W c.need ep (TL.take m) e r j;rw[List.length_take] at h1;rw[hAM,List.length_append];omega);rw[<- hAM] at HA5;have hbU:Below w5.heap.size w5 (w5.alloc (.cells #[.int .i64 (j:Int),.int .i64 (e:Int),.string gg] 86)):=(Below.refl _ _).alloc (Nat.le_refl _) _;have HU:Hid (Al3 w (w5.alloc (.cells #[.int .i64 (j:Int),.int .i64 (e:Int),.string gg] 86)) rb ow c rs s k (QB q e j (m+1)) L p AM u3 (.slice (some ⟨tg,0,none⟩) N tc) TL):=HA5.out.below hbU;have HUS:Hid ((w5.alloc (.cells #[.int .i64 (j:Int),.int .i64 (e:Int),.string gg] 86)).heap.size=w5.heap.size+1):=by show _ = _;simp
         have HNEW:Hid (∀ j' u,([.int .i64 (j:Int),.int .i64 (e:Int),.string gg]:List Value)[j']?=some u->(w5.alloc (.cells #[.int .i64 (j:Int),.int .i64 (e:Int),.string gg] 86)).cell? ((⟨w5.heap.size,0,none⟩:Addr).add j')=some u):=by
          intro j' u hj';rw[addr_add]
          match j',hj' with
          | 0,hj'=>simp at hj';subst hj';simp
          | 1,hj'=>simp at hj';subst hj';simp
          | 2,hj'=>simp at hj';subst hj';simp
         have HONE:Hid (∀ u ∈ ([.int .i64 (j:Int),.int .i64 (e:Int),.string gg]:List Value),u.oneCell'=true):=fun u hu=>by simp at hu;rcases hu with rfl | rfl | rfl<;>rfl
         have HML:Hid (AM.length+1<=maxLen):=(by show _<=_;unfold maxLen;omega);have HBY:Hid ((AM.length+1)*32<=140737488355328):=(by show _<=_;omega);have HBS:Hid (w.heap.size<=(w5.alloc (.cells #[.int .i64 (j:Int),.int .i64 (e:Int),.string gg] 86)).heap.size):=HU.out.size;have HROW:Hid ((w5.alloc (.cells #[.int .i64 (j:Int),.int .i64 (e:Int),.string gg] 86)).ownsRow w.heap.size 86 3 u3 AM.length (acs AM)):=HU.out.row;clear hAM hbU;go_wp2_with (at_builtin;refine wpList_append_lies _ rfl _ _ 77 rfl w.heap.size 86 i0 (.agg #[.int .i64 0,.int .i64 0,.string ⟨#[]⟩]) 3 32 underlying77 hi hz0 hz1 hz2 rfl (by decide) _ _ _ rfl HROW.out ⟨w5.heap.size,0,none⟩ 1 1 [.int .i64 (j:Int),.int .i64 (e:Int),.string gg] rfl rfl HNEW.out HONE.out (by omega) HML.out HBY.out HBS.out (w5.heap.size+1) HUS.out ?_);intro g6 cap6 w6 hown6 hgrow6 hat6 hlt6
         have hfin:=HU.out.put (a:=⟨j,e,gg⟩) hown6 hgrow6 (by
          rcases hat6 with h | h
          ·exact Or.inl h
          ·exact Or.inr (by rw[h,HUS.out];exact Nat.le_refl _))
         rw[<- HAM.out] at hfin;have HFIN:Hid (Al3 w w6 rb ow c rs s k (QB q e j (m+1)) L p (AJ++alR c.W c.need ep (TL.take (m+1)) e r j) (.slice (some ⟨g6,0,none⟩) (AM.length+1) cap6) (.slice (some ⟨tg,0,none⟩) N tc) TL):=hfin;clear hfin hown6 hgrow6 hat6 hlt6 t8;go_wp2;go_roundw
         case rel=>exact ⟨m+1,by omega,by go_num,HFIN.out⟩
         case measure=>simp[intOf];omega
end
end WeA
namespace WeJ
open Go.RowKit TkW Go.Maps
theorem run_append_empty {P:Program} {w:World} (t ty e:TypeId) (i:TypeInfo) (ht:P.underlying t=some (.slice e)) (hi:P.info? e=some i) (ad:Addr) (c:Nat) :
  (Builtin.append_ #[t,t] ty #[.slice none 0 0,.slice (some ad) 0 c]).run P w = .ok (.slice none 0 0) w:=by
 simp[Builtin.append_,run_underlying ht,sizeOf,typeInfo,hi,Builtin.lenOf,Builtin.firstCells];have h0:(loadCells ad 0).run P w = .ok #[] w:=by simp[loadCells,loadCellsFrom]
 rw[h0];rfl
theorem wpList_append_copy {P:Program} {ops:Array Oper} {rest:List Oper} {o:Oper} {a:Act} {Q:Exit->Act->World->Prop} (w:World) (hgd:o.guard=none) (s x:Operand) (t:TypeId)
  (ho:o.op = .call { callee:=.builtin .append,args:=#[s,x],argTypes:=#[t,t] })
  (e:TypeId) (i:TypeInfo) (z:Value) (size bytes:Nat) (ht:P.underlying t=some (.slice e)) (hi:P.info? e=some i) (hz:i.zero=some z) (hsize:i.size=size) (hby:i.bytes=bytes) (hzs:z.cells.size=size) (hsz : 0<size)
  (hs:a.eval s = .slice none 0 0) (q:Option Addr) (n c:Nat) (news:List Value) (hx:a.eval x = .slice q n c) (hnil:q=none->n=0/\c=0) (hl:news.length=n*size) (hnews:n≠0->∃ ad,q=some ad/\∀ j u,news[j]?=some u->w.cell? (ad.add j)=some u) (h1:∀ u ∈ news,u.oneCell'=true)
  (h63:n<=maxLen) (hbytes:n*bytes<=140737488355328)
  (h:∀ v w',w'.ownsRow w.heap.size e size v n news->Below w.heap.size w w'->wpList P ops Q rest (a.put o.dst v) w'):wpList P ops Q (o::rest) a w:=by
 by_cases h0:n=0
 ·subst h0;have hn:news = []:=List.length_eq_zero_iff.1 (by omega);subst hn;have hfin:=h (.slice none 0 0) w (World.ownsRow_nil _ _ _ _) (Below.refl _ _);cases q with
  | none=>
   obtain ⟨_,rfl⟩:=hnil rfl;exact wpList_append_own_none hgd s x t ho w.heap.size e i size ht hi _ 0 [] hs (World.ownsRow_nil _ _ _ _) hx hfin
  | some ad=>
   refine wpList_plain hgd fun K hK=>?_;have hrun:=run_append_empty (P:=P) (w:=w) t o.type e i ht hi ad c;unfold Oper.wp;simp[execOp,ho,resolve,invoke,builtin,hs,hx,hrun,Result.andThen];exact hK _ _ hfin
 ·obtain ⟨ad,rfl,hc⟩:=hnews h0;refine wpList_append_lies w hgd s x t ho w.heap.size e i z size bytes ht hi hz hsize hby hzs hsz (.slice none 0 0) 0 [] hs (World.ownsRow_nil _ _ _ _) ad n c news hx hl hc h1 (by omega) (by omega) (by rw[Nat.zero_add];exact hbytes) (Nat.le_refl _) _ rfl ?_;intro g cap w' h2 h3 h4 h5;rw[Nat.zero_add,List.nil_append] at h2;rw[Nat.zero_add];exact h _ w' h2 ⟨h3.os,h3.tape,h3.output,h3.size,fun k hk=>h3.block k hk (by simp[Value.ownBlock])⟩
end WeJ
end Go.Proofs.YtmolafjalaeoaaaGreatDoor
