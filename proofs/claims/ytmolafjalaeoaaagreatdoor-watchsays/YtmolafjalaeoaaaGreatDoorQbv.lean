/-
  WeD WeE
-/
import Derived.Test.YtmolafjalaeoaaaGreatDoorQbt
import Derived.Test.YtmolafjalaeoaaaGreatDoorQbu
set_option maxRecDepth 100000
set_option maxHeartbeats 8000000
namespace Go.Proofs.YtmolafjalaeoaaaGreatDoor
open Go.Proofs.Tryz
namespace WeA
open Go.RowKit TkW WaM WaW WeW Go.Maps
open TkM (Sg epOf)
open TkA (RfAt)
open RuM (Rl)
section
variable {w w' w0 : World} {rb : Nat} {ow : Nat → Nat} {c : Cf} {rs : List Rl} {s s' : St} {k k' q q' : Nat} {L : List ByteArray} {p : Dp}
theorem Da.desk0 {all':List Sg} {now':Nat} (h:Da w rb ow c rs s k q L p) (hr:EqA.RefAt w' rb (dcs c s p) (fun b=>b=rb\/ow b=3) c.len c.late now' all') (hkp:Kp (fun b=>b=rb\/ow b=3) w w')
  (hE:Ep c { s with all:=all',now:=now' } k=Ep c s k):∃ v,Da w' rb ow c rs { s with all:=all',now:=now' } k q L { p with dv:=v }:=by
 obtain ⟨v,d⟩:=hr.out;have hsz:=hkp.size
 have hmv:∀ b n,b<w.heap.size->ow b=n->n≠0->n≠1->n≠3->w'.heap[b]?=w.heap[b]?:=fun b n hlt hb h0 h1 h3=>hkp.block b hlt (fun hh=>by
  rcases hh with hh | hh
  ·rw[hh,h.ob] at hb;exact h1 hb.symm
  ·rw[hb] at hh;exact h3 hh)
 refine ⟨v,?_,h.ob,fun b hb=>Nat.lt_of_lt_of_le (h.lim b hb) hsz,?_,h.orl,d.own,?_,?_,h.okn,?_⟩
 ·have:=d.cells;rw[dob_dcs] at this;rw[this];rfl
 ·exact own_keep h.rul (fun b hb=>hmv b 2 (own_lt h.rul hb) (h.orl b hb) (by decide) (by decide) (by decide))
 ·intro b hb;rcases d.fr b hb with h1 | h1
  ·exact absurd h1 (d.ne hb)
  ·exact h1
 ·exact own_keep h.knw (fun b hb=>hmv b 4 (own_lt h.knw hb) (h.okn b hb) (by decide) (by decide) (by decide))
 ·obtain ⟨F,h1,h2⟩:=h.trk;rw[hE];exact ⟨F,h1.move hsz (fun b hb hF=>hmv b 5 hb (h2 b hF) (by decide) (by decide) (by decide)),h2⟩
theorem Da.track {F F':Nat->Prop} (h:Da w rb ow c rs s k q L p) (hF:∀ b,F b->ow b=5) (hr:RfAt w' p.tb F' c.W c.need q' (Ep c s k')) (hF':∀ b,F' b->F b\/(w.heap.size<=b/\b<w'.heap.size)) (hkp:Kp F w w') :
  Da w' rb (WaB.own3 ow w w' 5) c rs s k' q' L p/\Wp w w' ow (WaB.own3 ow w w' 5):=by
 have hsz:=hkp.size;have hmv:∀ b n,ow b=n->n≠0->n≠5->w'.heap[b]?=w.heap[b]?:=fun b n hb h0 h5=>hkp.block b (h.lim b (by rw[hb];exact h0)) (fun hh=>h5 (hb.symm.trans (hF b hh)));have hold:∀ b n,ow b=n->n≠0->WaB.own3 ow w w' 5 b=n:=fun b n hb h0=>by rw[WaB.own3_old (h.lim b (by rw[hb];exact h0))];exact hb
 refine ⟨⟨?_,hold _ _ h.ob (by decide),fun b hb=>WaB.own3_lim h.lim hsz hb,?_,?_,?_,?_,?_,?_,?_⟩,WaB.Wp.own3_of hkp (fun b hb=>by rw[hF b hb];decide)⟩
 ·rw[hmv rb 1 h.ob (by decide) (by decide)];exact h.blk
 ·exact own_keep h.rul (fun b hb=>hmv b 2 (h.orl b hb) (by decide) (by decide))
 ·exact fun b hb=>hold b 2 (h.orl b hb) (by decide)
 ·exact own_keep h.dsk (fun b hb=>hmv b 3 (h.odk b hb) (by decide) (by decide))
 ·exact fun b hb=>hold b 3 (h.odk b hb) (by decide)
 ·exact own_keep h.knw (fun b hb=>hmv b 4 (h.okn b hb) (by decide) (by decide))
 ·exact fun b hb=>hold b 4 (h.okn b hb) (by decide)
 ·refine ⟨F',hr,fun b hb=>?_⟩;rcases hF' b hb with h1 | h1
  ·exact hold b 5 (hF b h1) (by decide)
  ·unfold WaB.own3;rw[if_pos h1]
theorem rtick_no (n:Int) (h:DaK w rb ow c rs s k q) (h3:s.now<=1000) (hn:¬ (0<=n/\(s.now:Int)+n<=1000)) :
  Calls prog 15 #[.pointer (some ⟨rb,0,none⟩),.int .i64 n] w fun e w'=>e = .returned (.tuple #[.int .i64 0,.int .i64 1])/\w'=w:=by
 obtain ⟨p,hp⟩:=h.out;have HB:Hid (Calls prog 42 #[.pointer (some ⟨rb,35,none⟩),.int .i64 n] w fun e w'=>e = .returned (.tuple #[.slice none 0 0,.int .i64 1])/\w'=w):=EqA.rtick_bad n ⟨_,hp.ref⟩ h3 (by omega);clear h hp hn;go_enter func15,ntmps15;go_wp2_with fail;refine Calls.mono HB.out ?_;rintro e w' ⟨rfl,rfl⟩;go_wp2;go_loopw [8] (fun i V=>i = .int .i64 0/\V=w') (fun _ _=>0)
 case atStart=>exact ⟨rfl,rfl⟩
 case round=>obtain ⟨rfl,rfl⟩:=hrel;go_wp2;go_ret2;exact ⟨rfl,rfl⟩
theorem sorted_ok (hf:Sf c s) (j:Nat):(EpM.sorted (EpM.grp c.len s.all j)).all TkM.okS=true/\TkA.goodL (EpM.sorted (EpM.grp c.len s.all j))=true:=by
 have hal:s.all.length<=6000:=by have:=hf.use;unfold St.sum St.cnt at this;omega
 have hmem:∀ x,x ∈ EpM.sorted (EpM.grp c.len s.all j)->x ∈ s.all:=fun x hx=>by rw[EpM.sorted_mem] at hx;exact (List.mem_filter.1 hx).1
 refine ⟨?_,TkA.goodL_iff.2 ⟨?_,fun x hx=>?_⟩⟩
 ·rw[List.all_eq_true];intro x hx;have h1:=EpM.okS_iff.1 (hf.sok x (hmem x hx)).1;exact TkM.okS_iff.2 ⟨⟨h1.p0,h1.p1⟩,h1.s0,h1.s1⟩
 ·rw[EpM.sorted_length];exact Nat.le_trans (EpM.grp_length _ _ _) hal
 ·have h1:=EpM.okS_iff.1 (hf.sok x (hmem x hx)).1;rw[h1.g];decide
theorem rtick_ok (n:Nat) (h:DaK w rb ow c rs s k q) (hf:Sf c s) (hk:k=s.cl c) (hn:s.now+n<=1000) (hK:(s.tick n).cl c<=100) :
  Calls prog 15 #[.pointer (some ⟨rb,0,none⟩),.int .i64 (n:Int)] w fun e w'=>e = .returned (.tuple #[.int .i64 (((s.tick n).cl c-s.cl c:Nat):Int),.int .i64 0])/\DTo w w' rb ow c rs (s.tick n) ((s.tick n).cl c) q:=by
 obtain ⟨p,hp⟩:=h.out;have hal:s.all.length<=6000:=by have:=hf.use;unfold St.sum St.cnt at this;omega
 have hl0:=hf.cok.l0
 have hT:∀ x ∈ s.all,EpM.epo c.len x<=1000:=fun x hx=>by
  have h1:=EpM.okS_iff.1 (hf.sok x hx).1;unfold EpM.epo;have h2:x.t.toNat<=1000:=by have:=h1.t1;have:=hf.tim;omega
  exact Nat.le_trans (Nat.div_le_self _ _) h2
 have HTK:Hid (Calls prog 42 #[.pointer (some ⟨rb,35,none⟩),.int .i64 (n:Int)] w fun e w'=>∃ v,e = .returned (.tuple #[v,.int .i64 0])/\EpW.EpsOwn w' w.heap.size (fun b=>w.heap.size<=b) v (EpM.tells c.len s.all (EpM.closedN c.len c.late s.now) (EpM.closedN c.len c.late (s.now+n)))/\EqA.RefAt w' rb (dcs c s p) (fun b=>b=rb\/ow b=3) c.len c.late (s.now+n) s.all/\Kp (fun b=>b=rb\/ow b=3) w w'):=
  EqA.rtick_any n ⟨_,hp.ref⟩ (fun b hb=>by
   rcases hb with rfl | hb
   ·exact hp.lt
   ·exact hp.lim b (by rw[hb];decide)) (by omega) hf.cok.l1 hf.cok.t1 hn (by omega) hT
 have HP:Hid (Da w rb ow c rs s k q (kn s.all) p):=hp;have HF:Hid (Sf c s):=hf;have HK:Hid (k=s.cl c):=hk;have hk':k<=(s.tick n).cl c:=by rw[hk];exact EpM.closedN_mono (Nat.le_add_right _ _)
 have HC:Hid ((s.tick n).cl c=EpM.closedN c.len c.late (s.now+n)):=rfl;have HLM:Hid (∀ b,ow b≠0->b<w.heap.size):=hp.lim;rw[<- hk];obtain ⟨K1,hK1⟩:∃ K1,K1=(s.tick n).cl c:=⟨_,rfl⟩;have HK1:Hid (K1=(s.tick n).cl c):=hK1;rw[<- hK1] at hk' hK ⊢;obtain ⟨N,hN⟩:∃ N,N=K1-k:=⟨_,rfl⟩;have HN:Hid (N=K1-k):=hN;rw[<- hN];have hN9:N<=1000:=by omega
 clear h hp hk hK1 hN hf hT;go_enter func15,ntmps15;go_wp2_with fail;refine Calls.mono HTK.out ?_;rintro e w1 ⟨v,rfl,heps,hd1,hk1⟩;obtain ⟨dv',hda⟩:=Da.desk0 (now':=s.now+n) (all':=s.all) HP.out hd1 hk1 rfl;have HD1:Hid (DaK w1 rb ow c rs (s.tick n) k q):=⟨_,hda⟩
 have hwp:Wp w w1 ow ow:=⟨hk1.mono (fun b _ hb=>by
  rcases hb with rfl | hb
  ·rw[HP.out.ob];decide
  ·rw[hb];decide),fun _ h=>Or.inl h⟩
 have HWP1:Hid (Wp w w1 ow ow):=hwp;rw[<- HC.out,<- HK1.out,show EpM.closedN c.len c.late s.now=s.cl c from rfl,<- HK.out] at heps;obtain ⟨ps,hpl,hrow,hrd⟩:=heps.out;rw[WaB.tells_len,<- HN.out] at hpl hrow;have HPL:Hid (ps.length=N):=hpl;have HROW:Hid (w1.ownsRow w.heap.size 125 2 v N (EpW.epcs (EpM.tells c.len s.all k K1) ps)):=hrow;have HRD:Hid (∀ (k':Nat) (e:Nat×List Sg) (pc:Option Addr×Nat),(EpM.tells c.len s.all k K1)[k']?=some e->ps[k']?=some pc->SgsOn w1 pc.1 e.2/\(e.2≠[]->∃ b o,pc.1=some ⟨b,o,none⟩/\w.heap.size<=b/\v.ownBlock≠some b)):=hrd
 obtain ⟨eq,cp,hv⟩:∃ eq cp,v = .slice eq N cp:=by
  rcases hrow.2 with ⟨rfl,h0⟩ | ⟨g,cap,cur,hv,_⟩
  ·exact ⟨none,0,by rw[h0]⟩
  ·exact ⟨_,_,hv⟩
 subst hv;clear heps hd1 hk1 hda hwp hpl hrow hrd;go_wp2;go_loopw [8] (fun i V=>∃ (j:Nat) (ow':Nat->Nat),j<=N/\i = .int .i64 (j:Int)/\DaK V rb ow' c rs (s.tick n) (k+j) q/\Wp w1 V ow ow') (fun i _=>N-(intOf i).toNat)
 case atStart=>exact ⟨0,ow,Nat.zero_le _,rfl,HD1.out,Wp.refl _ _⟩
 case round=>
  obtain ⟨j,ow',hj,rfl,hw,hwq⟩:=hrel;have HW:Hid (DaK wr rb ow' c rs (s.tick n) (k+j) q):=hw;have HWQ:Hid (Wp w1 wr ow ow'):=hwq;clear hw hwq;by_cases hlt:j<N
  case neg=>obtain rfl:j=N:=(by omega);have hII:¬ (j:Int)<j:=(by omega);have HFI:Hid (DTo w wr rb ow c rs (s.tick n) K1 q):=⟨ow',by have h:=HW.out;rw[show k+j=K1 by have:=HN.out;omega] at h;exact h,HWP1.out.trans HWQ.out⟩;go_wp2;go_ret2;exact ⟨rfl,HFI.out⟩
  case pos=>
   have hII:(j:Int)<N:=(by omega);have hjp:j<ps.length:=(by rw[HPL.out];exact hlt);have hpj:ps[j]?=some ps[j]:=List.getElem?_eq_getElem hjp;have hej:=WaB.tells_at c.len s.all k K1 j (by rw[<- HN.out];exact hlt);obtain ⟨hon,hblk⟩:=HRD.out j _ _ hej hpj;obtain ⟨g,cp',hq,hg1,hg2⟩:=HROW.out.form (by omega);obtain ⟨rfl,-⟩:eq=some ⟨g,0,none⟩/\True:=(by simp at hq;exact ⟨hq.1,trivial⟩);have hcl:∀ i u,i<2->(EpW.epc1 (k+j,EpM.sorted (EpM.grp c.len s.all (k+j))) ps[j])[i]?=some u->w1.cell? ⟨g,j*2+i,none⟩=some u:=fun i u hi hu=>(by have:=HROW.out.cells (g:=g) rfl (j*2+i) u (by rw[EpW.epcs_at _ ps j i _ _ hej hpj hi];exact hu);rw[addr_add] at this;exact this);have hog:ow g=0:=(by apply Decidable.byContradiction;intro hn;have:=HLM.out g hn;omega);have hgk:wr.heap[g]?=w1.heap[g]?:=HWQ.out.kp.block g hg2 (fun e=>e hog);have k1:wr.cell? ⟨g,j*2+1,none⟩=some (.slice ps[j].1 (EpM.sorted (EpM.grp c.len s.all (k+j))).length ps[j].2):=(by rw[World.cell?_of_block (w:=w1) hgk];exact hcl 1 _ (by omega) rfl);have hg2':g<wr.heap.size:=Nat.lt_of_lt_of_le hg2 HWQ.out.kp.size;have hog':ow' g=0:=WaB.ow_wp hog hg2 HWQ.out;generalize ps[j]=pc at *;obtain ⟨pp,pcap⟩:=pc;simp only at k1 hon hblk;obtain ⟨LS,hLS⟩:∃ LS,LS=EpM.sorted (EpM.grp c.len s.all (k+j)):=⟨_,rfl⟩;have hsok:=sorted_ok HF.out (k+j);rw[<- hLS] at k1 hon hblk hsok;have HEP:Hid (Ep c (s.tick n) (k+j+1)=Ep c (s.tick n) (k+j) ++ [LS]):=by show _ = _;rw[Ep_snoc,hLS];rfl
   have honr:SgsOn wr pp LS:=by
    by_cases hne:LS = []
    ·rw[hne];exact SgsOn.empty
    ·refine hon.move HWQ.out.kp.size (fun b o e hb=>?_);obtain ⟨b',o',h1,h2,_⟩:=hblk hne;rw[h1] at e;simp at e;refine HWQ.out.kp.block b hb (fun hh=>?_);have:=HLM.out b hh;omega
   obtain ⟨p4,hd4⟩:=HW.out.out;obtain ⟨F,hF1,hF2⟩:=hd4.trk;have c39:wr.cell? ⟨rb,39,none⟩=some (.pointer (some ⟨p4.tb,0,none⟩)):=hd4.cell (by omega);have HTL:Hid (∀ dd,Calls prog 43 #[.pointer (some ⟨p4.tb,0,none⟩),.slice pp LS.length pcap] (wr.drewN dd) fun e w2=>e = .returned (.int .i64 0)/\(∃ o2,DaK w2 rb o2 c rs (s.tick n) (k+(j+1)) q/\Wp w1 w2 ow o2)/\w2.cell? ⟨rb,39,none⟩=some (.pointer (some ⟨p4.tb,0,none⟩))/\w2.cell? ⟨g,j*2+1,none⟩=some (.slice pp LS.length pcap)):=fun dd=>(by have hbd:Below wr.heap.size wr (wr.drewN dd):=below_drewN (Below.refl _ wr) dd;have hdd:=hd4.below hbd;refine (TkA.rtell_any LS pp pcap (hF1.below hbd) hsok.2 (honr.below hbd) (by rw[Ep_len];have h2:=HN.out;omega)).mono ?_;rintro e w2 ⟨rfl,hr2,hkp2⟩;rw[if_pos hsok.1] at hr2 ⊢;rw[<- HEP.out] at hr2;obtain ⟨h1,h2⟩:=Da.track hdd hF2 hr2 (fun b hb=>hb) hkp2;refine ⟨rfl,⟨_,⟨p4,h1⟩,(HWQ.out.trans (Wp.below hbd ow')).trans h2⟩,h1.cell (by omega),?_⟩;rw[World.cell?_of_block (w:=wr) (hkp2.block g hg2' (fun hh=>by rw[hF2 g hh] at hog';omega))];exact k1);have HLSL:Hid (LS.length<=6000):=(TkA.goodL_iff.1 hsok.2).1;clear hon hblk hcl hgk hq hpj hej honr hsok hLS hd4 hF1 hF2 hog hog';go_upto_region 5 with fail;go_region_held3 (fun U=>U.cell? ⟨rb,39,none⟩=some (.pointer (some ⟨p4.tb,0,none⟩))/\U.cell? ⟨g,j*2+1,none⟩=some (.slice pp LS.length pcap)) (go_keep) (first | (go_at_call 43;refine (HTL.out 1).mono ?_;rintro e w4 ⟨rfl,hto,t1,t2⟩;have HTO:Hid (∃ o2,DaK w4 rb o2 c rs (s.tick n) (k+(j+1)) q/\Wp w1 w4 ow o2):=hto;clear hto))
   all_goals
    clear t1 t2 c39 k1;go_wp2;go_roundw
    case rel=>obtain ⟨o2,h1,h2⟩:=HTO.out;exact ⟨j+1,o2,by omega,by go_num,h1,h2⟩
    case measure=>simp[intOf];omega
end
end WeA
namespace WeA
open Go.RowKit TkW WaM WaW WeW Go.Maps
open TkM (Sg epOf)
open TkA (RfAt)
open RuM (Rl)
open WaB (los dv los_succ wrapS)
theorem dcv_lost (c:Cf) (s:St) (p:Dp) {j:Nat} (hj:j<4):dcv c s p (23+j*2+1) = .int .i64 (s.lost j:Int):=by unfold dcv;rw[if_neg (show ¬ 23+j*2+1<22 by omega),if_pos (show 23+j*2+1<35 by omega),if_neg (show ¬ 23+j*2+1=22 by omega),if_pos (show 23+j*2+1<31 by omega),if_neg (show ¬ (23+j*2+1-23)%2=0 by omega),show (23+j*2+1-23)/2=j by omega]
section
variable {w w' w0 : World} {rb : Nat} {ow : Nat → Nat} {c : Cf} {rs : List Rl} {s s' : St} {k k' q q' : Nat} {L : List ByteArray} {p : Dp}
theorem thrown_any (h:DaK w rb ow c rs s k q) (hf:Sf c s) :
  Calls prog 50 #[.pointer (some ⟨rb,0,none⟩)] w fun e w'=>e = .returned (dv s (los s 4))/\Below w.heap.size w w':=by
 obtain ⟨p,h⟩:=h.out;have hlt:=h.lt;have hal:∀ (o:Obj) (i:Nat),i<46->(w.alloc o).cell? ⟨rb,i,none⟩=some (dcv c s p i):=fun o i hi=>by rw[((Below.refl w.heap.size w).alloc (Nat.le_refl _) o).cell h.lt];exact h.cell hi
 have d0:∀ o,(w.alloc o).cell? ⟨rb,41,none⟩=some (.int .i64 0):=fun o=>hal o 41 (by omega);have d1:∀ o,(w.alloc o).cell? ⟨rb,42,none⟩=some (.int .i64 (s.bad:Int)):=fun o=>hal o 42 (by omega);have d2:∀ o,(w.alloc o).cell? ⟨rb,43,none⟩=some (.int .i64 (s.nowh:Int)):=fun o=>hal o 43 (by omega);have d3:∀ o,(w.alloc o).cell? ⟨rb,44,none⟩=some (.int .i64 (s.late:Int)):=fun o=>hal o 44 (by omega);have d4:∀ o,(w.alloc o).cell? ⟨rb,45,none⟩=some (.int .i64 (s.full:Int)):=fun o=>hal o 45 (by omega);have HH:Hid (Da w rb ow c rs s k q (kn s.all) p):=h;have HF:Hid (Sf c s):=hf;clear hal h hf;go_enter func50,ntmps50;go_upto_region 2 with fail
 clear d0 d1 d2 d3 d4;have HB0:Hid (∀ o o',Below w.heap.size w ((w.alloc o).alloc o')):=fun o o'=>((Below.refl _ w).alloc (Nat.le_refl _) o).alloc (by simp) o';have HN:Hid (∀ o o',((w.alloc o).alloc o').heap[w.heap.size+1]?=some o'):=fun o o'=>by show _ = _;have:=Go.heap_alloc_new (w.alloc o) o';simpa using this
 have HN0:Hid (∀ o o',((w.alloc o).alloc o').heap[w.heap.size]?=some o):=fun o o'=>by show _ = _;rw[Below.heap_alloc _ _ _ (by simp)];exact Go.heap_alloc_new w o
 go_wp2;go_loopw [4] (fun i V=>∃ j:Nat,j<=4/\i = .int .i64 (j:Int)/\V.heap[w.heap.size+1]?=some (.cells #[.int .i64 (los s j:Int),.int .i64 (s.bad:Int),.int .i64 (s.nowh:Int),.int .i64 (s.late:Int),.int .i64 (s.full:Int)] 65)/\V.heap[w.heap.size]?=some (.cells #[.int .i64 0,.int .i64 0,.int .i64 0,.int .i64 0,.int .i64 0] 65)/\Below w.heap.size w V) (fun i _=>4-(intOf i).toNat)
 case atStart=>exact ⟨0,by omega,rfl,HN.out _ _,HN0.out _ _,HB0.out _ _⟩
 case round=>
  obtain ⟨j,hj,rfl,hc,hc0,hbl⟩:=hrel;have HBL:Hid (Below w.heap.size w wr):=hbl;have HC:Hid (wr.heap[w.heap.size+1]?=some (.cells #[.int .i64 (los s j:Int),.int .i64 (s.bad:Int),.int .i64 (s.nowh:Int),.int .i64 (s.late:Int),.int .i64 (s.full:Int)] 65)):=hc;have HC0:Hid (wr.heap[w.heap.size]?=some (.cells #[.int .i64 0,.int .i64 0,.int .i64 0,.int .i64 0,.int .i64 0] 65)):=hc0;have e0:wr.cell? ⟨w.heap.size+1,0,none⟩=some (.int .i64 (los s j:Int)):=by simp[World.cell?,hc]
  have ez:wr.frozen? ⟨w.heap.size+1,0,none⟩=false:=by simp[World.frozen?,hc]
  have el:j<4->wr.cell? ⟨rb,23+j*2+1,none⟩=some (.int .i64 (s.lost j:Int)):=fun h4=>by rw[hbl.cell hlt,HH.out.cell (by omega),dcv_lost c s p h4]
  clear hc hc0 hbl;by_cases hlt4:j<4
  case pos=>
   have hI:(j:Int)<4:=(by omega);have el':=el hlt4
   have hsum:los s j+s.lost j<=6000:=by
    have h1:=HF.out.use
    have h2:los s j+s.lost j<=s.sum:=by
     unfold St.sum los
     match j,hlt4 with
     | 0,_=>simp;omega
     | 1,_=>simp[List.range_succ];omega
     | 2,_=>simp[List.range_succ];omega
     | 3,_=>simp[List.range_succ];omega
    omega
   have HWR:Hid (wrap64 ((los s j:Int)+(s.lost j:Int))=((los s (j+1):Nat):Int)):=(by show wrap64 _ = _;unfold wrap64;rw[los_succ];omega);have HF1:Hid (((wr.setCell ⟨w.heap.size+1,0,none⟩ (.int .i64 ((los s (j+1):Nat):Int))).drew).heap[w.heap.size+1]?=some (.cells #[.int .i64 (los s (j+1):Int),.int .i64 (s.bad:Int),.int .i64 (s.nowh:Int),.int .i64 (s.late:Int),.int .i64 (s.full:Int)] 65)):=(by show (wr.setCell _ _).heap[_]? = _;simp[World.setCell,Array.getElem?_modify,HC.out]);have HF2:Hid (((wr.setCell ⟨w.heap.size+1,0,none⟩ (.int .i64 ((los s (j+1):Nat):Int))).drew).heap[w.heap.size]?=some (.cells #[.int .i64 0,.int .i64 0,.int .i64 0,.int .i64 0,.int .i64 0] 65)):=(by show (wr.setCell _ _).heap[_]? = _;rw[Below.heap_setCell _ _ _ _ (by show w.heap.size≠w.heap.size+1;omega)];exact HC0.out);have HF3:Hid (Below w.heap.size w ((wr.setCell ⟨w.heap.size+1,0,none⟩ (.int .i64 ((los s (j+1):Nat):Int))).drew)):=(HBL.out.setCell (by simp) _).drew;clear el hsum;go_wp2;go_region
   all_goals
    rw[HWR.out];go_wp2;go_roundw
    case rel=>exact ⟨j+1,by omega,by go_num,HF1.out,HF2.out,HF3.out⟩
    case measure=>simp[intOf];omega
  case neg=>
   obtain rfl:j=4:=(by omega);have hI:¬ ((4:Nat):Int)<4:=(by omega);have f0:wr.cell? ⟨w.heap.size+1,1,none⟩=some (.int .i64 (s.bad:Int)):=(by simp[World.cell?,HC.out]);have f1:wr.cell? ⟨w.heap.size+1,2,none⟩=some (.int .i64 (s.nowh:Int)):=(by simp[World.cell?,HC.out]);have f2:wr.cell? ⟨w.heap.size+1,3,none⟩=some (.int .i64 (s.late:Int)):=(by simp[World.cell?,HC.out]);have f3:wr.cell? ⟨w.heap.size+1,4,none⟩=some (.int .i64 (s.full:Int)):=(by simp[World.cell?,HC.out]);have g0:wr.cell? ⟨w.heap.size,0,none⟩=some (.int .i64 0):=(by simp[World.cell?,HC0.out]);have g1:wr.cell? ⟨w.heap.size,1,none⟩=some (.int .i64 0):=(by simp[World.cell?,HC0.out]);have g2:wr.cell? ⟨w.heap.size,2,none⟩=some (.int .i64 0):=(by simp[World.cell?,HC0.out]);have g3:wr.cell? ⟨w.heap.size,3,none⟩=some (.int .i64 0):=(by simp[World.cell?,HC0.out]);have g4:wr.cell? ⟨w.heap.size,4,none⟩=some (.int .i64 0):=(by simp[World.cell?,HC0.out]);have gz:∀ i:Nat,wr.frozen? ⟨w.heap.size,i,none⟩=false:=fun i=>by simp[World.frozen?,HC0.out]
   have HB:Hid (Below w.heap.size w (((((wr.setCell ⟨w.heap.size,0,none⟩ (.int .i64 (los s 4:Int))).setCell ⟨w.heap.size,1,none⟩ (.int .i64 (s.bad:Int))).setCell ⟨w.heap.size,2,none⟩ (.int .i64 (s.nowh:Int))).setCell ⟨w.heap.size,3,none⟩ (.int .i64 (s.late:Int))).setCell ⟨w.heap.size,4,none⟩ (.int .i64 (s.full:Int)))):=
    ((((HBL.out.setCell (Nat.le_refl _) _).setCell (Nat.le_refl _) _).setCell (Nat.le_refl _) _).setCell (Nat.le_refl _) _).setCell (Nat.le_refl _) _
   clear el;go_wp2;refine bodyPost_ret (v:=dv s (los s 4)) (by simp[results,results50,go_sem,dv,g0,g1,g2,g3,g4]) rfl ⟨rfl,HB.out⟩
end
end WeA
end Go.Proofs.YtmolafjalaeoaaaGreatDoor
