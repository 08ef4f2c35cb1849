/-
  InG
-/
import Derived.Test.YtmolafjalaeoaaaGreatDoorQbf
set_option maxRecDepth 100000
set_option maxHeartbeats 8000000
namespace Go.Proofs.YtmolafjalaeoaaaGreatDoor
open Tryz
namespace InA
open Go.RowKit TkM TkW TkA InM Go.Maps
theorem infoM:(prog.info? 205).map (fun i=>(i.zero,i.size,i.bytes))=some (some (.map none),1,8):=by kernel_rfl
theorem CrsAt.kp {V V':World} {MB:Nat} {q:Option Addr} {cs:List Cr} {ep:Nat->List Sg} {W need L n:Nat} (h:CrsAt V q cs ep W need L n) (hk:Kp (fun b=>b=MB) V V') (hm:∀ c t f,V.heap[MB]?≠some (.cells c t f)):CrsAt V' q cs ep W need L n where
 at_:=fun i x hx=>by
  obtain ⟨b,hq,hlt,h1,h2,h3,h4⟩:=h.at_ i x hx
  have ne:∀ (b j:Nat) (u:Value),V.cell? ⟨b,j,none⟩=some u->b≠MB:=fun b j u hc e=>by
   subst e;cases ho:V.heap[b]? with
   | none=>simp[World.cell?,ho] at hc
   | some o=>
    cases o with
    | cells c t f=>exact hm c t f ho
    | _=>simp[World.cell?,ho] at hc
  have hbk:V'.heap[b]?=V.heap[b]?:=hk.block b hlt (ne b _ _ h1);refine ⟨b,hq,Nat.lt_of_lt_of_le hlt hk.size,by rw[World.cell?_of_block (w:=V) hbk];exact h1,by rw[World.cell?_of_block (w:=V) hbk];exact h2,by rw[World.cell?_of_block (w:=V) hbk];exact h3,⟨fun j hj=>?_⟩⟩;obtain ⟨b',hp,hl',hc'⟩:=h4.at_ j hj;exact ⟨b',hp,Nat.lt_of_lt_of_le hl' hk.size,by rw[World.cell?_of_block (w:=V) (hk.block b' hl' (ne b' _ _ hc'))];exact hc'⟩
structure NxI (w2 V:World) (MB:Nat) (ep:Nat->List Sg) (W need span score k:Nat) (f:Nat->ByteArray->ByteArray) (names:List ByteArray) (m:Nat):Prop where
 out:∃ pf:ByteArray->ByteArray,MapIs V MB m pf/\(∀ g,g ∈ names.take m->Par knd (tog ep W need span k g) score g (ahd f k g) (pf g))/\(∀ g,g ∉ names.take m->pf g=⟨#[]⟩)
 kp:Kp (fun b=>b=MB) w2 V
theorem NxI.below {w2 V V':World} {MB:Nat} {ep:Nat->List Sg} {W need span score k:Nat} {f:Nat->ByteArray->ByteArray} {names:List ByteArray} {m:Nat} (h:NxI w2 V MB ep W need span score k f names m) (hb:Below V.heap.size V V'):NxI w2 V' MB ep W need span score k f names m where
 out:=by obtain ⟨pf,h1,h2,h3⟩:=h.out;exact ⟨pf,h1.keep (hb.block _ h1.lt),h2,h3⟩
 kp:=h.kp.trans (below_kp hb _)
theorem NxI.step {w2 V V':World} {MB:Nat} {ep:Nat->List Sg} {W need span score k:Nat} {f:Nat->ByteArray->ByteArray} {names:List ByteArray} {m:Nat} {g p:ByteArray} (h:NxI w2 V MB ep W need span score k f names m) (hg:names[m]?=some g) (hp:Par knd (tog ep W need span k g) score g (ahd f k g) p)
  (hk:Kp (fun b=>b=MB) w2 V') (hm:∀ pf,MapIs V MB m pf->pf g=⟨#[]⟩\/pf g=p->MapIs V' MB (m+1) (fun x=>if x=g then p else pf x)):NxI w2 V' MB ep W need span score k f names (m+1) where
 out:=by
  obtain ⟨pf,h1,h2,h3⟩:=h.out;have ht:names.take (m+1)=names.take m ++ [g]:=by rw[List.take_add_one,hg];rfl
  refine ⟨fun x=>if x=g then p else pf x,hm pf h1 ?_,fun x hx=>?_,fun x hx=>?_⟩
  ·by_cases hgm:g ∈ names.take m
   ·exact Or.inr ((h2 g hgm).unique hp)
   ·exact Or.inl (h3 g hgm)
  ·by_cases hxg:x=g
   ·simp only[hxg,if_true];exact hp
   ·simp only[hxg,if_false];rw[ht] at hx;rcases List.mem_append.1 hx with hx | hx
    ·exact h2 x hx
    ·exact absurd (by simpa using hx) hxg
  ·rw[ht] at hx;have h4:x≠g:=fun e=>hx (by rw[e];simp);have h5:x ∉ names.take m:=fun e=>hx (List.mem_append_left _ e);simp only[h4,if_false];exact h3 x h5
 kp:=hk
theorem NxI.prs {w2 V:World} {MB:Nat} {ep:Nat->List Sg} {W need span score k:Nat} {f:Nat->ByteArray->ByteArray} {names:List ByteArray} (h:NxI w2 V MB ep W need span score k f names names.length) (hn:∀ g,g ∈ names↔(∃ e,seenG g (ep e)=true)/\0<knd g) (hP:Prs knd ep W need span score f k) (h1 : 1<=score) (hne : 1<=need):∃ pf,MapIs V MB names.length pf/\Prs knd ep W need span score (fnext f k pf) (k+1):=by
 obtain ⟨pf,a1,a2,a3⟩:=h.out;rw[List.take_length] at a2 a3;refine ⟨pf,a1,hP.next (fun g=>?_)⟩;by_cases hg:g ∈ names
 ·exact a2 g hg
 ·rw[a3 g hg];refine par_none ?_;by_cases h0:knd g=0
  ·exact Or.inl h0
  ·refine Or.inr (fun x=>?_);have hu:¬ ∃ e,seenG g (ep e)=true:=fun hh=>hg ((hn g).2 ⟨hh,by omega⟩);rw[tog_unseen1 hne (unseen_of hu)];omega
theorem best_par {ep:Nat->List Sg} {W need span score k:Nat} {g was p:ByteArray} {names:List ByteArray} {c:Nat} {wb:Bool} (h:Bs knd (tog ep W need span k g) score g was names p c wb) (hn:∀ g,g ∈ names↔(∃ e,seenG g (ep e)=true)/\0<knd g) (hg:g ∈ names) (h1 : 1<=score) (hne : 1<=need):Par knd (tog ep W need span k g) score g was p:=by
 refine h.par ((hn g).1 hg).2 (fun y hy hs=>(hn y).2 ⟨?_,by omega⟩);by_cases hu:∃ e,seenG y (ep e)=true
 ·exact hu
 ·rw[tog_unseen2 hne (unseen_of hu)] at hs;omega
section
variable {w : World} {tb xb : Nat} {who : Nat → Nat × ByteArray × Nat} {F : Nat → Prop} {W need n r span score k : Nat} {ep : Nat → List Sg} {f : Nat → ByteArray → ByteArray}
structure NP (w w':World) (xb tb:Nat) (F:Nat->Prop) (ep:Nat->List Sg) (W need span score k:Nat):Prop where
 out:∃ (F':Nat->Prop) (f':Nat->ByteArray->ByteArray),InAt w' xb tb F' span score (k+1) f'/\Prs knd ep W need span score f' (k+1)/\Kp F w w'/\∀ b,F' b->F b\/w.heap.size<=b
theorem next_0 (d:TrAt w tb who W need n r ep) (x:InAt w xb tb F span score k f) (hT:TagA.Tabs w) (hP:Prs knd ep W need span score f k) (hk0:k=0) (hk:k<n) (hW:W<=8) (hne : 1<=need) (hn:n<=1000) (hr:r<=90000) (hs:∀ g,(∃ e,seenG g (ep e)=true)->g.size<=100000) (h8:span<=8) (h1 : 1<=score) (h2:score<=8) :
  Calls prog 77 #[.pointer (some ⟨xb,0,none⟩)] w fun e w'=>e = .returned (.bool true)/\NP w w' xb tb F ep W need span score k:=by
 obtain ⟨iM,hiM,hzM,hsM,hbM⟩:=info_parts infoM;have hmm:=@run_makeMap prog;have HD:Hid (TrAt w tb who W need n r ep):=d;have HX:Hid (InAt w xb tb F span score k f):=x;have HT:Hid (TagA.Tabs w):=hT;have HP:Hid (Prs knd ep W need span score f k):=hP;have HS:Hid (∀ g,(∃ e,seenG g (ep e)=true)->g.size<=100000):=hs;obtain ⟨xv,ms,xi⟩:=x.out;obtain ⟨px,capx,rfl,hmp⟩:=xi.form;have HXI:Hid (InIn w xb tb (.slice px k capx) ms F span score k f):=xi;have c3:=xi.c3;have c0:=xi.c0;have hkI:(k:Int)<n:=by omega
 have hkI':¬ (n:Int)<=k:=by omega
 have hkN':¬ n<=k:=by omega
 have hk9I:(k:Int)<=1000:=by omega
 have hlen:=xi.len;have HLK:Hid (∀ V g,Below w.heap.size w V->g.size<=100000->(Instr.lookup 205 (.map none) (.string g) false).run prog V = .ok (.agg #[.string (ahd f k g)]) V):=fun V g _ hg=>by have:=look_nil g V hg;unfold ahd;rw[if_pos hk0];exact this
 have hkz:¬ (0:Int)<k:=by omega
 have hkz':¬ 0<k:=by omega
 have HMB0:Hid (MapIs (w.alloc (.map #[] 0)) w.heap.size 0 (fun _=>⟨#[]⟩)/\Below w.heap.size w (w.alloc (.map #[] 0))/\w.heap.size<(w.alloc (.map #[] 0)).heap.size):=⟨MapIs.new w,(Below.refl _ w).alloc (Nat.le_refl _) _,by simp⟩;have HCR:Hid (Calls prog 110 #[.pointer (some ⟨xb,0,none⟩),.int .i64 (k:Int)] (w.alloc (.map #[] 0)) fun e' w'=>CP e' w' ep W need (lo span k) (k+1-lo span k)/\Below (w.alloc (.map #[] 0)).heap.size (w.alloc (.map #[] 0)) w'):=crates_any k (d.below HMB0.out.2.1) (x.below HMB0.out.2.1) (hT.below HMB0.out.2.1 hT.size) hW hn hk hr hs h8;clear d x hT hP hs hmp hlen xi hk0;go_enter func77,ntmps77;go_wp2_with fail;refine (epochs_any HD.out).mono ?_;rintro e w' ⟨rfl,rfl⟩;go_wp2_with fail;refine HCR.out.mono ?_;rintro e w2 ⟨hcp,hb2⟩;obtain ⟨q,cap,cs,rfl,hcr,hcl,hnm⟩:=hcp.out;obtain ⟨MB,hMB⟩:∃ MB,MB=w'.heap.size:=⟨_,rfl⟩;have HMB:Hid (MB=w'.heap.size):=hMB;have HCRS:Hid (CrsAt w2 q cs ep W need (lo span k) (k+1-lo span k)):=hcr;have HNM:Hid (∀ g,g ∈ cs.map (·.g)↔(∃ e,seenG g (ep e)=true)/\0<knd g):=hnm;have HB2:Hid (Below w'.heap.size w' w2):=HMB0.out.2.1.trans (hb2.mono HMB0.out.2.1.size);have HM2:Hid (MapIs w2 MB 0 (fun _=>⟨#[]⟩)):=by rw[hMB];exact HMB0.out.1.keep (hb2.block _ HMB0.out.2.2)
 obtain ⟨N,hN⟩:∃ N,N=cs.length:=⟨_,rfl⟩;have HN:Hid (N=cs.length):=hN;rw[<- hN] at hcl ⊢;rw[<- hMB];have hNI:(N:Int)<=90000:=by omega
 have HLN:Hid (k+1-lo span k<=8):=by show _<=_;unfold lo;omega
 clear hcp hcr hnm hb2 hN hMB HCR HMB0 c0 c3;go_wp2;go_loopw [8,9,38] (fun _ _ i V=>∃ m:Nat,m<=N/\i = .int .i64 (m:Int)/\NxI w2 V MB ep W need span score k f (cs.map (·.g)) m) (fun _ _ i _=>N-(intOf i).toNat)
 case atStart=>exact ⟨0,Nat.zero_le _,rfl,⟨⟨_,HM2.out,fun g hg=>by simp at hg,fun g _=>rfl⟩,Kp.refl _ _⟩⟩
 case round=>
  obtain ⟨m,hm,rfl,hI⟩:=hrel;have HI:Hid (NxI w2 wr MB ep W need span score k f (cs.map (·.g)) m):=hI;have HBW:Hid (Below w'.heap.size w' wr):=HB2.out.trans (hI.kp.below HB2.out.size (fun b hb e=>by have e:b=MB:=e;have:=HMB.out;omega));have HCW:Hid (CrsAt wr q cs ep W need (lo span k) (k+1-lo span k)):=HCRS.out.kp hI.kp (HM2.out.tag);clear hI;by_cases hlt:m<N
  case neg=>
   have hmN:m=N:=(by omega);subst hmN;have hII:¬ (m:Int)<m:=(by omega);have c3:wr.cell? ⟨xb,3,none⟩=some (.slice px k capx):=(by rw[HBW.out.cell HXI.out.lt];exact HXI.out.c3);have c3':∀ o,(wr.alloc o).cell? ⟨xb,3,none⟩=some (.slice px k capx):=fun o=>TagA.allocCell o c3
   have hpo:(wr.alloc (.cells #[.map (some MB)] 205)).ownsRow 0 205 1 (.slice px k capx) k (ms.map (fun b=>Value.map (some b))):=own_keep HXI.out.own (fun b hb=>by
    have hlt:=own_lt HXI.out.own hb;rw[Below.heap_alloc wr _ _ (by have:=HBW.out.size;omega),HBW.out.block b hlt])
   go_wp2_with (at_builtin;refine wpList_append_lies _ rfl _ _ 165 rfl 0 205 iM (.map none) 1 8 underlying165 hiM hzM hsM hbM rfl (by decide) _ _ _ rfl hpo ⟨wr.heap.size,0,none⟩ 1 1 [.map (some MB)] rfl rfl ?q1 ?q2 (by omega) ?q3 ?q4 ?q5 (wr.heap.size+1) ?q6 ?_)
   try case q1=>
    intro i u hi
    match i,hi with
    | 0,hi=>simp at hi;subst hi;simp[Addr.add]
   try case q2=>first | rfl | (intro u hu;simp at hu;subst hu;rfl)
   try case q3=>unfold maxLen;omega
   try case q4=>omega
   try case q5=>exact Nat.zero_le _
   try case q6=>simp
   intro g3 cv3 V3 hown3 hgrow3 hat3 hlt3;obtain ⟨pf,hpf,hprs⟩:=(show NxI w2 wr MB ep W need span score k f (cs.map (·.g)) (cs.map (·.g)).length by rw[List.length_map,<- HN.out];exact HI.out).prs HNM.out HP.out h1 hne;have hU:Below w'.heap.size w' (wr.alloc (.cells #[.map (some MB)] 205)):=HBW.out.alloc HBW.out.size _;have hmU:MapIs (wr.alloc (.cells #[.map (some MB)] 205)) MB 90000 pf:=(by have h:=hpf.keep (w':=wr.alloc (.cells #[.map (some MB)] 205)) (Below.heap_alloc wr _ _ hpf.lt);obtain ⟨mm,D,h1',h2',h3'⟩:=h.out;rw[List.length_map,<- HN.out] at h2';exact ⟨mm,D,h1',by omega,h3'⟩);have hnx:=HXI.out.next (V3:=V3) (g:=g3) (cap:=cv3) (mb:=MB) (pf:=pf) hU (by have:=HMB.out;omega) hmU (Or.inr hown3) hgrow3 (hat3.imp id (fun h=>by rw[World.size_alloc];omega)) rfl
   have HNX:Hid (NP w' (V3.setCell ⟨xb,3,none⟩ (.slice (some ⟨g3,0,none⟩) (k+1) cv3)) xb tb F ep W need span score k):=⟨_,_,⟨_,_,hnx.1⟩,hprs,hnx.2,fun b hb=>by
    rcases hb with h | h
    ·exact Or.inl h
    ·exact Or.inr h.1⟩
   have hx3:V3.heap[xb]?=some (.cells #[.pointer (some ⟨tb,0,none⟩),.int .i64 (span:Int),.int .i64 (score:Int),.slice px k capx] 167):=(by rw[hgrow3.block xb (Nat.lt_of_lt_of_le HXI.out.lt hU.size) (fun e=>(HXI.out.vne e.symm).1 rfl),hU.block xb HXI.out.lt];exact HXI.out.cells);have k3:=cell_of (i:=3) hx3 rfl;have f3:=fz_of (i:=3) hx3;clear hown3 hgrow3 hat3 hlt3 hpo hnx hmU hU hx3 hprs hpf c3 c3';go_wp2;go_ret;exact ⟨rfl,HNX.out⟩
  case pos=>
   have hmI:(m:Int)<N:=(by omega);have hm':m<cs.length:=(by rw[<- HN.out];exact hlt);obtain ⟨b,hqb,hblt,e0,e1,e2,hpo⟩:=HCW.out.at_ m _ (List.getElem?_eq_getElem hm');have HGM:Hid ((cs.map (·.g))[m]?=some cs[m].g):=(by show _ = _;rw[List.getElem?_map,List.getElem?_eq_getElem hm'];rfl);generalize cs[m]=y at *;obtain ⟨yg,yp,yc⟩:=y;simp only at e0 e1 e2 hpo HGM;subst hqb;have hyn:yg ∈ cs.map (·.g):=List.mem_of_getElem? HGM.out;have HYN:Hid (yg ∈ cs.map (·.g)):=hyn;have hyz:yg.size<=100000:=HS.out yg ((HNM.out yg).1 hyn).1;obtain ⟨X,hX⟩:∃ X,X=wr.alloc (.cells #[.string yg,.int .i64 (knd yg:Int),.slice yp (k+1-lo span k) yc] 209):=⟨_,rfl⟩;have hbX:Below wr.heap.size wr X:=(by rw[hX];exact (Below.refl _ wr).alloc (Nat.le_refl _) _);have HBX:Hid (Below w'.heap.size w' X):=HBW.out.trans (hbX.mono HBW.out.size);have hlk:=HLK.out (wr.alloc (.cells #[.string yg,.int .i64 (knd yg:Int),.slice yp (k+1-lo span k) yc] 209)) yg (by rw[<- hX];exact HBX.out) hyz;have HBE:Hid (Calls prog 111 #[.pointer (some ⟨xb,0,none⟩),.agg #[.string yg,.int .i64 (knd yg:Int),.slice yp (k+1-lo span k) yc],.slice (some ⟨b,0,none⟩) N cap,.agg #[.string (ahd f k yg)]] X fun e w'=>BP e (fun y=>tg (whr yg ep W need) (whr y ep W need) (lo span k) (k+1-lo span k)) score yg (ahd f k yg) (cs.map (·.g))/\Below X.heap.size X w'):=(by rw[HN.out];exact best_in yg (ahd f k yg) yp yc (some ⟨b,0,none⟩) cap cs (HX.out.below HBX.out) (hpo.below hbX) (HCW.out.below hbX) HLN.out (by rw[<- HN.out];omega) h1 h2);obtain ⟨ky,hky⟩:∃ ky,ky=knd yg:=⟨_,rfl⟩;obtain ⟨LN,hLN⟩:∃ LN,LN=k+1-lo span k:=⟨_,rfl⟩;obtain ⟨aw,haw⟩:∃ aw,aw=ahd f k yg:=⟨_,rfl⟩;have HAW:Hid (aw=ahd f k yg/\LN=k+1-lo span k):=⟨haw,hLN⟩;rw[<- hky,<- hLN] at hlk hX;rw[<- haw] at hlk;rw[<- hky,<- hLN,<- haw] at HBE;rw[<- hky] at e1;rw[<- hLN] at e2;have HIX:Hid (NxI w2 X MB ep W need span score k f (cs.map (·.g)) m):=HI.out.below hbX;have hX':=hX;have hXc:X.heap[wr.heap.size]?=some (.cells #[.string yg,.int .i64 (ky:Int),.slice yp LN yc] 209):=(by rw[hX];exact Go.heap_alloc_new wr _);have HXC:Hid (X.heap[wr.heap.size]?=some (.cells #[.string yg,.int .i64 (ky:Int),.slice yp LN yc] 209)):=hXc;clear hpo hyn hX hbX hky hLN haw hXc;go_wp2_with fail;rw[<- hX'];clear hX' hlk e0 e1 e2;refine HBE.out.mono ?_;rintro e w3 ⟨hbp,hb3⟩;obtain ⟨p,c,wb,rfl,hBs,hc8⟩:=hbp.out;have HBS:Hid (Bs knd (tog ep W need span k yg) score yg (ahd f k yg) (cs.map (·.g)) p c wb):=(by have h:=hBs;rw[HAW.out.1,HAW.out.2] at h;exact h);have HPAR:Hid (Par knd (tog ep W need span k yg) score yg (ahd f k yg) p):=best_par HBS.out HNM.out HYN.out h1 hne;have HC0:Hid (c=0↔p=⟨#[]⟩):=HBS.out.cnt0 h1 knd_nil;have HI3:Hid (∀ o,NxI w2 (w3.alloc o) MB ep W need span score k f (cs.map (·.g)) m):=fun o=>(HIX.out.below hb3).below ((Below.refl _ w3).alloc (Nat.le_refl _) o);have k80:∀ o,(w3.alloc o).cell? ⟨wr.heap.size,0,none⟩=some (.string yg):=fun o=>TagA.allocCell o (TagA.keepCell hb3 (cell_of (i:=0) HXC.out rfl));have hcI:(c:Int)<=8:=(by omega);clear hbp hb3 hBs HBE HXC;by_cases hc0:c=0
   ·have hcI0:¬ (0:Int)<c:=(by omega);have hcN0:¬ 0<c:=by omega
    have HST:Hid (∀ o,NxI w2 (w3.alloc o) MB ep W need span score k f (cs.map (·.g)) (m+1)):=fun o=>(HI3.out o).step HGM.out HPAR.out (HI3.out o).kp (fun pf hm' hor=>by
     have hp0:=HC0.out.1 hc0;obtain ⟨mm,D,h1',h2',h3'⟩:=hm'.out;refine ⟨mm,D,h1',by omega,fun x zd=>?_⟩;by_cases e:x=yg
     ·rw[if_pos e,h3',e];rcases hor with hor | hor
      ·rw[hor,hp0]
      ·rw[hor]
     ·rw[if_neg e];exact h3' x zd)
    clear hc0;go_wp2;go_roundw
    case rel=>exact ⟨m+1,by omega,by go_num,HST.out _⟩
    case measure=>simp[intOf];omega
   ·have hcI0:(0:Int)<c:=(by omega);have hcN0 : 0<c:=(by omega);obtain ⟨o3,ho3⟩:∃ o3,o3=Obj.cells #[.string p,.int .i64 (c:Int),.bool wb] 211:=⟨_,rfl⟩;obtain ⟨pf0,hm0,_,_⟩:=(HI3.out o3).out;have hpn:p≠⟨#[]⟩:=fun e=>hc0 (HC0.out.2 e);obtain ⟨w4,hrun4,hm4,hg4⟩:=hm0.put yg p hyz hpn (by omega)
    have HST:Hid (NxI w2 w4 MB ep W need span score k f (cs.map (·.g)) (m+1)):=(HI3.out o3).step HGM.out HPAR.out ((HI3.out o3).kp.trans (grown_kp hg4 (fun b e=>by simpa using e.symm))) (fun pf hm' _=>by
     obtain ⟨w5,hr5,hm5,_⟩:=hm'.put yg p hyz hpn (by omega);have e5:w5=w4:=(by rw[hrun4] at hr5;simpa using hr5.symm);rw[<- e5];exact hm5)
    rw[ho3] at hrun4;clear hc0 hm0 hm4 hg4 ho3;go_wp2;go_roundw
    case rel=>exact ⟨m+1,by omega,by go_num,HST.out⟩
    case measure=>simp[intOf];omega
theorem next_1 (d:TrAt w tb who W need n r ep) (x:InAt w xb tb F span score k f) (hT:TagA.Tabs w) (hP:Prs knd ep W need span score f k) (hk0 : 0<k) (hk:k<n) (hW:W<=8) (hne : 1<=need) (hn:n<=1000) (hr:r<=90000) (hs:∀ g,(∃ e,seenG g (ep e)=true)->g.size<=100000) (h8:span<=8) (h1 : 1<=score) (h2:score<=8) :
  Calls prog 77 #[.pointer (some ⟨xb,0,none⟩)] w fun e w'=>e = .returned (.bool true)/\NP w w' xb tb F ep W need span score k:=by
 obtain ⟨iM,hiM,hzM,hsM,hbM⟩:=info_parts infoM;have hmm:=@run_makeMap prog;have HD:Hid (TrAt w tb who W need n r ep):=d;have HX:Hid (InAt w xb tb F span score k f):=x;have HT:Hid (TagA.Tabs w):=hT;have HP:Hid (Prs knd ep W need span score f k):=hP;have HS:Hid (∀ g,(∃ e,seenG g (ep e)=true)->g.size<=100000):=hs;obtain ⟨xv,ms,xi⟩:=x.out;obtain ⟨px,capx,rfl,hmp⟩:=xi.form;have HXI:Hid (InIn w xb tb (.slice px k capx) ms F span score k f):=xi;have c3:=xi.c3;have c0:=xi.c0;have hkI:(k:Int)<n:=by omega
 have hkI':¬ (n:Int)<=k:=by omega
 have hkN':¬ n<=k:=by omega
 have hk9I:(k:Int)<=1000:=by omega
 have hlen:=xi.len;obtain ⟨am,ham⟩:∃ am,ms[k-1]?=some am:=⟨_,List.getElem?_eq_getElem (by omega)⟩;obtain ⟨gx,rfl,hcx⟩:=hmp (k-1) am ham;have hmx:=xi.maps (k-1) am ham;obtain ⟨k1,hk1⟩:∃ k1,k=k1+1:=⟨k-1,by omega⟩;have HLK:Hid (∀ V g,Below w.heap.size w V->g.size<=100000->(Instr.lookup 205 (.map (some am)) (.string g) false).run prog V = .ok (.agg #[.string (ahd f k g)]) V):=fun V g hV hg=>by have:=(hmx.keep (hV.block _ hmx.lt)).look g hg;unfold ahd;rw[if_neg (by omega)];exact this
 have hcx':w.cell? ⟨gx,k1,none⟩=some (.map (some am)):=by rw[show k1=k-1 by omega];exact hcx
 have hkz:(0:Int)<k:=by omega
 have hkz' : 0<k:=by omega
 have hkp:(k:Int)-1=(k1:Int):=by omega
 have hkp1:(k1:Int)<k:=by omega
 have hkp2:k1<k:=by omega
 clear hk1 ham hmx hcx;have HMB0:Hid (MapIs (w.alloc (.map #[] 0)) w.heap.size 0 (fun _=>⟨#[]⟩)/\Below w.heap.size w (w.alloc (.map #[] 0))/\w.heap.size<(w.alloc (.map #[] 0)).heap.size):=⟨MapIs.new w,(Below.refl _ w).alloc (Nat.le_refl _) _,by simp⟩;have HCR:Hid (Calls prog 110 #[.pointer (some ⟨xb,0,none⟩),.int .i64 (k:Int)] (w.alloc (.map #[] 0)) fun e' w'=>CP e' w' ep W need (lo span k) (k+1-lo span k)/\Below (w.alloc (.map #[] 0)).heap.size (w.alloc (.map #[] 0)) w'):=crates_any k (d.below HMB0.out.2.1) (x.below HMB0.out.2.1) (hT.below HMB0.out.2.1 hT.size) hW hn hk hr hs h8;clear d x hT hP hs hmp hlen xi hk0;go_enter func77,ntmps77;go_wp2_with fail;refine (epochs_any HD.out).mono ?_;rintro e w' ⟨rfl,rfl⟩;go_wp2_with fail;refine HCR.out.mono ?_;rintro e w2 ⟨hcp,hb2⟩;obtain ⟨q,cap,cs,rfl,hcr,hcl,hnm⟩:=hcp.out;obtain ⟨MB,hMB⟩:∃ MB,MB=w'.heap.size:=⟨_,rfl⟩;have HMB:Hid (MB=w'.heap.size):=hMB;have HCRS:Hid (CrsAt w2 q cs ep W need (lo span k) (k+1-lo span k)):=hcr;have HNM:Hid (∀ g,g ∈ cs.map (·.g)↔(∃ e,seenG g (ep e)=true)/\0<knd g):=hnm;have HB2:Hid (Below w'.heap.size w' w2):=HMB0.out.2.1.trans (hb2.mono HMB0.out.2.1.size);have HM2:Hid (MapIs w2 MB 0 (fun _=>⟨#[]⟩)):=by rw[hMB];exact HMB0.out.1.keep (hb2.block _ HMB0.out.2.2)
 obtain ⟨N,hN⟩:∃ N,N=cs.length:=⟨_,rfl⟩;have HN:Hid (N=cs.length):=hN;rw[<- hN] at hcl ⊢;rw[<- hMB];have hNI:(N:Int)<=90000:=by omega
 have HLN:Hid (k+1-lo span k<=8):=by show _<=_;unfold lo;omega
 clear hcp hcr hnm hb2 hN hMB HCR HMB0 c0 c3;go_wp2;go_loopw [8,9,38] (fun _ _ i V=>∃ m:Nat,m<=N/\i = .int .i64 (m:Int)/\NxI w2 V MB ep W need span score k f (cs.map (·.g)) m) (fun _ _ i _=>N-(intOf i).toNat)
 case atStart=>exact ⟨0,Nat.zero_le _,rfl,⟨⟨_,HM2.out,fun g hg=>by simp at hg,fun g _=>rfl⟩,Kp.refl _ _⟩⟩
 case round=>
  obtain ⟨m,hm,rfl,hI⟩:=hrel;have HI:Hid (NxI w2 wr MB ep W need span score k f (cs.map (·.g)) m):=hI;have HBW:Hid (Below w'.heap.size w' wr):=HB2.out.trans (hI.kp.below HB2.out.size (fun b hb e=>by have e:b=MB:=e;have:=HMB.out;omega));have HCW:Hid (CrsAt wr q cs ep W need (lo span k) (k+1-lo span k)):=HCRS.out.kp hI.kp (HM2.out.tag);clear hI;by_cases hlt:m<N
  case neg=>
   have hmN:m=N:=(by omega);subst hmN;have hII:¬ (m:Int)<m:=(by omega);have c3:wr.cell? ⟨xb,3,none⟩=some (.slice (some ⟨gx,0,none⟩) k capx):=(by rw[HBW.out.cell HXI.out.lt];exact HXI.out.c3);have c3':∀ o,(wr.alloc o).cell? ⟨xb,3,none⟩=some (.slice (some ⟨gx,0,none⟩) k capx):=fun o=>TagA.allocCell o c3
   have hpo:(wr.alloc (.cells #[.map (some MB)] 205)).ownsRow 0 205 1 (.slice (some ⟨gx,0,none⟩) k capx) k (ms.map (fun b=>Value.map (some b))):=own_keep HXI.out.own (fun b hb=>by
    have hlt:=own_lt HXI.out.own hb;rw[Below.heap_alloc wr _ _ (by have:=HBW.out.size;omega),HBW.out.block b hlt])
   go_wp2_with (at_builtin;refine wpList_append_lies _ rfl _ _ 165 rfl 0 205 iM (.map none) 1 8 underlying165 hiM hzM hsM hbM rfl (by decide) _ _ _ rfl hpo ⟨wr.heap.size,0,none⟩ 1 1 [.map (some MB)] rfl rfl ?q1 ?q2 (by omega) ?q3 ?q4 ?q5 (wr.heap.size+1) ?q6 ?_)
   try case q1=>
    intro i u hi
    match i,hi with
    | 0,hi=>simp at hi;subst hi;simp[Addr.add]
   try case q2=>first | rfl | (intro u hu;simp at hu;subst hu;rfl)
   try case q3=>unfold maxLen;omega
   try case q4=>omega
   try case q5=>exact Nat.zero_le _
   try case q6=>simp
   intro g3 cv3 V3 hown3 hgrow3 hat3 hlt3;obtain ⟨pf,hpf,hprs⟩:=(show NxI w2 wr MB ep W need span score k f (cs.map (·.g)) (cs.map (·.g)).length by rw[List.length_map,<- HN.out];exact HI.out).prs HNM.out HP.out h1 hne;have hU:Below w'.heap.size w' (wr.alloc (.cells #[.map (some MB)] 205)):=HBW.out.alloc HBW.out.size _;have hmU:MapIs (wr.alloc (.cells #[.map (some MB)] 205)) MB 90000 pf:=(by have h:=hpf.keep (w':=wr.alloc (.cells #[.map (some MB)] 205)) (Below.heap_alloc wr _ _ hpf.lt);obtain ⟨mm,D,h1',h2',h3'⟩:=h.out;rw[List.length_map,<- HN.out] at h2';exact ⟨mm,D,h1',by omega,h3'⟩);have hnx:=HXI.out.next (V3:=V3) (g:=g3) (cap:=cv3) (mb:=MB) (pf:=pf) hU (by have:=HMB.out;omega) hmU (Or.inr hown3) hgrow3 (hat3.imp id (fun h=>by rw[World.size_alloc];omega)) rfl
   have HNX:Hid (NP w' (V3.setCell ⟨xb,3,none⟩ (.slice (some ⟨g3,0,none⟩) (k+1) cv3)) xb tb F ep W need span score k):=⟨_,_,⟨_,_,hnx.1⟩,hprs,hnx.2,fun b hb=>by
    rcases hb with h | h
    ·exact Or.inl h
    ·exact Or.inr h.1⟩
   have hx3:V3.heap[xb]?=some (.cells #[.pointer (some ⟨tb,0,none⟩),.int .i64 (span:Int),.int .i64 (score:Int),.slice (some ⟨gx,0,none⟩) k capx] 167):=(by rw[hgrow3.block xb (Nat.lt_of_lt_of_le HXI.out.lt hU.size) (fun e=>(HXI.out.vne e.symm).1 rfl),hU.block xb HXI.out.lt];exact HXI.out.cells);have k3:=cell_of (i:=3) hx3 rfl;have f3:=fz_of (i:=3) hx3;clear hown3 hgrow3 hat3 hlt3 hpo hnx hmU hU hx3 hprs hpf c3 c3';go_wp2;go_ret;exact ⟨rfl,HNX.out⟩
  case pos=>
   have hmI:(m:Int)<N:=(by omega);have hm':m<cs.length:=(by rw[<- HN.out];exact hlt);obtain ⟨b,hqb,hblt,e0,e1,e2,hpo⟩:=HCW.out.at_ m _ (List.getElem?_eq_getElem hm');have HGM:Hid ((cs.map (·.g))[m]?=some cs[m].g):=(by show _ = _;rw[List.getElem?_map,List.getElem?_eq_getElem hm'];rfl);generalize cs[m]=y at *;obtain ⟨yg,yp,yc⟩:=y;simp only at e0 e1 e2 hpo HGM;subst hqb;have hyn:yg ∈ cs.map (·.g):=List.mem_of_getElem? HGM.out;have HYN:Hid (yg ∈ cs.map (·.g)):=hyn;have hyz:yg.size<=100000:=HS.out yg ((HNM.out yg).1 hyn).1;obtain ⟨X,hX⟩:∃ X,X=wr.alloc (.cells #[.string yg,.int .i64 (knd yg:Int),.slice yp (k+1-lo span k) yc] 209):=⟨_,rfl⟩;have hbX:Below wr.heap.size wr X:=(by rw[hX];exact (Below.refl _ wr).alloc (Nat.le_refl _) _);have HBX:Hid (Below w'.heap.size w' X):=HBW.out.trans (hbX.mono HBW.out.size);have hlk:=HLK.out (wr.alloc (.cells #[.string yg,.int .i64 (knd yg:Int),.slice yp (k+1-lo span k) yc] 209)) yg (by rw[<- hX];exact HBX.out) hyz;have HBE:Hid (Calls prog 111 #[.pointer (some ⟨xb,0,none⟩),.agg #[.string yg,.int .i64 (knd yg:Int),.slice yp (k+1-lo span k) yc],.slice (some ⟨b,0,none⟩) N cap,.agg #[.string (ahd f k yg)]] X fun e w'=>BP e (fun y=>tg (whr yg ep W need) (whr y ep W need) (lo span k) (k+1-lo span k)) score yg (ahd f k yg) (cs.map (·.g))/\Below X.heap.size X w'):=(by rw[HN.out];exact best_in yg (ahd f k yg) yp yc (some ⟨b,0,none⟩) cap cs (HX.out.below HBX.out) (hpo.below hbX) (HCW.out.below hbX) HLN.out (by rw[<- HN.out];omega) h1 h2);obtain ⟨ky,hky⟩:∃ ky,ky=knd yg:=⟨_,rfl⟩;obtain ⟨LN,hLN⟩:∃ LN,LN=k+1-lo span k:=⟨_,rfl⟩;obtain ⟨aw,haw⟩:∃ aw,aw=ahd f k yg:=⟨_,rfl⟩;have HAW:Hid (aw=ahd f k yg/\LN=k+1-lo span k):=⟨haw,hLN⟩;rw[<- hky,<- hLN] at hlk hX;rw[<- haw] at hlk;rw[<- hky,<- hLN,<- haw] at HBE;rw[<- hky] at e1;rw[<- hLN] at e2;have HIX:Hid (NxI w2 X MB ep W need span score k f (cs.map (·.g)) m):=HI.out.below hbX;have hX':=hX;have hXc:X.heap[wr.heap.size]?=some (.cells #[.string yg,.int .i64 (ky:Int),.slice yp LN yc] 209):=(by rw[hX];exact Go.heap_alloc_new wr _);have HXC:Hid (X.heap[wr.heap.size]?=some (.cells #[.string yg,.int .i64 (ky:Int),.slice yp LN yc] 209)):=hXc;clear hpo hyn hX hbX hky hLN haw hXc;go_wp2_with fail;rw[<- hX'];clear hX' hlk e0 e1 e2;refine HBE.out.mono ?_;rintro e w3 ⟨hbp,hb3⟩;obtain ⟨p,c,wb,rfl,hBs,hc8⟩:=hbp.out;have HBS:Hid (Bs knd (tog ep W need span k yg) score yg (ahd f k yg) (cs.map (·.g)) p c wb):=(by have h:=hBs;rw[HAW.out.1,HAW.out.2] at h;exact h);have HPAR:Hid (Par knd (tog ep W need span k yg) score yg (ahd f k yg) p):=best_par HBS.out HNM.out HYN.out h1 hne;have HC0:Hid (c=0↔p=⟨#[]⟩):=HBS.out.cnt0 h1 knd_nil;have HI3:Hid (∀ o,NxI w2 (w3.alloc o) MB ep W need span score k f (cs.map (·.g)) m):=fun o=>(HIX.out.below hb3).below ((Below.refl _ w3).alloc (Nat.le_refl _) o);have k80:∀ o,(w3.alloc o).cell? ⟨wr.heap.size,0,none⟩=some (.string yg):=fun o=>TagA.allocCell o (TagA.keepCell hb3 (cell_of (i:=0) HXC.out rfl));have hcI:(c:Int)<=8:=(by omega);clear hbp hb3 hBs HBE HXC;by_cases hc0:c=0
   ·have hcI0:¬ (0:Int)<c:=(by omega);have hcN0:¬ 0<c:=by omega
    have HST:Hid (∀ o,NxI w2 (w3.alloc o) MB ep W need span score k f (cs.map (·.g)) (m+1)):=fun o=>(HI3.out o).step HGM.out HPAR.out (HI3.out o).kp (fun pf hm' hor=>by
     have hp0:=HC0.out.1 hc0;obtain ⟨mm,D,h1',h2',h3'⟩:=hm'.out;refine ⟨mm,D,h1',by omega,fun x zd=>?_⟩;by_cases e:x=yg
     ·rw[if_pos e,h3',e];rcases hor with hor | hor
      ·rw[hor,hp0]
      ·rw[hor]
     ·rw[if_neg e];exact h3' x zd)
    clear hc0;go_wp2;go_roundw
    case rel=>exact ⟨m+1,by omega,by go_num,HST.out _⟩
    case measure=>simp[intOf];omega
   ·have hcI0:(0:Int)<c:=(by omega);have hcN0 : 0<c:=(by omega);obtain ⟨o3,ho3⟩:∃ o3,o3=Obj.cells #[.string p,.int .i64 (c:Int),.bool wb] 211:=⟨_,rfl⟩;obtain ⟨pf0,hm0,_,_⟩:=(HI3.out o3).out;have hpn:p≠⟨#[]⟩:=fun e=>hc0 (HC0.out.2 e);obtain ⟨w4,hrun4,hm4,hg4⟩:=hm0.put yg p hyz hpn (by omega)
    have HST:Hid (NxI w2 w4 MB ep W need span score k f (cs.map (·.g)) (m+1)):=(HI3.out o3).step HGM.out HPAR.out ((HI3.out o3).kp.trans (grown_kp hg4 (fun b e=>by simpa using e.symm))) (fun pf hm' _=>by
     obtain ⟨w5,hr5,hm5,_⟩:=hm'.put yg p hyz hpn (by omega);have e5:w5=w4:=(by rw[hrun4] at hr5;simpa using hr5.symm);rw[<- e5];exact hm5)
    rw[ho3] at hrun4;clear hc0 hm0 hm4 hg4 ho3;go_wp2;go_roundw
    case rel=>exact ⟨m+1,by omega,by go_num,HST.out⟩
    case measure=>simp[intOf];omega
theorem next_yes (d:TrAt w tb who W need n r ep) (x:InAt w xb tb F span score k f) (hT:TagA.Tabs w) (hP:Prs knd ep W need span score f k) (hk:k<n) (hW:W<=8) (hne : 1<=need) (hn:n<=1000) (hr:r<=90000) (hs:∀ g,(∃ e,seenG g (ep e)=true)->g.size<=100000) (h8:span<=8) (h1 : 1<=score) (h2:score<=8) :
  Calls prog 77 #[.pointer (some ⟨xb,0,none⟩)] w fun e w'=>e = .returned (.bool true)/\NP w w' xb tb F ep W need span score k:=by
 by_cases h0:k=0
 ·exact next_0 d x hT hP h0 hk hW hne hn hr hs h8 h1 h2
 ·exact next_1 d x hT hP (by omega) hk hW hne hn hr hs h8 h1 h2
end
end InA
end Go.Proofs.YtmolafjalaeoaaaGreatDoor
