/-
  WeC
-/
import Derived.Test.YtmolafjalaeoaaaGreatDoorQbs
set_option maxRecDepth 100000
set_option maxHeartbeats 8000000
namespace Go.Proofs.YtmolafjalaeoaaaGreatDoor
open Go.Proofs.Tryz
namespace WeA
open Go.RowKit TkW WaM WaW WeW Go.Maps
open TkM (Sg epOf)
open TkA (RfAt sbeq_true sbeq_false)
open RuM (Rl)
theorem read_sum (c:Cf) (r:Nat) (s:St) (x:FrmM.Rd):(s.read c r x).sum=s.sum+1:=by obtain ⟨h1,h2,_⟩:=read_rest c r s x;unfold St.sum;rw[read_cnt,h1,h2];omega
theorem Sf.read {c:Cf} {s:St} (h:Sf c s) (hu:s.sum+1<=6000) (r:Nat) (x:FrmM.Rd):Sf c (s.read c r x):=by
 have hsum:=read_sum c r s x;refine ⟨h.cok,by rw[(read_rest c r s x).2.2.1];exact h.tim,?_,?_,by rw[hsum];exact hu⟩
 ·unfold St.read;split
  ·exact h.few
  ·split
   ·exact h.few
   ·split
    ·exact h.few
    ·rename_i hnf;split
     ·exact h.few
     ·show (kn (s.all ++ [sight c r s x])).length<=12;rw[kn_snoc];have:=h.few;unfold addT;split
      ·exact this
      ·rename_i hn;rw[List.length_append,List.length_singleton]
       have hz:hasT (kn s.all) x.t=false:=by
        cases hh:hasT (kn s.all) x.t with
        | false=>rfl
        | true=>exact absurd hh hn
       have:¬ 12<=(kn s.all).length:=fun hh=>hnf ⟨hz,hh⟩;omega
 ·rw[(read_rest c r s x).2.2.1];unfold St.read;split
  ·exact h.sok
  ·rename_i hk;split
   ·exact h.sok
   ·split
    ·exact h.sok
    ·split
     ·exact h.sok
     ·rename_i hadd;intro y hy;rcases List.mem_append.1 hy with hy | hy
      ·exact h.sok y hy
      ·simp only[List.mem_singleton] at hy;subst hy;have h0:EpM.addF c.len c.late s.now (sight c r s x)=0:=(by apply Decidable.byContradiction;exact hadd);refine ⟨?_,?_⟩
       ·unfold EpM.addF at h0;split at h0
        ·assumption
        ·omega
       ·show 0<InA.knd x.t;omega
theorem Sf.heat {c:Cf} {s:St} (h:Sf c s) (r:Nat) (f:FrmM.Fr):Sf c (s.heat r f):=by
 unfold St.heat;split
 ·exact ⟨h.cok,h.tim,h.few,h.sok,h.use⟩
 ·exact h
theorem Sf.reads {c:Cf} (r:Nat):∀ (l:List FrmM.Rd) {s:St},Sf c s->s.sum+l.length<=6000->Sf c (l.foldl (St.read c r) s)
 | [],_,h,_=>h
 | x::l,s,h,hu=>by rw[List.length_cons] at hu;exact Sf.reads r l (h.read (by omega) r x) (by rw[read_sum];omega)
theorem heat_sum (r:Nat) (s:St) (f:FrmM.Fr):(s.heat r f).sum=s.sum:=by unfold St.heat;split<;>rfl
theorem Sf.hear {c:Cf} {s:St} (h:Sf c s) (r:Nat) (f:FrmM.Fr) (hu:s.sum+f.rs.length<=6000):Sf c (s.hear c r f):=
 Sf.reads r f.rs (h.heat r f) (by rw[heat_sum];exact hu)
theorem Sf.hears {c:Cf} (r:Nat):∀ (fs:List FrmM.Fr) {s:St},Sf c s->s.sum+rdsN fs<=6000->Sf c (fs.foldl (St.hear c r) s)
 | [],_,h,_=>h
 | f::fs,s,h,hu=>by
  have e:rdsN (f::fs)=f.rs.length+rdsN fs:=by simp[rdsN]
  rw[e] at hu;have e2:(s.hear c r f).sum=s.sum+f.rs.length:=by have:=WaB.hears_sum c r [f] s;simpa [rdsN] using this
  exact Sf.hears r fs (h.hear r f (by omega)) (by rw[e2];omega)
theorem dcv_line (c:Cf) (s:St) (p:Dp) {r:Nat} (hr:r<4) (R:List UInt8) (n:Nat) (j:Nat) (hj:j<46):dcv c (s.line r R n) p j=if j=23+r*2+1 then .int .i64 (n:Int) else if j=23+r*2 then .string (FrmA.str R) else dcv c s p j:=by
 by_cases h5:j<35
 ·by_cases h23:j<23
  ·rw[if_neg (by omega),if_neg (by omega)];unfold dcv;by_cases h22:j<22
   ·rw[if_pos h22,if_pos h22]
   ·rw[if_neg h22,if_neg h22,if_pos h5,if_pos h5,if_pos (show j=22 by omega),if_pos (show j=22 by omega)]
  ·by_cases h31:j<31
   ·have e:∀ s:St,dcv c s p j=if (j-23)%2=0 then .string (FrmA.str (s.rest ((j-23)/2))) else .int .i64 (s.lost ((j-23)/2):Int):=fun s=>by unfold dcv;rw[if_neg (show ¬ j<22 by omega),if_pos h5,if_neg (show ¬ j=22 by omega),if_pos h31]
    rw[e,e];unfold St.line upd;by_cases h0:(j-23)%2=0
    ·rw[if_pos h0,if_pos h0,if_neg (by omega)];by_cases h1:(j-23)/2=r
     ·rw[if_pos (show j=23+r*2 by omega)];simp only;rw[if_pos h1]
     ·rw[if_neg (show ¬ j=23+r*2 by omega)];simp only;rw[if_neg h1]
    ·rw[if_neg h0,if_neg h0];by_cases h1:(j-23)/2=r
     ·rw[if_pos (show j=23+r*2+1 by omega)];simp only;rw[if_pos h1]
     ·rw[if_neg (show ¬ j=23+r*2+1 by omega),if_neg (show ¬ j=23+r*2 by omega)];simp only;rw[if_neg h1]
   ·rw[if_neg (by omega),if_neg (by omega),dcv_w c _ p h31 h5,dcv_w c s p h31 h5];rfl
 ·rw[if_neg (by omega),if_neg (by omega)];rcases hi_cases h5 hj with h | h | h | h | h | h | h | h | h | h | h<;>subst h<;>rfl
def layD (c:Cf) (s:St) (p:Dp) (r:Nat) (hr:r<4):FrmA.Lay:=⟨23+r*2,dcs c s p,67,by rw[dcs_size];omega⟩
theorem layD_obj (c:Cf) (s:St) (p:Dp) (r:Nat) (hr:r<4) (R:List UInt8) (n:Nat):(layD c s p r hr).obj (FrmA.str R) n = .cells (dcs c (s.line r R n) p) 67:=by
 unfold FrmA.Lay.obj layD;simp only
 have e:((dcs c s p).setIfInBounds (23+r*2) (.string (FrmA.str R))).setIfInBounds (23+r*2+1) (.int .i64 (n:Int))=dcs c (s.line r R n) p:=by
  apply Array.ext_getElem?;intro j;rw[Array.getElem?_setIfInBounds,Array.getElem?_setIfInBounds,Array.size_setIfInBounds,dcs_size];by_cases hj:j<46
  ·rw[dcs_at c (s.line r R n) p hj,dcs_at c s p hj,dcv_line c s p hr R n j hj];by_cases h1:j=23+r*2+1
   ·subst h1;simp[hj]
   ·have h1':¬ 23+r*2+1=j:=fun e=>h1 e.symm;rw[if_neg h1',if_neg h1];by_cases h2:j=23+r*2
    ·subst h2;simp[hj]
    ·have h2':¬ 23+r*2=j:=fun e=>h2 e.symm;rw[if_neg h2',if_neg h2]
  ·have e1:(dcs c (s.line r R n) p)[j]?=none:=Array.getElem?_eq_none (by rw[dcs_size];omega);have e2:(dcs c s p)[j]?=none:=Array.getElem?_eq_none (by rw[dcs_size];omega);rw[e1,e2];have h1':¬ 23+r*2+1=j:=(by omega);have h2':¬ 23+r*2=j:=(by omega);simp[h1',h2']
 rw[e]
theorem lineD_at {w:World} {rb:Nat} {c:Cf} {s:St} {p:Dp} (r:Nat) (hr:r<4) (hb:w.heap[rb]?=some (.cells (dcs c s p) 67)):FrmA.LineAt w rb (layD c s p r hr) (FrmA.str (s.rest r)) (s.lost r):=⟨by rw[layD_obj,WaB.line_self];exact hb⟩
section
variable {w w' w0 : World} {rb : Nat} {ow : Nat → Nat} {c : Cf} {rs : List Rl} {s s' : St} {k q : Nat} {L : List ByteArray} {p : Dp}
theorem DaK.lim (h:DaK w rb ow c rs s k q) {b:Nat} (hb:ow b≠0):b<w.heap.size:=by obtain ⟨_,h⟩:=h.out;exact h.lim b hb
theorem rfeed_noreader (r:Int) (b:ByteArray) (hr:¬ (0<=r/\r<=3)) :
  Calls prog 17 #[.pointer (some ⟨rb,0,none⟩),.int .i64 r,.string b] w fun e w'=>e = .returned (.tuple #[.int .i64 0,.int .i64 1])/\w'=w:=by
 by_cases h0:r<0
 ·have h1:decide (r<0)=true:=by simpa using h0
  clear hr;go_enter func17,ntmps17;go_wp2;go_ret2;exact ⟨rfl,rfl⟩
 ·have h1:decide (r<0)=false:=by simpa using h0
  have h2:(3:Int)<r:=by omega
  have h3:decide ((3:Int)<r)=true:=by simpa using h2
  clear hr;go_enter func17,ntmps17;go_wp2;go_ret2;exact ⟨rfl,rfl⟩
theorem rfeed_long (r:Nat) (b:ByteArray) (hr:r<4) (hb : 2000<b.size) (hm:b.size<=9223372036854775807) :
  Calls prog 17 #[.pointer (some ⟨rb,0,none⟩),.int .i64 (r:Int),.string b] w fun e w'=>e = .returned (.tuple #[.int .i64 0,.int .i64 2])/\w'=w:=by
 have hI:(2000:Int)<b.size:=by omega
 have h1:¬ (r:Int)<0:=by omega
 have h2:¬ (3:Int)<r:=by omega
 go_enter func17,ntmps17;go_wp2;go_ret2;exact ⟨rfl,rfl⟩
theorem rfeed_ok (r:Nat) (b:ByteArray) (h:DaK w rb ow c rs s k q) (hf:Sf c s) (hk:k=s.cl c) (hr:r<4) (hb:b.size<=2000) (hu:s.sum+b.size<=6000) :
  Calls prog 17 #[.pointer (some ⟨rb,0,none⟩),.int .i64 (r:Int),.string b] w fun e w'=>e = .returned (.tuple #[.int .i64 ((FrmM.feed (s.rest r++b.data.toList)).1.length:Int),.int .i64 0])/\DTo w w' rb ow c rs (s.feed c r b.data.toList) k q:=by
 have hrI:(r:Int)<4:=by omega
 have hr0:¬ (r:Int)<0:=by omega
 have hr3:¬ (3:Int)<r:=by omega
 have hI:¬ (2000:Int)<b.size:=by omega
 obtain ⟨p,hp⟩:=h.out;have hlr:s.cnt+(s.rest r).length+s.lost r<=6000:=Nat.le_trans (sum_rest hr) hf.use;have hblen:b.data.toList.length=b.size:=by simp
 have HFS:=feed_sum c r s b.data.toList hr;rw[hblen] at HFS;have hFS:(s.feed c r b.data.toList).sum<=6000:=by omega
 obtain ⟨fs,n,R,hfd⟩:∃ fs n R,FrmM.feed (s.rest r++b.data.toList)=(fs,n,R):=⟨_,_,_,rfl⟩;have hok:=FrmM.feed_ok (s.rest r++b.data.toList);have hfe:s.feed c r b.data.toList=fs.foldl (St.hear c r) (s.line r R (s.lost r+n)):=by unfold St.feed;rw[hfd]
 have hfl:=FrmM.feed_len (s.rest r++b.data.toList);rw[hfd] at hok hfl ⊢;simp only at hok hfl ⊢;rw[hfe] at hFS ⊢;rw[List.length_append,hblen] at hfl;have HOK:Hid (∀ f ∈ fs,FrmM.Ok f):=hok;have HFSM:Hid ((fs.foldl (St.hear c r) (s.line r R (s.lost r+n))).sum<=6000):=hFS
 have HFC:Hid (Calls prog 47 #[.pointer (some ⟨rb,23+r*2,none⟩),.string b] w fun e w'=>∃ v,e = .returned v/\FrmA.FramesOwn w' w.heap.size w.heap.size v fs/\w'.heap[rb]?=some (.cells (dcs c (s.line r R (s.lost r+n)) p) 67)/\FrmA.But w.heap.size rb w w'):=by
  have hsl:(FrmA.str (s.rest r)).size=(s.rest r).length:=by simp[FrmA.str,ByteArray.size]
  have hsd:(FrmA.str (s.rest r)).data.toList=s.rest r:=by simp[FrmA.str]
  refine (FrmA.refFeed_any (L:=layD c s p r hr) rb (FrmA.str (s.rest r)) b (s.lost r) w (lineD_at r hr hp.blk) (by rw[hsl];omega) (by omega)).mono ?_;rintro e w' ⟨v,rfl,h1,h2,h3⟩;rw[hsd,hfd] at h1 h2;refine ⟨v,rfl,h1,?_,h3⟩;rw[h2.at_,layD_obj]
 have HH:Hid (Da w rb ow c rs s k q (kn s.all) p):=hp;have HK:Hid (k=s.cl c):=hk;have HF:Hid (Sf c s):=hf;obtain ⟨N,hN⟩:∃ N,N=fs.length:=⟨_,rfl⟩;have HN:Hid (N=fs.length):=hN;rw[<- hN] at hfl ⊢;have hN9:N<=100000:=by omega
 have hLS:(s.line r R (s.lost r+n)).sum<=6000:=by have:=WaB.hears_sum c r fs (s.line r R (s.lost r+n));omega
 obtain ⟨s1,hs1⟩:∃ s1,s1=s.line r R (s.lost r+n):=⟨_,rfl⟩;have HS1:Hid (s1=s.line r R (s.lost r+n)):=hs1;have HF1:Hid (Sf c s1):=by rw[hs1];exact ⟨hf.cok,hf.tim,hf.few,hf.sok,hLS⟩
 rw[<- hs1];rw[<- hs1] at HFSM HFC hLS;clear h hp hk hfd hok hfe hFS HFS hblen hN hfl hu hlr hs1 hf hLS;go_enter func17,ntmps17;go_wp2_with fail;refine Calls.mono HFC.out ?_;rintro e w1 ⟨v,rfl,hfo,hblk,hbut⟩;have hlm:∀ b,ow b≠0->b<w.heap.size:=HH.out.lim;have h1:Da w1 rb ow c rs s1 k q (kn s.all) p:=Da.own HH.out hbut.size (fun b hb _ hne=>hbut.block b hb hne) hblk (by rw[HS1.out];rfl) (WaB.Ep_all (by rw[HS1.out];rfl) k);have hwp:Wp w w1 ow ow:=⟨⟨hbut.os,hbut.tape,hbut.output,hbut.size,fun b hb hn=>hbut.block b hb (fun e=>hn (by rw[e,HH.out.ob];decide))⟩,fun _ h=>Or.inl h⟩;have H1:Hid (DaK w1 rb ow c rs s1 k q):=⟨p,by rw[show kn s1.all=kn s.all by rw[HS1.out];rfl];exact h1⟩;have HWP1:Hid (Wp w w1 ow ow):=hwp;obtain ⟨ps,hpl,hrow,hrd⟩:=hfo.out;have HPL:Hid (ps.length=fs.length):=hpl;have HROW:Hid (w1.ownsRow w.heap.size 93 3 v fs.length (FrmA.frCells fs ps)):=hrow;have HRD:Hid (∀ (k:Nat) (f:FrmM.Fr) (pc:Option Addr×Nat),fs[k]?=some f->ps[k]?=some pc->FrmA.ReadsOn w1 pc.1 f.rs/\(f.rs≠[]->∃ b o,pc.1=some ⟨b,o,none⟩/\w.heap.size<=b/\v.ownBlock≠some b)):=hrd
 obtain ⟨fq,cp,hv⟩:∃ fq cp,v = .slice fq N cp:=by
  rw[HN.out];rcases hrow.2 with ⟨rfl,h0⟩ | ⟨g,cap,cur,hv,_⟩
  ·exact ⟨none,0,by rw[h0]⟩
  ·exact ⟨_,_,hv⟩
 have HLM:Hid (∀ b,ow b≠0->b<w.heap.size):=hlm;subst hv;clear hfo hblk hbut h1 hwp hpl hrow hrd hlm HFC;go_wp2;go_loopw [9,10] (fun i _ V=>∃ (j:Nat) (ow':Nat->Nat),j<=N/\i = .int .i64 (j:Int)/\DaK V rb ow' c rs ((fs.take j).foldl (St.hear c r) s1) k q/\Wp w1 V ow ow') (fun i _ _=>N-(intOf i).toNat)
 case atStart=>exact ⟨0,ow,Nat.zero_le _,rfl,H1.out,Wp.refl _ _⟩
 case round=>
  obtain ⟨j,ow',hj,rfl,hw,hwp⟩:=hrel;have HW:Hid (DaK wr rb ow' c rs ((fs.take j).foldl (St.hear c r) s1) k q):=hw;have HWP:Hid (Wp w1 wr ow ow'):=hwp;clear hw hwp;by_cases hlt:j<N
  case neg=>obtain rfl:j=N:=(by omega);have hII:¬ (j:Int)<j:=(by omega);have HFI:Hid (DTo w wr rb ow c rs (fs.foldl (St.hear c r) s1) k q):=⟨ow',by have:=HW.out;rw[HN.out,List.take_length] at this;exact this,HWP1.out.trans HWP.out⟩;go_wp2;go_ret2;exact ⟨rfl,HFI.out⟩
  case pos=>
   have hII:(j:Int)<N:=(by omega);have hj':j<fs.length:=(by rw[<- HN.out];exact hlt);have hjp:j<ps.length:=(by rw[HPL.out];exact hj');have hfj:fs[j]?=some fs[j]:=List.getElem?_eq_getElem hj';have hpj:ps[j]?=some ps[j]:=List.getElem?_eq_getElem hjp;obtain ⟨hon,hblk⟩:=HRD.out j _ _ hfj hpj;obtain ⟨g,cp',hq,hg1,hg2⟩:=HROW.out.form (by omega);obtain ⟨rfl,hcp⟩:fq=some ⟨g,0,none⟩/\True:=(by simp at hq;exact ⟨hq.1,trivial⟩);have hcl:∀ i u,i<3->(FrmA.frCells1 fs[j] ps[j])[i]?=some u->w1.cell? ⟨g,j*3+i,none⟩=some u:=fun i u hi hu=>(by have:=HROW.out.cells (g:=g) rfl (j*3+i) u (by rw[FrmA.frCells_at fs ps j i _ _ hfj hpj hi];exact hu);rw[addr_add] at this;exact this);have hog:ow g=0:=(by apply Decidable.byContradiction;intro hn;have:=HLM.out g hn;omega);have HCL:Hid (∀ V (o2:Nat->Nat),Wp w1 V ow o2->V.cell? ⟨g,j*3,none⟩=some (.int .i64 fs[j].ty)/\V.cell? ⟨g,j*3+1,none⟩=some (.slice ps[j].1 fs[j].rs.length ps[j].2)/\V.cell? ⟨g,j*3+1+1,none⟩=some (.int .i64 fs[j].wm)):=fun V o2 hV=>(by have hgk:V.heap[g]?=w1.heap[g]?:=hV.kp.block g hg2 (fun e=>e hog);exact ⟨by rw[World.cell?_of_block (w:=w1) hgk];exact hcl 0 _ (by omega) rfl,by rw[World.cell?_of_block (w:=w1) hgk];exact hcl 1 _ (by omega) rfl,by rw[World.cell?_of_block (w:=w1) hgk];exact hcl 2 _ (by omega) rfl⟩);have hfok:=HOK.out _ (List.getElem_mem hj');have HTK:Hid (fs.take (j+1)=fs.take j ++ [fs[j]]):=List.take_succ_eq_append_getElem hj';have HRDS:Hid (∀ V (o2:Nat->Nat),Wp w1 V ow o2->fs[j].rs≠[]->∃ b o,ps[j].1=some ⟨b,o,none⟩/\∀ m x,fs[j].rs[m]?=some x->FrmA.RdAt V b (o+m*4) x):=fun V o2 hV hne=>(by obtain ⟨b,o,h1,h2,_⟩:=hblk hne;obtain ⟨b',o',h3,h4,h5⟩:=hon.at_ hne;rw[h1] at h3;simp at h3;obtain ⟨rfl,rfl⟩:=h3;refine ⟨b,o,h1,fun m x hx=>(h5 m x hx).keep (hV.kp.block b h4 (fun e=>?_))⟩;have:=HLM.out b e;omega);generalize fs[j]=f at *;generalize ps[j]=pc at *;obtain ⟨pp,pcap⟩:=pc;simp only at HCL HRDS;obtain ⟨S,hS⟩:∃ S,S=(fs.take j).foldl (St.hear c r) s1:=⟨_,rfl⟩;have HS:Hid ((fs.take (j+1)).foldl (St.hear c r) s1=S.hear c r f):=(by show _ = _;rw[HTK.out,List.foldl_append,hS];rfl);rw[<- hS] at HW;have hsum:S.sum+f.rs.length<=6000:=(by have e1:=WaB.hears_sum c r (fs.take (j+1)) s1;rw[HS.out] at e1;have e2:(S.hear c r f).sum=S.sum+f.rs.length:=(by have:=WaB.hears_sum c r [f] S;simpa [rdsN] using this);have e3:=WaB.rdsN_take fs (j+1);have e4:=WaB.hears_sum c r fs s1;have e5:=HFSM.out;omega);have HSF:Hid (Sf c S):=(by rw[hS];refine Sf.hears r _ HF1.out ?_;have e3:=WaB.rdsN_take fs j;have e4:=WaB.hears_sum c r fs s1;have e5:=HFSM.out;omega);have hcl2:k=S.cl c:=(by rw[HK.out];unfold St.cl;rw[hS,(hears_rest c r (fs.take j) s1).2.2,HS1.out];rfl);have HCL2:Hid (k=S.cl c):=hcl2;have HFOK:Hid (FrmM.Ok f):=hfok;clear hS hcl hon hblk hfj hpj hq hcl2 hfok hcp hog hg1;obtain ⟨k0,k1,k2⟩:=HCL.out wr ow' HWP.out;obtain ⟨ty,frs,wm⟩:=f;simp only at k0 k1 k2 hsum HCL HRDS;obtain ⟨fn,hfn⟩:∃ fn,fn=frs.length:=⟨_,rfl⟩;have HFN:Hid (fn=frs.length):=hfn;rw[<- hfn] at hsum k1 HCL;have hfn4:fn<=100000:=(by omega);clear hfn;go_upto_region 9 with fail
   by_cases h3:ty=3
   case pos=>
    have hty:(ty == 3)=true:=(by simpa using h3);have hfr:frs = []:=HFOK.out.rs (by show ty≠1;omega);have hf0:fn=0:=(by rw[HFN.out,hfr];rfl);have cw:∃ z,wr.cell? ⟨rb,31+r,none⟩=some z:=(by obtain ⟨p2,hd⟩:=HW.out.out;exact ⟨_,hd.cell (by omega)⟩);obtain ⟨z,cw⟩:=cw;have fw:wr.frozen? ⟨rb,31+r,none⟩=false:=(by obtain ⟨p2,hd⟩:=HW.out.out;exact hd.fz _);have HM:Hid (∀ V:World,V.heap=wr.heap->V.os=wr.os->V.tape=wr.tape->V.output=wr.output->∃ o2,DaK (V.setCell ⟨rb,31+r,none⟩ (.int .i64 wm)) rb o2 c rs (S.hear c r ⟨ty,frs,wm⟩) k q/\Wp w1 (V.setCell ⟨rb,31+r,none⟩ (.int .i64 wm)) ow o2):=fun V e1 e2 e3 e4=>(by have hbV:Below wr.heap.size wr V:=⟨e2,e3,e4,by rw[e1];exact Nat.le_refl _,fun b _=>by rw[e1]⟩;have he:S.hear c r ⟨ty,frs,wm⟩ = { S with warm:=upd S.warm r wm }:=(by unfold St.hear St.heat;simp only;rw[if_pos h3,hfr];rfl);rw[he];have hto:=DTo.from_wp (HWP.out.trans (Wp.below hbV ow')) (DTo.count (s':={ S with warm:=upd S.warm r wm }) (i:=31+r) (v:=.int .i64 wm) (HW.out.below hbV) (fun p j hj=>dcv_warm c S p hr wm j hj) rfl);obtain ⟨o2,h1,h2⟩:=hto.out;exact ⟨o2,h1,h2⟩);clear h3 hfr;subst hf0;go_wp2;go_region
    all_goals
     go_wp2;go_loopw [10] (fun i V=>i = .int .i64 0/\∃ o2,DaK V rb o2 c rs (S.hear c r ⟨ty,frs,wm⟩) k q/\Wp w1 V ow o2) (fun _ _=>0)
     case atStart=>exact ⟨rfl,HM.out wr.drew rfl rfl rfl rfl⟩
     case round=>
      obtain ⟨rfl,o2,hd2,hw2⟩:=hrel;have HD2:Hid (DaK wr rb o2 c rs (S.hear c r ⟨ty,frs,wm⟩) k q):=hd2;have HW2:Hid (Wp w1 wr ow o2):=hw2;obtain ⟨k0,k1,k2⟩:=HCL.out wr o2 hw2;clear hd2 hw2;go_wp2;go_roundw
      case rel=>exact ⟨j+1,o2,by omega,by go_num,by rw[HS.out];exact HD2.out,HW2.out⟩
      case measure=>simp[intOf];omega
   case neg=>
    have hty:(ty == 3)=false:=(by simpa using h3);have HD2:Hid (DaK wr rb ow' c rs (S.heat r ⟨ty,frs,wm⟩) k q):=(by unfold St.heat;simp only;rw[if_neg h3];exact HW.out);have HW2:Hid (Wp w1 wr ow ow'):=HWP.out;clear h3;have hhs:(S.heat r ⟨ty,frs,wm⟩).sum=S.sum:=heat_sum r S _;have HSF2:Hid (Sf c (S.heat r ⟨ty,frs,wm⟩)):=HSF.out.heat r _;have HCL3:Hid (k=(S.heat r ⟨ty,frs,wm⟩).cl c):=by show _ = _;rw[HCL2.out];unfold St.heat St.cl;split<;>rfl
    have HS2:Hid ((fs.take (j+1)).foldl (St.hear c r) s1=frs.foldl (St.read c r) (S.heat r ⟨ty,frs,wm⟩)):=HS.out;generalize S.heat r ⟨ty,frs,wm⟩=S2 at *;rw[<- hhs] at hsum;clear hhs HSF HCL2 HS HW;go_wp2;go_loopw [10] (fun i V=>∃ (m:Nat) (o3:Nat->Nat),m<=fn/\i = .int .i64 (m:Int)/\DaK V rb o3 c rs ((frs.take m).foldl (St.read c r) S2) k q/\Wp w1 V ow o3) (fun i _=>fn-(intOf i).toNat)
    case atStart=>exact ⟨0,ow',Nat.zero_le _,rfl,HD2.out,HW2.out⟩
    case round=>
     obtain ⟨m,o3,hm,rfl,hd3,hw3⟩:=hrel;have HD3:Hid (DaK wr rb o3 c rs ((frs.take m).foldl (St.read c r) S2) k q):=hd3;have HW3:Hid (Wp w1 wr ow o3):=hw3;obtain ⟨k0,k1,k2⟩:=HCL.out wr o3 hw3;clear hd3 hw3;by_cases hml:m<fn
     case neg=>
      obtain rfl:m=fn:=(by omega);have hMI:¬ (m:Int)<m:=(by omega);have HNX:Hid (DaK wr rb o3 c rs ((fs.take (j+1)).foldl (St.hear c r) s1) k q):=(by have:=HD3.out;rw[HFN.out,List.take_length] at this;rw[HS2.out];exact this);go_wp2;go_roundw
      case rel=>exact ⟨j+1,o3,by omega,by go_num,HNX.out,HW3.out⟩
      case measure=>simp[intOf];omega
     case pos=>
      have hMI:(m:Int)<fn:=(by omega);have hm':m<frs.length:=(by rw[<- HFN.out];exact hml);have hne:frs≠[]:=fun e=>(by rw[e] at hm';simp at hm');obtain ⟨rb2,ro,rfl,hrc⟩:=HRDS.out wr o3 HW3.out hne;obtain ⟨x0,x1,x2,x3⟩:=hrc m _ (List.getElem?_eq_getElem hm');have hx:=HFOK.out.all _ (List.getElem_mem hm');have HTM:Hid (frs.take (m+1)=frs.take m ++ [frs[m]]):=List.take_succ_eq_append_getElem hm';generalize frs[m]=x at *;obtain ⟨S3,hS3⟩:∃ S3,S3=(frs.take m).foldl (St.read c r) S2:=⟨_,rfl⟩;have HS3:Hid ((frs.take (m+1)).foldl (St.read c r) S2=S3.read c r x):=(by show _ = _;rw[HTM.out,List.foldl_append,hS3];rfl);rw[<- hS3] at HD3;have hs3:S3.sum=S2.sum+m:=(by have e:=reads_cnt c r (frs.take m) S2;obtain ⟨e1,e2,_⟩:=reads_rest c r (frs.take m) S2;rw[<- hS3] at e e1 e2;have hl:(frs.take m).length=m:=(by rw[List.length_take];omega);unfold St.sum;rw[e,e1,e2,hl];omega);have hsf3:Sf c S3:=(by rw[hS3];exact Sf.reads r _ HSF2.out (by rw[List.length_take];omega));have hcl3:k=S3.cl c:=(by rw[HCL3.out];unfold St.cl;rw[hS3,(reads_rest c r (frs.take m) S2).2.2.1]);obtain ⟨xa,xs,xg,xt⟩:=x;simp only at x0 x1 x2 x3 hx;obtain ⟨ha,hsx,hgx,htx⟩:=hx;have HRE:Hid (Calls prog 48 #[.pointer (some ⟨rb,0,none⟩),.int .i64 (r:Int),.agg #[.int .i64 xa,.int .i64 xs,.int .i64 xg,.string xt]] wr fun e w'=>e = .returned (.tuple #[])/\DTo wr w' rb o3 c rs (S3.read c r ⟨xa,xs,xg,xt⟩) k q):=rread_any ⟨xa,xs,xg,xt⟩ r HD3.out hsf3 hcl3 hr ha hsx hgx htx (by omega);clear hrc hne hm' hS3 hs3 hsf3 hcl3 k0 k2;go_wp2_with fail;refine Calls.mono HRE.out ?_;rintro e w5 ⟨rfl,hto⟩;have HTO:Hid (DTo wr w5 rb o3 c rs (S3.read c r ⟨xa,xs,xg,xt⟩) k q):=hto;clear hto;go_wp2;go_roundw
      case rel=>obtain ⟨o4,h1,h2⟩:=HTO.out.out;exact ⟨m+1,o4,by omega,by go_num,by rw[HS3.out];exact h1,HW3.out.trans h2⟩
      case measure=>simp[intOf];omega
end
end WeA
end Go.Proofs.YtmolafjalaeoaaaGreatDoor
