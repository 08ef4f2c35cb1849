/-
  WaH WbC WbD WbE WbF WbG WbJ RuH
-/
import Derived.Test.YtmolafjalaeoaaaGreatDoorQbj
set_option maxRecDepth 100000
set_option maxHeartbeats 8000000
namespace Go.Proofs.YtmolafjalaeoaaaGreatDoor
open Tryz
namespace WaB
open Go.RowKit TkW WaM WaW Go.Maps
open TkM (Sg epOf told whr)
open RuM (Rl)
theorem rdsN_append (a b:List FrmM.Fr):rdsN (a++b)=rdsN a+rdsN b:=by simp[rdsN]
theorem rdsN_take (l:List FrmM.Fr) (j:Nat):rdsN (l.take j)<=rdsN l:=by have:=rdsN_append (l.take j) (l.drop j);rw[List.take_append_drop] at this;omega
theorem hears_sum (c:Cf) (r:Nat) (l:List FrmM.Fr) (s:St):(l.foldl (St.hear c r) s).sum=s.sum+rdsN l:=by obtain ⟨h1,h2,_⟩:=hears_rest c r l s;unfold St.sum;rw[hears_cnt,h1,h2];omega
section
variable {w : World} {wb : Nat} {ow : Nat → Nat} {c : Cf} {rs : List Rl} {s : St} {k : Nat}
theorem feed_noreader (r:Int) (b:ByteArray) (hr:btw r 0 3=false) :
  Calls prog 16 #[.pointer (some ⟨wb,0,none⟩),.int .i64 r,.string b] w fun e w'=>e = .returned (.tuple #[.int .i64 0,.iface 105 (.int .i64 1)])/\w'=w:=by
 go_enter func16,ntmps16;go_wp2_with fail;refine (isReader_is hr _).mono ?_;rintro e w' ⟨rfl,rfl⟩;go_wp2;go_ret2;exact ⟨rfl,rfl⟩
theorem feed_long (r:Int) (b:ByteArray) (hr:btw r 0 3=true) (hb : 2000<b.size) (hm:b.size<=9223372036854775807) :
  Calls prog 16 #[.pointer (some ⟨wb,0,none⟩),.int .i64 r,.string b] w fun e w'=>e = .returned (.tuple #[.int .i64 0,.iface 105 (.int .i64 2)])/\w'=w:=by
 have hI:(2000:Int)<b.size:=by omega
 go_enter func16,ntmps16;go_wp2_with fail;refine (isReader_is hr _).mono ?_;rintro e w' ⟨rfl,rfl⟩;go_wp2;go_ret2;exact ⟨rfl,rfl⟩
theorem feed_ok (r:Nat) (b:ByteArray) (h:WaK w wb ow c rs s k) (hT:TagA.Tabs w) (h0:ow 0=0) (hk:k=s.cl c) (hr:r<4) (hb:b.size<=2000) (hu:s.sum+b.size<=6000) :
  Calls prog 16 #[.pointer (some ⟨wb,0,none⟩),.int .i64 (r:Int),.string b] w fun e w'=>e = .returned (.tuple #[.int .i64 ((FrmM.feed (s.rest r++b.data.toList)).1.length:Int),.nilIface])/\To w w' wb ow c rs (s.feed c r b.data.toList) k:=by
 have hrb:btw (r:Int) 0 3=true:=by simp[btw];omega
 have hrI:(r:Int)<4:=by omega
 have hI:¬ (2000:Int)<b.size:=by omega
 obtain ⟨p,hp⟩:=h.out;have hlr:s.cnt+(s.rest r).length+s.lost r<=6000:=Nat.le_trans (sum_rest hr) hp.use;have hblen:b.data.toList.length=b.size:=by simp
 have HFS:=feed_sum c r s b.data.toList hr;rw[hblen] at HFS;have hFS:(s.feed c r b.data.toList).sum<=6000:=by omega
 obtain ⟨fs,n,R,hfd⟩:∃ fs n R,FrmM.feed (s.rest r++b.data.toList)=(fs,n,R):=⟨_,_,_,rfl⟩;have hok:=FrmM.feed_ok (s.rest r++b.data.toList);have hfe:s.feed c r b.data.toList=fs.foldl (St.hear c r) (s.line r R (s.lost r+n)):=by unfold St.feed;rw[hfd]
 have hfl:=FrmM.feed_len (s.rest r++b.data.toList);rw[hfd] at hok hfl ⊢;simp only at hok hfl ⊢;rw[hfe] at hFS ⊢;rw[List.length_append,hblen] at hfl;have HOK:Hid (∀ f ∈ fs,FrmM.Ok f):=hok;have HFSM:Hid ((fs.foldl (St.hear c r) (s.line r R (s.lost r+n))).sum<=6000):=hFS
 have HFC:Hid (Calls prog 45 #[.pointer (some ⟨wb,r*7,none⟩),.string b] w fun e w'=>∃ v,e = .returned v/\FrmA.FramesOwn w' w.heap.size w.heap.size v fs/\w'.heap[wb]?=some (.cells (wcs c (s.line r R (s.lost r+n)) p) 116)/\FrmA.But w.heap.size wb w w'):=by
  have hsl:(FrmA.str (s.rest r)).size=(s.rest r).length:=by simp[FrmA.str,ByteArray.size]
  have hsd:(FrmA.str (s.rest r)).data.toList=s.rest r:=by simp[FrmA.str]
  refine (FrmA.feed_any (L:=layW c s p r hr) wb (FrmA.str (s.rest r)) b (s.lost r) w (line_at r hr hp.blk) (by rw[hsl];omega) (by omega)).mono ?_;rintro e w' ⟨v,rfl,h1,h2,h3⟩;rw[hsd,hfd] at h1 h2;refine ⟨v,rfl,h1,?_,h3⟩;rw[h2.at_,layW_obj]
 have HH:Hid (Wa w wb ow c rs s k p):=hp;have HT:Hid (TagA.Tabs w):=hT;have HK:Hid (k=s.cl c):=hk;obtain ⟨N,hN⟩:∃ N,N=fs.length:=⟨_,rfl⟩;have HN:Hid (N=fs.length):=hN;rw[<- hN] at hfl ⊢;have hN9:N<=100000:=by omega
 have HLS:Hid ((s.line r R (s.lost r+n)).sum<=6000):=by show _<=_;have:=hears_sum c r fs (s.line r R (s.lost r+n));omega
 obtain ⟨s1,hs1⟩:∃ s1,s1=s.line r R (s.lost r+n):=⟨_,rfl⟩;have HS1:Hid (s1=s.line r R (s.lost r+n)):=hs1;rw[<- hs1];rw[<- hs1] at HFSM HFC HLS;clear h hp hT hk hfd hok hfe hFS HFS hblen hN hfl hu hlr hs1;go_enter func16,ntmps16;go_wp2_with fail;refine (isReader_is hrb _).mono ?_;rintro e w' ⟨rfl,rfl⟩;go_wp2_with fail;refine Calls.mono HFC.out ?_;rintro e w1 ⟨v,rfl,hfo,hblk,hbut⟩;have hlm:∀ b,ow b≠0->b<w'.heap.size:=HH.out.lim;have h1:Wa w1 wb ow c rs s1 k p:=Wa.own HH.out hbut.size (fun b hb _ hne=>hbut.block b hb hne) hblk (by rw[HS1.out];rfl) (by rw[HS1.out];rfl) HLS.out;have hwp:Wp w' w1 ow ow:=⟨⟨hbut.os,hbut.tape,hbut.output,hbut.size,fun b hb hn=>hbut.block b hb (fun e=>hn (by rw[e,HH.out.ob];decide))⟩,fun _ h=>Or.inl h⟩;have H1:Hid (WaK w1 wb ow c rs s1 k):=⟨p,h1⟩;have HWP1:Hid (Wp w' w1 ow ow):=hwp;have HT1:Hid (TagA.Tabs w1):=tabs_wp HT.out h0 hwp;obtain ⟨ps,hpl,hrow,hrd⟩:=hfo.out;have HPL:Hid (ps.length=fs.length):=hpl;have HROW:Hid (w1.ownsRow w'.heap.size 93 3 v fs.length (FrmA.frCells fs ps)):=hrow;have HRD:Hid (∀ (k:Nat) (f:FrmM.Fr) (pc:Option Addr×Nat),fs[k]?=some f->ps[k]?=some pc->FrmA.ReadsOn w1 pc.1 f.rs/\(f.rs≠[]->∃ b o,pc.1=some ⟨b,o,none⟩/\w'.heap.size<=b/\v.ownBlock≠some b)):=hrd
 obtain ⟨q,cp,hv⟩:∃ q cp,v = .slice q N cp:=by
  rw[HN.out];rcases hrow.2 with ⟨rfl,h0⟩ | ⟨g,cap,cur,hv,_⟩
  ·exact ⟨none,0,by rw[h0]⟩
  ·exact ⟨_,_,hv⟩
 have HV:Hid (v = .slice q N cp):=hv;have HLM:Hid (∀ b,ow b≠0->b<w'.heap.size):=hlm;subst hv;clear hfo hblk hbut h1 hwp hpl hrow hrd hlm;go_wp2;go_loopw [11,32] (fun _ i V=>∃ (j:Nat) (ow':Nat->Nat),j<=N/\i = .int .i64 (j:Int)/\WaK V wb ow' c rs ((fs.take j).foldl (St.hear c r) s1) k/\Wp w1 V ow ow') (fun _ i _=>N-(intOf i).toNat)
 case atStart=>exact ⟨0,ow,Nat.zero_le _,rfl,H1.out,Wp.refl _ _⟩
 case round=>
  obtain ⟨j,ow',hj,rfl,hw,hwp⟩:=hrel;have HW:Hid (WaK wr wb ow' c rs ((fs.take j).foldl (St.hear c r) s1) k):=hw;have HWP:Hid (Wp w1 wr ow ow'):=hwp;clear hw hwp;by_cases hlt:j<N
  case neg=>obtain rfl:j=N:=(by omega);have hII:¬ (j:Int)<j:=(by omega);have HF:Hid (To w' wr wb ow c rs (fs.foldl (St.hear c r) s1) k):=⟨ow',by have:=HW.out;rw[HN.out,List.take_length] at this;exact this,HWP1.out.trans HWP.out⟩;go_wp2;go_ret2;exact ⟨rfl,HF.out⟩
  case pos=>
   have hII:(j:Int)<N:=(by omega);have hj':j<fs.length:=(by rw[<- HN.out];exact hlt);have hjp:j<ps.length:=(by rw[HPL.out];exact hj');have hfj:fs[j]?=some fs[j]:=List.getElem?_eq_getElem hj';have hpj:ps[j]?=some ps[j]:=List.getElem?_eq_getElem hjp;obtain ⟨hon,hblk⟩:=HRD.out j _ _ hfj hpj;obtain ⟨g,cp',hq,hg1,hg2⟩:=HROW.out.form (by omega);obtain ⟨rfl,hcp⟩:q=some ⟨g,0,none⟩/\True:=(by simp at hq;exact ⟨hq.1,trivial⟩);have hcl:∀ i u,i<3->(FrmA.frCells1 fs[j] ps[j])[i]?=some u->w1.cell? ⟨g,j*3+i,none⟩=some u:=fun i u hi hu=>(by have:=HROW.out.cells (g:=g) rfl (j*3+i) u (by rw[FrmA.frCells_at fs ps j i _ _ hfj hpj hi];exact hu);rw[addr_add] at this;exact this);have hog:ow g=0:=(by apply Decidable.byContradiction;intro hn;have:=HLM.out g hn;omega);have hgk:wr.heap[g]?=w1.heap[g]?:=HWP.out.kp.block g hg2 (fun e=>e hog);have k0:wr.cell? ⟨g,j*3,none⟩=some (.int .i64 fs[j].ty):=(by rw[World.cell?_of_block (w:=w1) hgk];exact hcl 0 _ (by omega) rfl);have k1:wr.cell? ⟨g,j*3+1,none⟩=some (.slice ps[j].1 fs[j].rs.length ps[j].2):=(by rw[World.cell?_of_block (w:=w1) hgk];exact hcl 1 _ (by omega) rfl);have k2:wr.cell? ⟨g,j*3+1+1,none⟩=some (.int .i64 fs[j].wm):=(by rw[World.cell?_of_block (w:=w1) hgk];exact hcl 2 _ (by omega) rfl);have hfok:=HOK.out _ (List.getElem_mem hj');have HTK:Hid (fs.take (j+1)=fs.take j ++ [fs[j]]):=List.take_succ_eq_append_getElem hj';have HBL:Hid (fs[j].rs≠[]->∃ b o,ps[j].1=some ⟨b,o,none⟩/\ow b=0/\b<w1.heap.size):=fun hne=>(by obtain ⟨b,o,h1,h2,_⟩:=hblk hne;obtain ⟨b',o',h3,h4,_⟩:=hon.at_ hne;rw[h1] at h3;simp at h3;refine ⟨b,o,h1,?_,by rw[h3.1];exact h4⟩;apply Decidable.byContradiction;intro hn;have:=HLM.out b hn;omega);generalize fs[j]=f at *;generalize ps[j]=pc at *;obtain ⟨pp,pcap⟩:=pc;simp only at k1 hon hblk HBL;obtain ⟨S,hS⟩:∃ S,S=(fs.take j).foldl (St.hear c r) s1:=⟨_,rfl⟩;have HS:Hid ((fs.take (j+1)).foldl (St.hear c r) s1=S.hear c r f):=(by show _ = _;rw[HTK.out,List.foldl_append,hS];rfl);rw[<- hS] at HW;have hsum:S.sum+f.rs.length<=6000:=(by have e1:=hears_sum c r (fs.take (j+1)) s1;rw[HS.out] at e1;have e2:(S.hear c r f).sum=S.sum+f.rs.length:=(by have:=hears_sum c r [f] S;simpa [rdsN] using this);have e3:=rdsN_take fs (j+1);have e4:=hears_sum c r fs s1;have e5:=HFSM.out;omega);have hcl2:k=S.cl c:=(by rw[HK.out];unfold St.cl;rw[hS,(hears_rest c r (fs.take j) s1).2.2,HS1.out];rfl);have hoY:∀ o,Below wr.heap.size wr (wr.alloc o):=fun o=>(Below.refl _ _).alloc (Nat.le_refl _) o
   have HHR:Hid (∀ o,Calls prog 46 #[.pointer (some ⟨wb,0,none⟩),.pointer (some ⟨wb,r*7,none⟩),.agg #[.int .i64 f.ty,.slice pp f.rs.length pcap,.int .i64 f.wm]] (wr.alloc o) fun e w2=>e = .returned (.tuple #[])/\To (wr.alloc o) w2 wb ow' c rs (S.hear c r f) k):=fun o=>by
    have ht:=tabs_wp HT1.out h0 HWP.out;have hlt0 : 0<w1.heap.size:=HT1.out.size;refine hear_any f r pp pcap (HW.out.below (hoY o)) (ht.below (hoY o) ht.size) (ow_wp h0 hlt0 HWP.out) hcl2 hr hfok ?_ ?_ hsum
    ·by_cases hne:f.rs = []
     ·exact ⟨hon.tags,fun hh=>absurd hne hh⟩
     ·refine (hon.move HWP.out.kp.size (fun b o e hb=>?_)).below (hoY o) (Nat.le_refl _);obtain ⟨b',o',h1,h2,_⟩:=HBL.out hne;rw[h1] at e;simp at e;exact HWP.out.kp.block b hb (fun hh=>hh (by rw[<- e.1];exact h2))
    ·intro hne b o e;obtain ⟨b',o',h1,h2,h3⟩:=HBL.out hne;rw[h1] at e;simp at e;rw[<- e.1];exact ow_wp h2 h3 HWP.out
   clear hon hblk hcl hgk hS hoY hcp hq hfok hfj hpj;go_wp2_with fail;refine (HHR.out _).mono ?_;rintro e w4 ⟨rfl,hto⟩;have HTO:Hid (∃ ow2,WaK w4 wb ow2 c rs ((fs.take (j+1)).foldl (St.hear c r) s1) k/\Wp w1 w4 ow ow2):=(by obtain ⟨o2,h1,h2⟩:=hto.out;exact ⟨o2,by rw[HS.out];exact h1,(HWP.out.trans (Wp.below ((Below.refl _ _).alloc (Nat.le_refl _) _) ow')).trans h2⟩);clear hto;go_wp2;go_roundw
   case rel=>obtain ⟨o2,h1,h2⟩:=HTO.out;exact ⟨j+1,o2,by omega,by go_num,h1,h2⟩
   case measure=>simp[intOf];omega
end
end WaB
namespace WbA
open Go.RowKit TkW WaM WaW WaB Go.Maps
open RuM (Rl)
def pf (c:Cf) (r:Int) (b:ByteArray) (s:St):St:=if (0<=r/\r<=3)/\b.size<=2000 then s.feed c r.toNat b.data.toList else s
def pt (n:Int) (s:St):St:=if 0<=n/\(s.now:Int)+n<=1000 then s.tick n.toNat else s
def tickW:ByteArray:=⟨#[116,105,99,107]⟩
def pact (c:Cf) (s:St) (a:Ac):St:=if a.kd=tickW then pt a.n s else pf c a.n a.st s
def plays (c:Cf) (ac:List Ac) (s:St):St:=ac.foldl (pact c) s
theorem plays_succ {c:Cf} {ac:List Ac} {s:St} {j:Nat} {a:Ac} (h:ac[j]?=some a):plays c (ac.take (j+1)) s=pact c (plays c (ac.take j) s) a:=by unfold plays;rw[List.take_add_one,h];simp
theorem pf_now (c:Cf) (r:Int) (b:ByteArray) (s:St):(pf c r b s).now=s.now:=by
 unfold pf;split
 ·exact feed_now c _ s _
 ·rfl
theorem pf_cl (c:Cf) (r:Int) (b:ByteArray) (s:St):(pf c r b s).cl c=s.cl c:=by unfold St.cl;rw[pf_now]
theorem data_len (b:ByteArray):b.data.toList.length=b.size:=by rw[Array.length_toList];rfl
theorem pf_sum (c:Cf) (r:Int) (b:ByteArray) (s:St):(pf c r b s).sum<=s.sum+b.size:=by
 unfold pf;split
 ·rename_i h;refine Nat.le_trans (feed_sum c r.toNat s b.data.toList (by omega)) ?_;rw[data_len];exact Nat.le_refl _
 ·omega
theorem pf_sum_long {c:Cf} {r:Int} {b:ByteArray} {s:St} (h : 2000<b.size):pf c r b s=s:=by unfold pf;rw[if_neg (by omega)]
theorem tick_sum (s:St) (n:Nat):(s.tick n).sum=s.sum:=rfl
theorem pt_sum (n:Int) (s:St):(pt n s).sum=s.sum:=by
 unfold pt;split
 ·exact tick_sum s _
 ·rfl
theorem pact_sum (c:Cf) (s:St) (a:Ac) (h:aok a):(pact c s a).sum<=s.sum+aw a:=by
 unfold pact;split
 ·rw[pt_sum];omega
 ·by_cases hl : 2000<a.st.size
  ·rw[pf_sum_long hl];omega
  ·refine Nat.le_trans (pf_sum c a.n a.st s) ?_;unfold aok at h;unfold aw;omega
theorem plays_sum {c:Cf} {ac:List Ac} {s:St} (h:∀ a,a ∈ ac->aok a):∀ j,j<=ac.length->(plays c (ac.take j) s).sum<=s.sum+awS ac j
 | 0,_=>by simp[plays,awS]
 | j+1,hj=>by have ih:=plays_sum (c:=c) (s:=s) h j (by omega);have hj':=List.getElem?_eq_getElem (l:=ac) (i:=j) (by omega);rw[plays_succ hj',awS_succ hj'];have:=pact_sum c (plays c (ac.take j) s) ac[j] (h _ (List.getElem_mem _));omega
theorem awS_mono (ac:List Ac) {i j:Nat} (h:i<=j):awS ac i<=awS ac j:=by
 induction j with
 | zero=>
  obtain rfl:i=0:=by omega
  exact Nat.le_refl _
 | succ j ih=>
  by_cases hi:i=j+1
  ·rw[hi];exact Nat.le_refl _
  ·refine Nat.le_trans (ih (by omega)) ?_;cases hj:ac[j]? with
   | none=>
    have:awS ac (j+1)=awS ac j:=(by unfold awS;rw[List.take_add_one,hj];simp);omega
   | some a=>rw[awS_succ hj];omega
theorem awS_all (ac:List Ac) {j:Nat} (h:j<=ac.length):awS ac j<=awS ac ac.length:=awS_mono ac h
section
variable {w : World} {wb : Nat} {ow : Nat → Nat} {c : Cf} {rs : List Rl} {s : St}
theorem WaAt.low {B:Nat} {w':World} {ow':Nat->Nat} (hp:Wp w w' ow ow') (hB:B<=w.heap.size) (hl:∀ b,ow b≠0->B<=b):Below B w w'/\∀ b,ow' b≠0->B<=b:=
 ⟨hp.kp.below hB (fun k hk h=>by have:=hl k h;omega),fun b hb=>by
  rcases hp.new b hb with h | h
  ·exact hl b h
  ·omega⟩
end
end WbA
namespace WbA
open Go.RowKit TkW WaM WaW WaB Go.Maps
open RuM (Rl)
open TkA (sbeq_true sbeq_false)
theorem tickL:tickW.toList = [116,105,99,107]:=by kernel_rfl
theorem kd_ne {a:ByteArray} (h:¬ a=tickW):(a.toList == [116,105,99,107])=false:=by
 have:=sbeq_false h
 rwa [tickL] at this
theorem kd_eq {a:ByteArray} (h:a=tickW):(a.toList == [116,105,99,107])=true:=by
 have:=sbeq_true h
 rwa [tickL] at this
end WbA
namespace WbA
open Go.RowKit TkW WaM WaW WaB Go.Maps
open RuM (Rl)
structure AlsOn (w:World) (q:Option Addr) (A:List Al):Prop where
 at_:A≠[]->∃ b,q=some ⟨b,0,none⟩/\b<w.heap.size/\∀ k a,A[k]?=some a->w.cell? ⟨b,k*3,none⟩=some (.int .i64 (a.rule:Int))/\w.cell? ⟨b,k*3+1,none⟩=some (.int .i64 (a.ep:Int))/\w.cell? ⟨b,k*3+1+1,none⟩=some (.string a.g)
theorem AlsOn.below {w w':World} {q:Option Addr} {A:List Al} (h:AlsOn w q A) (hb:Below w.heap.size w w'):AlsOn w' q A where
 at_:=fun hne=>by obtain ⟨b,h1,h2,h3⟩:=h.at_ hne;refine ⟨b,h1,Nat.lt_of_lt_of_le h2 hb.size,fun k a hk=>?_⟩;obtain ⟨k0,k1,k2⟩:=h3 k a hk;have e:=hb.block b h2;exact ⟨by rw[World.cell?_of_block (w:=w) e];exact k0,by rw[World.cell?_of_block (w:=w) e];exact k1,by rw[World.cell?_of_block (w:=w) e];exact k2⟩
theorem own_als {w:World} {base:Nat} {v:Value} {A:List Al} (h:w.ownsRow base 86 3 v A.length (acs A)):∃ q cap,v = .slice q A.length cap/\AlsOn w q A:=by
 rcases h.2 with ⟨rfl,h0⟩ | ⟨g,cap,cur,hv,hb,hg,_⟩
 ·exact ⟨none,0,by rw[h0],⟨fun hne=>absurd (List.length_eq_zero_iff.1 h0) hne⟩⟩
 ·refine ⟨some ⟨g,0,none⟩,cap,hv,⟨fun hne=>⟨g,rfl,?_,fun k a hk=>?_⟩⟩⟩
  ·exact (Array.getElem?_eq_some_iff.1 hg).1
  ·have hc:=World.ownsRow.cells h (g:=g) (by rw[hv];rfl)
   have key:∀ j u,j<3->(acl a)[j]?=some u->w.cell? ⟨g,k*3+j,none⟩=some u:=fun j u hj hu=>by
    have h1:=hc (k*3+j) u (by
     unfold acs;rw[flat_at acl 3 (fun _=>rfl) A k j a hk hj];exact hu)
    rw[addr_addo,Nat.zero_add] at h1;exact h1
   exact ⟨key 0 _ (by omega) rfl,key 1 _ (by omega) rfl,key 2 _ (by omega) rfl⟩
theorem und86:prog.underlying 86=some (.struct (prog.fieldsOf 86)):=by kernel_rfl
theorem stood86:prog.stoodInHeld 86=false:=by kernel_rfl
theorem eqA_in (a b a' b':Int) (g g':ByteArray) (w:World):(Op.equalIn 10000 86 (.agg #[.int .i64 a,.int .i64 b,.string g]) (.agg #[.int .i64 a',.int .i64 b',.string g'])).run prog w = .ok (a == a'&&b == b'&&g.toList == g'.toList) w:=by rw[run_equalIn_agg _ 9999 _ _ _ und86 stood86];simp[go_sem,underlying86];by_cases h1:a=a'<;>by_cases h2:b=b'<;>by_cases h3:g.toList=g'.toList<;>simp[h1,h2,h3]
theorem neqA (a b:Int) (g:ByteArray) (w:World):(binOp BinOp.neq 86 (.agg #[.int .i64 a,.int .i64 b,.string g]) (.agg #[.int .i64 a,.int .i64 b,.string g])).run prog w = .ok (.bool false) w:=by rw[run_neq_struct,eqA_in];simp
theorem sameAlerts_eq (A:List Al) (q q':Option Addr) (cap cap':Nat) (w:World) (h:AlsOn w q A) (h':AlsOn w q' A) (hl:A.length<=100000) :
  Calls prog 51 #[.slice q A.length cap,.slice q' A.length cap'] w fun e w'=>e = .returned (.bool true)/\Below w.heap.size w w':=by
 have HA:Hid (AlsOn w q A):=h;have HA':Hid (AlsOn w q' A):=h';obtain ⟨N,hNN⟩:∃ N,N=A.length:=⟨_,rfl⟩;have HNN:Hid (N=A.length):=hNN;rw[<- hNN] at hl ⊢;clear h h' hNN;go_enter func51,ntmps51;go_wp2;go_loopw [5] (fun i V=>∃ j:Nat,j<=N/\i = .int .i64 (j:Int)/\Below w.heap.size w V) (fun i _=>N-(intOf i).toNat)
 case atStart=>exact ⟨0,by omega,rfl,Below.refl _ _⟩
 case round=>
  obtain ⟨j,hj,rfl,hbl⟩:=hrel;have HBL:Hid (Below w.heap.size w wr):=hbl;by_cases hlt:j<N
  case neg=>have hII:¬ (j:Int)<N:=(by omega);clear hbl;go_wp2;go_ret;exact ⟨rfl,HBL.out⟩
  case pos=>
   have hII:(j:Int)<N:=(by omega);have hj':j<A.length:=(by rw[<- HNN.out];exact hlt);have hne:A≠[]:=fun e=>(by rw[e] at hj';simp at hj');have hrj:=List.getElem?_eq_getElem hj';obtain ⟨g,rfl,hg,hc⟩:=(HA.out.below hbl).at_ hne;obtain ⟨g',rfl,hg',hc'⟩:=(HA'.out.below hbl).at_ hne;obtain ⟨k0,k1,k2⟩:=hc j _ hrj;obtain ⟨l0,l1,l2⟩:=hc' j _ hrj;generalize A[j]=a at *;clear hrj hc hc' hne hbl;have hnq:=neqA (a.rule:Int) (a.ep:Int) a.g;go_wp2;go_region
   all_goals
    go_wp2;go_roundw
    case rel=>exact ⟨j+1,by omega,by go_num,HBL.out.drew⟩
    case measure=>simp[intOf];omega
end WbA
namespace WbA
open Go.RowKit TkW WaM WaW WaB Go.Maps
open RuM (Rl)
theorem und65:prog.underlying 65=some (.struct (prog.fieldsOf 65)):=by kernel_rfl
theorem stood65:prog.stoodInHeld 65=false:=by kernel_rfl
theorem neqD (a b c d e:Int) (w:World):(binOp BinOp.neq 65 (.agg #[.int .i64 a,.int .i64 b,.int .i64 c,.int .i64 d,.int .i64 e]) (.agg #[.int .i64 a,.int .i64 b,.int .i64 c,.int .i64 d,.int .i64 e])).run prog w = .ok (.bool false) w:=by rw[run_neq_struct,run_equalIn_agg _ 9999 _ _ _ und65 stood65];simp[go_sem,underlying65]
end WbA
namespace WbA
open Go.RowKit TkW WaM WaW WaB Go.Maps
open RuM (Rl)
theorem info9:(prog.info? 9).map (fun i=>(i.zero,i.size,i.bytes))=some (some (.string ⟨#[]⟩),1,16):=by kernel_rfl
theorem strs_form {w:World} {base:Nat} {v:Value} {T:List ByteArray} (h:w.ownsRow base 9 1 v T.length (T.map Value.string)):∃ q cap,v = .slice q T.length cap/\∀ j x,T[j]?=some x->∃ g,q=some ⟨g,0,none⟩/\w.cell? ⟨g,j,none⟩=some (.string x):=by
 rcases h.2 with ⟨rfl,h0⟩ | ⟨g,cap,cur,hv,hb,hg,_⟩
 ·refine ⟨none,0,by rw[h0],fun j x hx=>?_⟩;have:=(List.getElem?_eq_some_iff.1 hx).1;omega
 ·refine ⟨some ⟨g,0,none⟩,cap,hv,fun j x hx=>⟨g,rfl,?_⟩⟩;have hc:=World.ownsRow.cells h (g:=g) (by rw[hv];rfl) j (.string x) (by rw[List.getElem?_map,hx];rfl);rw[addr_add] at hc;exact hc
theorem hasT_take {T:List ByteArray} {x:Nat} {y g:ByteArray} (h:T[x]?=some y):hasT (T.take (x+1)) g=(hasT (T.take x) g||decide (y=g)):=by unfold hasT;rw[List.take_add_one,h];simp
end WbA
namespace WbA
open Go.RowKit TkW WaM WaW WaB Go.Maps
open RuM (Rl)
section
variable {B : Nat} {V V' : World} {wa wb : Nat} {oa ob oa' ob' : Nat → Nat} {c : Cf} {rs : List Rl} {s t s' t' : St}
theorem WaAt.lim {w:World} {ow:Nat->Nat} (h:WaAt w wa ow c rs s) (i:Nat) (hi:ow i≠0):i<w.heap.size:=by obtain ⟨p,hp⟩:=h.out.out;exact hp.lim i hi
theorem zero_cl (c:Cf):St.zero.cl c=0:=closedN0 c.len c.late
end
end WbA
namespace RuA
open Go.RowKit RuM
section
variable (r : Rl) (w : World)
theorem rfault_any (hs:r.nm.size<=9223372036854775807) {n:Nat} (hn:r.flt n) :
  Calls prog 38 #[rV r] w fun e w'=>e = .returned (.int .i64 (n:Int))/\Below w.heap.size w w':=by
 have hbnd:=bnd_iff r;obtain ⟨nm,K,F,T,O,I⟩:=r;simp only at hs hbnd;unfold rV;simp only;have HN4:Hid (¬ nameOk nm.data.toList->n=4):=fun h=>flt_uniq hn (Or.inl ⟨h,rfl⟩);have HF1:Hid (nameOk nm.data.toList->¬ (Rl.mk nm K F T O I).bnd->n=1):=fun hnm h=>flt_uniq hn (Or.inr (Or.inl ⟨hnm,h,rfl⟩));have HF3:Hid (nameOk nm.data.toList->(Rl.mk nm K F T O I).bnd->¬ (F≠T/\F≠O/\T≠O)->n=3):=fun hnm h h'=>flt_uniq hn (Or.inr (Or.inr (Or.inl ⟨hnm,h,h',rfl⟩)));have HF0:Hid (nameOk nm.data.toList->(Rl.mk nm K F T O I).bnd->(F≠T/\F≠O/\T≠O)->n=0):=fun hnm h h'=>flt_uniq hn (Or.inr (Or.inr (Or.inr ⟨⟨hnm,h,h'⟩,rfl⟩)));have HBD:Hid ((Rl.mk nm K F T O I).bnd↔btw K 0 3=true/\btw F 0 7=true/\btw T 0 7=true/\btw O (-1) 7=true/\btw I 1 50=true):=hbnd;clear hn hbnd;have hbel:Below w.heap.size w (w.alloc (.cells #[.string nm,.int .i64 K,.int .i64 F,.int .i64 T,.int .i64 O,.int .i64 I] 32)):=(Below.refl _ _).alloc (Nat.le_refl _) _;have HBL:Hid _:=hbel;clear hbel;by_cases h1:nm.size<1
 case pos=>
  have hn4:n=4:=HN4.out (fun h=>by have h2:=h.1;rw[size_list] at h2;omega);subst hn4;have h1I:(nm.size:Int)<1:=by omega
  have h1D:decide ((nm.size:Int)<1)=true:=by simpa using h1I
  go_enter func38,ntmps38;go_wp2;go_ret;exact ⟨rfl,HBL.out⟩
 have h1I:¬ (nm.size:Int)<1:=by omega
 have h1D:decide ((nm.size:Int)<1)=false:=by simpa using h1I
 by_cases h2 : 12<nm.size
 case pos=>
  have hn4:n=4:=HN4.out (fun h=>by have h2:=h.2.1;rw[size_list] at h2;omega);subst hn4;have h2I:(12:Int)<nm.size:=by omega
  have h2D:decide ((12:Int)<nm.size)=true:=by simpa using h2I
  go_enter func38,ntmps38;go_wp2;go_ret;exact ⟨rfl,HBL.out⟩
 have h2I:¬ (12:Int)<nm.size:=by omega
 have h2D:decide ((12:Int)<nm.size)=false:=by simpa using h2I
 go_enter func38,ntmps38;go_wp2;go_loop [3] (fun i=>∃ k:Nat,k<=nm.size/\i = .int .i64 k/\let_ nm k) (fun i=>nm.size-(intOf i).toNat)
 case atStart=>exact ⟨0,Nat.zero_le _,rfl,fun c hc=>by simp at hc⟩
 case round=>
  obtain ⟨k,hk,rfl,hlet⟩:=hrel;have HL:Hid (let_ nm k):=hlet;clear hlet;by_cases hlt:k<nm.size
  case pos=>
   have hkI:(k:Int)<nm.size:=(by omega);have hb:=nm[k].toNat_lt;by_cases c1:nm[k].toNat<97
   ·have c1I:(nm[k].toNat:Int)<97:=(by omega);have c1D:decide ((nm[k].toNat:Int)<97)=true:=(by simpa using c1I);have hn4:n=4:=HN4.out (fun h=>let_mono hlt (fun h=>by unfold lettr at h;omega) h.2.2);subst hn4;go_wp2;go_ret;exact ⟨rfl,HBL.out⟩
   have c1I:¬ (nm[k].toNat:Int)<97:=(by omega);have c1D:decide ((nm[k].toNat:Int)<97)=false:=(by simpa using c1I);by_cases c2 : 122<nm[k].toNat
   ·have c2I : 122<(nm[k].toNat:Int):=(by omega);have c2D:decide (122<(nm[k].toNat:Int))=true:=(by simpa using c2I);have hn4:n=4:=HN4.out (fun h=>let_mono hlt (fun h=>by unfold lettr at h;omega) h.2.2);subst hn4;go_wp2;go_ret;exact ⟨rfl,HBL.out⟩
   have c2I:¬ 122<(nm[k].toNat:Int):=(by omega);have c2D:decide (122<(nm[k].toNat:Int))=false:=(by simpa using c2I);have HL2:Hid (let_ nm (k+1)):=(let_snoc hlt).2 ⟨HL.out,by unfold lettr;omega⟩;go_wp2;go_round
   case rel=>exact ⟨k+1,by omega,by go_num,HL2.out⟩
   case measure=>simp[intOf];omega
  case neg=>
   obtain rfl:k=nm.size:=(by omega);have hnm:nameOk nm.data.toList:=(by unfold nameOk;rw[size_list];exact ⟨by omega,by omega,let_all.1 HL.out⟩);have G1:Hid (¬ (Rl.mk nm K F T O I).bnd->n=1):=HF1.out hnm;have G3:Hid ((Rl.mk nm K F T O I).bnd->¬ (F≠T/\F≠O/\T≠O)->n=3):=HF3.out hnm;have G0:Hid ((Rl.mk nm K F T O I).bnd->(F≠T/\F≠O/\T≠O)->n=0):=HF0.out hnm;clear hnm HF1 HF3 HF0 HN4 HL;by_cases l0:K<0
   case pos=>have hn1:n=1:=G1.out (fun h=>by have h2:=btw_true.1 (HBD.out.1 h).1;omega);subst hn1;have l0D:decide (K<0)=true:=(by simpa using l0);go_wp2;go_ret;exact ⟨rfl,HBL.out⟩
   have l0D:decide (K<0)=false:=(by simpa using l0);by_cases u0 : 3<K
   case pos=>have hn1:n=1:=G1.out (fun h=>by have h2:=btw_true.1 (HBD.out.1 h).1;omega);subst hn1;have u0D:decide (3<K)=true:=(by simpa using u0);go_wp2;go_ret;exact ⟨rfl,HBL.out⟩
   have u0D:decide (3<K)=false:=(by simpa using u0);by_cases l1:F<0
   case pos=>have hn1:n=1:=G1.out (fun h=>by have h2:=btw_true.1 (HBD.out.1 h).2.1;omega);subst hn1;have l1D:decide (F<0)=true:=(by simpa using l1);go_wp2;go_ret;exact ⟨rfl,HBL.out⟩
   have l1D:decide (F<0)=false:=(by simpa using l1);by_cases u1 : 7<F
   case pos=>have hn1:n=1:=G1.out (fun h=>by have h2:=btw_true.1 (HBD.out.1 h).2.1;omega);subst hn1;have u1D:decide (7<F)=true:=(by simpa using u1);go_wp2;go_ret;exact ⟨rfl,HBL.out⟩
   have u1D:decide (7<F)=false:=(by simpa using u1);by_cases l2:T<0
   case pos=>have hn1:n=1:=G1.out (fun h=>by have h2:=btw_true.1 (HBD.out.1 h).2.2.1;omega);subst hn1;have l2D:decide (T<0)=true:=(by simpa using l2);go_wp2;go_ret;exact ⟨rfl,HBL.out⟩
   have l2D:decide (T<0)=false:=(by simpa using l2);by_cases u2 : 7<T
   case pos=>have hn1:n=1:=G1.out (fun h=>by have h2:=btw_true.1 (HBD.out.1 h).2.2.1;omega);subst hn1;have u2D:decide (7<T)=true:=(by simpa using u2);go_wp2;go_ret;exact ⟨rfl,HBL.out⟩
   have u2D:decide (7<T)=false:=(by simpa using u2);by_cases l3:O<(-1)
   case pos=>have hn1:n=1:=G1.out (fun h=>by have h2:=btw_true.1 (HBD.out.1 h).2.2.2.1;omega);subst hn1;have l3D:decide (O<(-1:Int))=true:=(by simpa using l3);go_wp2;go_ret;exact ⟨rfl,HBL.out⟩
   have l3D:decide (O<(-1:Int))=false:=(by simpa using l3);by_cases u3 : 7<O
   case pos=>have hn1:n=1:=G1.out (fun h=>by have h2:=btw_true.1 (HBD.out.1 h).2.2.2.1;omega);subst hn1;have u3D:decide (7<O)=true:=(by simpa using u3);go_wp2;go_ret;exact ⟨rfl,HBL.out⟩
   have u3D:decide (7<O)=false:=(by simpa using u3);by_cases l4:I<1
   case pos=>have hn1:n=1:=G1.out (fun h=>by have h2:=btw_true.1 (HBD.out.1 h).2.2.2.2;omega);subst hn1;have l4D:decide (I<1)=true:=(by simpa using l4);go_wp2;go_ret;exact ⟨rfl,HBL.out⟩
   have l4D:decide (I<1)=false:=(by simpa using l4);by_cases u4 : 50<I
   case pos=>have hn1:n=1:=G1.out (fun h=>by have h2:=btw_true.1 (HBD.out.1 h).2.2.2.2;omega);subst hn1;have u4D:decide (50<I)=true:=(by simpa using u4);go_wp2;go_ret;exact ⟨rfl,HBL.out⟩
   have u4D:decide (50<I)=false:=(by simpa using u4);have hB:(Rl.mk nm K F T O I).bnd:=HBD.out.2 ⟨btw_true.2 (by omega),btw_true.2 (by omega),btw_true.2 (by omega),btw_true.2 (by omega),btw_true.2 (by omega)⟩;have J3:Hid (¬ (F≠T/\F≠O/\T≠O)->n=3):=G3.out hB;have J0:Hid ((F≠T/\F≠O/\T≠O)->n=0):=G0.out hB;clear hB G1 G3 G0 HBD;by_cases e0:F=T
   case pos=>have hn3:n=3:=J3.out (fun h=>absurd e0 h.1);subst hn3;have e0':(F == T)=true:=(by simpa using e0);clear e0;go_wp2;go_ret;exact ⟨rfl,HBL.out⟩
   have e0':(F == T)=false:=(by simpa using e0);by_cases e1:F=O
   case pos=>have hn3:n=3:=J3.out (fun h=>absurd e1 h.2.1);subst hn3;have e1':(F == O)=true:=(by simpa using e1);clear e1;go_wp2;go_ret;exact ⟨rfl,HBL.out⟩
   have e1':(F == O)=false:=(by simpa using e1);by_cases e2:T=O
   case pos=>have hn3:n=3:=J3.out (fun h=>absurd e2 h.2.2);subst hn3;have e2':(T == O)=true:=(by simpa using e2);clear e2;go_wp2;go_ret;exact ⟨rfl,HBL.out⟩
   have e2':(T == O)=false:=(by simpa using e2);have hn0:n=0:=J0.out ⟨e0,e1,e2⟩;subst hn0;go_wp2;go_ret;exact ⟨rfl,HBL.out⟩
end
end RuA
end Go.Proofs.YtmolafjalaeoaaaGreatDoor
