/-
  FrmR
-/
import Derived.Test.YtmolafjalaeoaaaGreatDoorQbo
set_option maxRecDepth 100000
set_option maxHeartbeats 8000000
namespace Go.Proofs.YtmolafjalaeoaaaGreatDoor
open Go.Proofs.Tryz
namespace FrmA
open Go.RowKit FrmM
theorem refFeed_any (lb:Nat) (rest s:ByteArray) (lost:Nat) (w:World) {L:Lay} (h:LineAt w lb L rest lost) (hs:rest.size+s.size<=100000) (hlo:lost<=10000000) :
  Calls prog 47 #[.pointer (some ⟨lb,L.lo,none⟩),.string s] w (FeedPost (rest.data.toList++s.data.toList) lb L lost w):=by
 obtain ⟨i0,hi,hz0,hz1,hz2⟩:=info_parts info24;obtain ⟨S,hS⟩:∃ S,S=rest.data.toList++s.data.toList:=⟨_,rfl⟩;rw[<- hS];have HS:Hid (S=rest.data.toList++s.data.toList):=hS;have HSl:Hid (S.length=rest.size+s.size):=by show _ = _;rw[hS,List.length_append,len_list,len_list]
 have c0:=h.c0;have hlb:=h.lt;have HL:Hid (LineAt w lb L rest lost):=h;have o1:¬ 9223372036854775807<rest.size+s.size:=by omega
 clear hS h;go_enter func47,ntmps47;go_wp2;go_loopw [1,5,6,7,8] (fun u l _ _ _ V=>∃ (t:ByteArray) (acc:List Fr) (q:Nat),u = .string t/\feed S=(acc++(feed t.data.toList).1,q+(feed t.data.toList).2.1,(feed t.data.toList).2.2)/\acc.length+q+t.size<=S.length/\FramesOwn V w.heap.size w.heap.size l acc/\LineAt V lb L rest (lost+q)/\But w.heap.size lb w V) (fun u _ _ _ _ _=>strSize u)
 case atStart=>
  refine ⟨rest++s,[],0,rfl,?_,?_,FramesOwn.nil _ _ _,HL.out,But.refl _ _ _⟩
  ·have e:(rest++s).data.toList=S:=(by rw[HS.out];simp);rw[e];simp
  ·rw[HSl.out];simp
 case round=>
  obtain ⟨t,acc,q,rfl,hfd,hle,hfo,hla,hbut⟩:=hrel;rw[HSl.out] at hle;have HFD:Hid (feed S=(acc++(feed t.data.toList).1,q+(feed t.data.toList).2.1,(feed t.data.toList).2.2)):=hfd;have HFO:Hid (FramesOwn wr w.heap.size w.heap.size u5 acc):=hfo;have HLA:Hid (LineAt wr lb L rest (lost+q)):=hla;have HBUT:Hid (But w.heap.size lb w wr):=hbut;have hwz:w.heap.size<=wr.heap.size:=hbut.size;have hts:t.size<=100000:=by omega
  have hal:acc.length<=100000:=by omega
  have hqq:q<=100000:=by omega
  have HLE:Hid (acc.length+q+t.size<=rest.size+s.size):=hle;clear hfd hfo hla hbut hle;by_cases hte:t.data.toList = []
  case pos=>
   have hE:t.size=0:=(by have:=congrArg List.length hte;rw[len_list] at this;exact this);have hEI:¬ (0:Int)<t.size:=(by omega);have HFE:Hid (feed S=(acc,q,t.data.toList)):=(by show _ = _;rw[HFD.out,hte,feed_nil];simp);clear hte;have n0:=HLA.out.c0;have nz:=HLA.out.fz L.lo;go_wp2;go_ret;refine ⟨_,rfl,?_,?_,HBUT.out.set L.lo _⟩
   ·rw[HFE.out];exact HFO.out.move (by simp[World.setCell]) (fun k h1 h2=>Below.heap_setCell _ _ _ _ (by show k≠lb;omega))
   ·rw[HFE.out];show LineAt _ lb L (str t.data.toList) _;rw[str_self];exact HLA.out.set0 t
  case neg=>
   have HNE:Hid (t.data.toList≠[]):=hte;have htp : 0<t.size:=(by have:=List.length_pos_iff.2 hte;rw[len_list] at this;exact this);have htpI:(0:Int)<t.size:=(by omega);clear hte;go_wp2_with fail;refine (frameAt_any t _ hts).mono ?_;rintro e w1 ⟨v,rfl,hro,hb1⟩;have HB1:Hid (Below wr.heap.size wr w1):=hb1;have hw1:wr.heap.size<=w1.heap.size:=hb1.size;have HLA1:Hid (LineAt w1 lb L rest (lost+q)):=HLA.out.keep (hb1.block lb HLA.out.lt);have HFO1:Hid (FramesOwn w1 w.heap.size w.heap.size u5 acc):=HFO.out.below hb1;have HBUT1:Hid (But w.heap.size lb w w1):=HBUT.out.trans (below_but (hb1.mono hwz) lb);cases hfr:front t.data.toList with
   | some f=>
    obtain ⟨hok,tl,htl⟩:=front_some hfr;have hF:frontF t.data.toList=f:=(by unfold frontF;rw[hfr]);have hN:frontN t.data.toList=(enc f).length:=(by unfold frontN;rw[hfr]);rw[hF] at hro ⊢;rw[hN];have HFF:=feed_frame hfr;have htag:∀ r ∈ f.rs,r.t.size<=maxLen:=fun r hr=>(by have:=hok.tags r hr;unfold maxLen;omega);obtain ⟨p,cap,rfl,hron⟩:=hro.on htag;have HRON:Hid (ReadsOn w1 p f.rs):=hron;have hblk:f.rs≠[]->∃ b o,p=some ⟨b,o,none⟩/\wr.heap.size<=b/\b<w1.heap.size:=(by intro hne;obtain ⟨g,cp,hv,h1,h2⟩:=hro.own.form (List.length_pos_iff.2 hne);simp at hv;exact ⟨g,0,hv.1,h1,h2⟩);have HBLK:Hid (f.rs≠[]->∃ b o,p=some ⟨b,o,none⟩/\wr.heap.size<=b/\b<w1.heap.size):=hblk;obtain ⟨N,hNN⟩:∃ N,N=(enc f).length:=⟨_,rfl⟩;have hNp : 0<N:=(by rw[hNN,enc_len];omega);have hNt:N<=t.size:=(by have:=congrArg List.length htl;rw[len_list,List.length_append] at this;omega);have hNI:(0:Int)<N:=(by omega);have hNtI:(N:Int)<=t.size:=(by omega);have HNN:Hid (N=(enc f).length):=hNN;have HFFH:Hid (feed t.data.toList=(f::(feed (t.data.toList.drop (enc f).length)).1,(feed (t.data.toList.drop (enc f).length)).2.1,(feed (t.data.toList.drop (enc f).length)).2.2)):=HFF;rw[<- hNN];clear hfr htl hF hN HFF hro hron hblk hNN hb1 hok htag tl;obtain ⟨ps,hpl,hpo,hpr⟩:=(HFO1.out.alloc (.cells #[.int .i64 f.ty,.slice p f.rs.length cap,.int .i64 f.wm] 93)).alloc (.cells #[.int .i64 f.ty,.slice p f.rs.length cap,.int .i64 f.wm] 93) |>.out;have HPR:Hid (∀ (k:Nat) (g:Fr) (pc:Option Addr×Nat),acc[k]?=some g->ps[k]?=some pc->ReadsOn ((w1.alloc (.cells #[.int .i64 f.ty,.slice p f.rs.length cap,.int .i64 f.wm] 93)).alloc (.cells #[.int .i64 f.ty,.slice p f.rs.length cap,.int .i64 f.wm] 93)) pc.1 g.rs/\(g.rs≠[]->∃ b o,pc.1=some ⟨b,o,none⟩/\w.heap.size<=b/\u5.ownBlock≠some b)):=hpr;have HPL:Hid (ps.length=acc.length):=hpl;have hnew:∀ k,u5.ownBlock=some k->k<wr.heap.size:=fun k hk=>(by obtain ⟨ps',_,ho',_⟩:=HFO.out.out;exact (ho'.lt k hk).2);have HNEW:Hid (∀ k,u5.ownBlock=some k->k<wr.heap.size):=hnew;clear hpl hpr hnew;go_wp2_with (at_builtin;refine wpList_append_lies _ rfl _ _ 132 rfl w.heap.size 93 i0 (.agg #[.int .i64 0,.slice none 0 0,.int .i64 0]) 3 40 underlying132 hi hz0 hz1 hz2 rfl (by decide) _ _ _ rfl hpo ⟨w1.heap.size+1,0,none⟩ 1 1 [.int .i64 f.ty,.slice p f.rs.length cap,.int .i64 f.wm] rfl rfl ?q1 ?q2 (by omega) ?q3 ?q4 ?q5 (w1.heap.size+2) ?q6 ?_)
    case q1=>
     intro j u hj
     match j,hj with
     | 0,hj=>simp at hj;subst hj;simp[Addr.add]
     | 1,hj=>simp at hj;subst hj;simp[Addr.add]
     | 2,hj=>simp at hj;subst hj;simp[Addr.add]
    case q2=>intro u hu;simp at hu;rcases hu with rfl | rfl | rfl<;>rfl
    case q3=>unfold maxLen;omega
    case q4=>omega
    case q5=>simp;omega
    case q6=>simp
    intro g cap' w3 hown3 hgrow3 hat hlt3;have hfo3:FramesOwn w3 w.heap.size w.heap.size (.slice (some ⟨g,0,none⟩) (acc.length+1) cap') (acc ++ [f]):=(by refine FramesOwn.snoc (p:=p) (c:=cap) HPL.out HPR.out hown3 hgrow3 (by rcases hat with h | h;exact Or.inl h;exact Or.inr (by rw[h];simp)) ((HRON.out.alloc _).alloc _) ?_;intro hne;obtain ⟨b,o,rfl,h1,h2⟩:=HBLK.out hne;exact ⟨b,o,rfl,by omega,fun e=>by have:=HNEW.out b e;omega⟩);have HFO3:Hid (FramesOwn w3 w.heap.size w.heap.size (.slice (some ⟨g,0,none⟩) (acc.length+1) cap') (acc ++ [f])):=hfo3;have hb3:Below w1.heap.size w1 w3\/True:=Or.inr trivial;have hbut3:But w.heap.size lb w w3:=(by refine HBUT1.out.trans (below_but ?_ lb);exact (((Below.refl w.heap.size w1).alloc (by omega) _).alloc (by simp;omega) _).grown hgrow3 (by simp;omega) (fun k hk=>(hpo.lt k hk).1));have HBUT3:Hid (But w.heap.size lb w w3):=hbut3
    have hla3:LineAt w3 lb L rest (lost+q):=HLA1.out.keep (by
     have e1:w3.heap[lb]?=((w1.alloc (.cells #[.int .i64 f.ty,.slice p f.rs.length cap,.int .i64 f.wm] 93)).alloc (.cells #[.int .i64 f.ty,.slice p f.rs.length cap,.int .i64 f.wm] 93)).heap[lb]?:=hgrow3.block lb (by simp;omega) (fun e=>by have:=(hpo.lt lb e.symm).1;omega);rw[e1,Below.heap_alloc _ _ _ (by simp;omega),Below.heap_alloc _ _ _ (by omega)])
    have HLA3:Hid (LineAt w3 lb L rest (lost+q)):=hla3;clear hown3 hgrow3 hat hlt3 hfo3 hb3 hbut3 hla3 hpo;go_wp2;go_roundw
    case rel=>
     have hd:(t.extract N t.size).data.toList=t.data.toList.drop (enc f).length:=(by rw[extract_list,HNN.out,List.take_of_length_le];rw[List.length_drop,len_list,<- HNN.out];omega);refine ⟨t.extract N t.size,acc ++ [f],q,rfl,?_,?_,HFO3.out,HLA3.out,HBUT3.out⟩
     ·rw[hd,HFD.out,HFFH.out];simp
     ·have h1:=HLE.out;rw[HSl.out,ByteArray.size_extract];simp;omega
    case measure=>simp[strSize];omega
   | none=>
    have hF:frontF t.data.toList=⟨0,[],0⟩:=(by unfold frontF;rw[hfr];rfl);have hN:frontN t.data.toList=0:=(by unfold frontN;rw[hfr]);rw[hF] at hro ⊢;rw[hN];obtain ⟨p,cap,rfl,-⟩:=hro.on (fun r hr=>absurd hr List.not_mem_nil);have HFR:Hid (front t.data.toList=none):=hfr;have HLAx:Hid (∀ o,LineAt (w1.alloc o) lb L rest (lost+q)):=fun o=>HLA1.out.keep (Below.heap_alloc _ _ _ HLA1.out.lt);clear hfr hF hN hro hb1;go_wp2_with fail;refine (beginning_any t _ hts htp).mono ?_;rintro e w2 ⟨rfl,rfl⟩;cases hbg:begins t.data.toList with
    | true=>
     have HFE:Hid (feed S=(acc,q,t.data.toList)):=(by show _ = _;rw[HFD.out,feed_wait HNE.out HFR.out hbg];simp);clear hbg HLA HFO HBUT;have HLA:=HLAx;have hla0:LineAt (w1.alloc (.cells #[.int .i64 0,.slice p 0 cap,.int .i64 0] 93)) lb L rest (lost+q):=HLAx.out _;have hfo0:FramesOwn (w1.alloc (.cells #[.int .i64 0,.slice p 0 cap,.int .i64 0] 93)) w.heap.size w.heap.size u5 acc:=HFO1.out.alloc _;have hbu0:But w.heap.size lb w (w1.alloc (.cells #[.int .i64 0,.slice p 0 cap,.int .i64 0] 93)):=HBUT1.out.trans (below_but ((Below.refl _ _).alloc (by omega) _) lb);clear HLA;have HLA:Hid (LineAt (w1.alloc (.cells #[.int .i64 0,.slice p 0 cap,.int .i64 0] 93)) lb L rest (lost+q)):=hla0;have HFO:Hid (FramesOwn (w1.alloc (.cells #[.int .i64 0,.slice p 0 cap,.int .i64 0] 93)) w.heap.size w.heap.size u5 acc):=hfo0;have HBUT:Hid (But w.heap.size lb w (w1.alloc (.cells #[.int .i64 0,.slice p 0 cap,.int .i64 0] 93))):=hbu0;clear hla0 hfo0 hbu0;have n0:=HLA.out.c0;have nz:=HLA.out.fz L.lo;go_wp2;go_ret;refine ⟨_,rfl,?_,?_,HBUT.out.set L.lo _⟩
     ·rw[HFE.out];exact HFO.out.move (by simp[World.setCell]) (fun k h1 h2=>Below.heap_setCell _ _ _ _ (by show k≠lb;omega))
     ·rw[HFE.out];show LineAt _ lb L (str t.data.toList) _;rw[str_self];exact HLA.out.set0 t
    | false=>
     have HLO:Hid (feed t.data.toList=((feed (t.data.toList.drop 1)).1,(feed (t.data.toList.drop 1)).2.1+1,(feed (t.data.toList.drop 1)).2.2)):=feed_lose HNE.out HFR.out hbg;have d1:=(HLAx.out (.cells #[.int .i64 0,.slice p 0 cap,.int .i64 0] 93)).c1;have dz:=(HLAx.out (.cells #[.int .i64 0,.slice p 0 cap,.int .i64 0] 93)).fz (L.lo+1);have htI:(1:Int)<=t.size:=(by omega);clear hbg;go_wp2;go_roundw
     case rel=>
      have hd:(t.extract 1 t.size).data.toList=t.data.toList.drop 1:=(by rw[extract_list,List.take_of_length_le];rw[List.length_drop,len_list];omega);refine ⟨t.extract 1 t.size,acc,q+1,rfl,?_,?_,?_,?_,?_⟩
      ·rw[hd,HFD.out,HLO.out];simp;omega
      ·have h1:=HLE.out;rw[HSl.out,ByteArray.size_extract];omega
      ·exact (HFO1.out.alloc _).move (by simp[World.setCell]) (fun k h1 h2=>Below.heap_setCell _ _ _ _ (by show k≠lb;omega))
      ·exact (HLAx.out _).set1 (lost+(q+1)) (by omega)
      ·exact (HBUT1.out.trans (below_but ((Below.refl _ _).alloc (by omega) _) lb)).set (L.lo+1) _
     case measure=>simp[strSize];omega
end FrmA
end Go.Proofs.YtmolafjalaeoaaaGreatDoor
