/-
  TkR2
-/
import Derived.Test.YtmolafjalaeoaaaGreatDoorQbc
import Derived.Laws.OwnMore
import Derived.Laws.IdiomCopy
import Derived.Sort.Walk0
set_option maxRecDepth 100000
set_option maxHeartbeats 8000000
namespace Go.Proofs.YtmolafjalaeoaaaGreatDoor
open Tryz
namespace TkA
open Go.RowKit TkM TkW Go.Maps
open Tk0
def putL:List Value->Nat->List Value->List Value
 | xs,_,[]=>xs
 | xs,o,v::r=>putL (xs.set o v) (o+1) r
theorem putL_all:∀ (cs X A:List Value),cs.length=X.length->putL (A++X) A.length cs=A++cs
 | [],X,A,h=>by have:X = []:=List.length_eq_zero_iff.1 h.symm;subst this;rfl
 | v::r,[],A,h=>by simp at h
 | v::r,x::X,A,h=>by
  show putL ((A++x::X).set A.length v) (A.length+1) r=A++v::r;have e1:(A++x::X).set A.length v=(A ++ [v])++X:=by simp
  have e2:A.length+1=(A ++ [v]).length:=by simp
  rw[e1,e2,putL_all r X (A ++ [v]) (by simpa using h)];simp
theorem own_sets {base n g cap:Nat} {e:TypeId}:∀ (cs:List Value) (off:Nat) (w:World) (xs:List Value),w.ownsRow base e 1 (.slice (some ⟨g,0,none⟩) n cap) n xs->(w.setCells g off cs).ownsRow base e 1 (.slice (some ⟨g,0,none⟩) n cap) n (putL xs off cs)/\w.grownBy (w.setCells g off cs) (some g)
 | [],off,w,xs,h=>⟨h,⟨rfl,rfl,rfl,Nat.le_refl _,fun _ _ _=>rfl⟩⟩
 | v::r,off,w,xs,h=>by obtain ⟨h1,h2⟩:=h.stored off v;obtain ⟨h3,h4⟩:=own_sets r (off+1) _ _ h1;refine ⟨h3,⟨h4.os.trans h2.os,h4.tape.trans h2.tape,h4.output.trans h2.output,Nat.le_trans h2.size h4.size,fun k hk hn=>(h4.block k (Nat.lt_of_lt_of_le hk h2.size) hn).trans (h2.block k hk hn)⟩⟩
def sv (s:ByteArray):Value:=.string s
theorem ins_list (L:List Value) (z s:Value) (k:Nat) (hk:k<=L.length):(putL (L ++ [z]) (k+1) (L.drop k)).set k s=L.take k++s::L.drop k:=by
 obtain ⟨A,B,rfl,rfl⟩:∃ A B,L=A++B/\A.length=k:=⟨L.take k,L.drop k,(List.take_append_drop k L).symm,by simp;omega⟩;rw[List.drop_left,List.take_left]
 obtain ⟨y,X,hX⟩:∃ y X,B ++ [z]=y::X:=by
  cases B with
  | nil=>exact ⟨z,[],rfl⟩
  | cons b B=>exact ⟨b,B ++ [z],rfl⟩
 have hl:B.length=X.length:=by have:=congrArg List.length hX;simp at this;omega
 have e1:A++B ++ [z]=(A ++ [y])++X:=by rw[List.append_assoc,hX];simp
 have e2:A.length+1=(A ++ [y]).length:=by simp
 rw[e1,e2,putL_all B X (A ++ [y]) hl];simp
theorem bl_true {a b:ByteArray} (h:Op.bytesLess a.toList b.toList=true):a.toList<b.toList:=by rw[bytesLess_eq] at h;simpa using h
theorem bl_false {a b:ByteArray} (h:Op.bytesLess a.toList b.toList=false) (hn:¬ a=b):b.toList<a.toList:=by
 rw[bytesLess_eq] at h;have h1:¬ a.toList<b.toList:=by simpa using h
 have h2:b.toList<=a.toList:=List.not_lt.1 h1;rcases Classical.em (b.toList<a.toList) with h3 | h3
 ·exact h3
 ·have h4:a.toList<=b.toList:=List.not_lt.1 h3;have h5:=List.le_antisymm h4 h2;exact absurd (bytes_ext (by rw[<- ByteArray.toList_eq,<- ByteArray.toList_eq];exact h5)) hn
theorem ins_srt {L:List ByteArray} {s:ByteArray} {k:Nat} (hs:L.Pairwise (fun a b=>a.toList<b.toList)) (hlow:∀ i y,i<k->L[i]?=some y->y.toList<s.toList) (hup:∀ y,L[k]?=some y->s.toList<y.toList) (hk:k<=L.length):(L.take k++s::L.drop k).Pairwise (fun a b=>a.toList<b.toList):=by
 obtain ⟨A,B,rfl,rfl⟩:∃ A B,L=A++B/\A.length=k:=⟨L.take k,L.drop k,(List.take_append_drop k L).symm,by simp;omega⟩;rw[List.take_left,List.drop_left];rw[List.pairwise_append] at hs ⊢;obtain ⟨hA,hB,hAB⟩:=hs
 have hsB:∀ y,y ∈ B->s.toList<y.toList:=by
  cases B with
  | nil=>intro y hy;simp at hy
  | cons b B=>
   have hb:=hup b (by simp);intro y hy;rcases List.mem_cons.1 hy with rfl | hy
   ·exact hb
   ·exact List.lt_trans hb ((List.pairwise_cons.1 hB).1 y hy)
 have hAs:∀ y,y ∈ A->y.toList<s.toList:=fun y hy=>by obtain ⟨i,hi,rfl⟩:=List.mem_iff_getElem.1 hy;exact hlow i _ hi (by rw[List.getElem?_append_left hi,List.getElem?_eq_getElem hi])
 refine ⟨hA,List.pairwise_cons.2 ⟨hsB,hB⟩,fun x hx y hy=>?_⟩;rcases List.mem_cons.1 hy with rfl | hy
 ·exact hAs x hx
 ·exact hAB x hx y hy
theorem mem_ins {L:List ByteArray} {s g:ByteArray} {k:Nat}:g ∈ L.take k++s::L.drop k↔g ∈ L\/s=g:=by
 rw[List.mem_append,List.mem_cons];have h:g ∈ L↔g ∈ L.take k\/g ∈ L.drop k:=by rw[<- List.mem_append,List.take_append_drop]
 rw[h];constructor
 ·rintro (h | rfl | h)
  ·exact Or.inl (Or.inl h)
  ·exact Or.inr rfl
  ·exact Or.inl (Or.inr h)
 ·rintro ((h | h) | rfl)
  ·exact Or.inl h
  ·exact Or.inr (Or.inr h)
  ·exact Or.inr (Or.inl rfl)
theorem own_cap {V:World} {B g n cap:Nat} {e:TypeId} {size:Nat} {xs:List Value} (h:V.ownsRow B e size (.slice (some ⟨g,0,none⟩) n cap) n xs):n<=cap:=by
 rcases h.2 with ⟨h',_⟩ | ⟨g',cap',cur,h',_,_,hnc,_⟩
 ·simp at h'
 ·simp at h';omega
theorem copy_tail {V:World} {B g n cap h:Nat} {L:List Value} {D1:Option Addr} (ho:V.ownsRow B 9 1 (.slice (some ⟨g,0,none⟩) (n+1) cap) (n+1) (L ++ [.string ⟨#[]⟩])) (hL:L.length=n) (hone:∀ v ∈ L,v.oneCell'=true) (hh:h<=n) (hD:D1=(if cap=h+1 then (some ⟨g,0,none⟩:Option Addr) else some ⟨g,h+1,none⟩)) :
  (Builtin.copy_ #[63,63] 3 #[.slice D1 (n-h) (cap-(h+1)),.slice (some ⟨g,h,none⟩) (n+1-h) (cap-h)]).run prog V.drew = .ok (goInt ((n-h:Nat):Int)) (V.drew.setCells g (h+1) (L.drop h)):=by
 have hsz:(prog.info? 9).map (·.size)=some 1:=by kernel_rfl
 have hcap:=own_cap ho;have ho':V.drew.ownsRow B 9 1 (.slice (some ⟨g,0,none⟩) (n+1) cap) (n+1) (L ++ [.string ⟨#[]⟩]):=own_keep ho (fun b _=>rfl);by_cases hn:h=n
 ·subst hn;have e1:L.drop h = []:=List.drop_eq_nil_of_le (by omega);rw[e1,Nat.sub_self];exact run_copy_none (P:=prog) V.drew 63 63 3 9 D1 _ 0 _ _ _ underlying63 hsz (by simp)
 ·have hD1:D1=some ⟨g,h+1,none⟩:=by rw[hD,if_neg (by omega)]
  have hlen:(L.drop h).length=n-h:=by simp[hL]
  subst hD1;have:=run_copy_cells (P:=prog) V.drew 63 63 3 9 g (h+1) (n-h) (cap-(h+1)) ⟨g,h,none⟩ (n+1-h) (cap-h) (L.drop h) underlying63 hsz (by rw[hlen];exact (Nat.min_eq_right (by omega)).symm) ?_ ?_ ?_ ?_
  ·rw[hlen] at this;exact this
  ·intro j v hv;rw[Addr.add_mid];rw[List.getElem?_drop] at hv
   have hlt:h+j<n:=by
    rcases Nat.lt_or_ge (h+j) L.length with h' | h'
    ·omega
    ·rw[List.getElem?_eq_none h'] at hv;cases hv
   rw[ho'.cellAt (h+j) (by omega),List.getElem?_append_left (by omega)];exact hv
  ·intro j hj;rw[ho'.cellAt (h+1+j) (by omega),List.getElem?_eq_getElem (by simp;omega)];rfl
  ·intro j hj;exact ho'.frozenAt _
  ·intro v hv;have hv':v ∈ L:=List.mem_of_mem_drop hv;exact hone v hv'
theorem info9:(prog.info? 9).map (fun i=>(i.zero,i.size,i.bytes))=some (some (.string ⟨#[]⟩),1,16):=by kernel_rfl
theorem map_ins (L:List ByteArray) (s:ByteArray) (k:Nat):(L.take k++s::L.drop k).map sv=(L.map sv).take k++sv s::(L.map sv).drop k:=by simp[List.map_take,List.map_drop]
section
variable {w : World} {rb W need : Nat} {p : Option Addr} {cap : Nat} {E : List (List Sg)}
structure TgsAt (V:World) (B:Nat) (v:Value) (L:List ByteArray):Prop where
 own:V.ownsRow B 9 1 v L.length (L.map sv)
 srt:L.Pairwise (fun a b=>a.toList<b.toList)
theorem rtags_to (u:Nat) (d:RfV w rb W need p cap E) :
  Calls prog 90 #[.pointer (some ⟨rb,0,none⟩),.int .i64 (u:Int)] w fun e w'=>∃ v,e = .returned v/\∃ L,TgsAt w' w.heap.size v L/\L.length<=600000/\(∀ g,g ∈ L↔told g (E.take (u+1))=true)/\Below w.heap.size w w':=by
 have mixed:prog.follows .mixedOrders=true:=by kernel_rfl
 obtain ⟨i9,hi9,hz9,hs9,hb9⟩:=info_parts info9;obtain ⟨N,hN⟩:∃ N,N=E.length:=⟨_,rfl⟩;have HN:Hid (N=E.length):=hN;have HD:Hid (RfV w rb W need p cap E):=d;have hn25:=(light_iff.1 d.good).1;rw[<- hN] at hn25;clear hN d;go_enter func90,ntmps90;go_wp2;go_loopw [5,6,7,8,9] (fun v i _ _ _ V=>∃ (k:Nat) (L:List ByteArray),k<=N/\k<=u+1/\i = .int .i64 (k:Int)/\TgsAt V w.heap.size v L/\L.length<=k*6000/\(∀ g,g ∈ L↔told g (E.take k)=true)/\Below w.heap.size w V) (fun _ i _ _ _ _=>N-(intOf i).toNat)
 case atStart=>exact ⟨0,[],Nat.zero_le _,Nat.zero_le _,rfl,⟨World.ownsRow_nil _ _ _ _,List.Pairwise.nil⟩,Nat.le_refl _,fun g=>by simp[told],Below.refl _ _⟩
 case round=>
  obtain ⟨k,L0,hk,hku,rfl,hT0,hL0,hM0,hbl⟩:=hrel;have HB0:Hid (Below w.heap.size w wr):=hbl;have HT0:Hid (TgsAt wr w.heap.size u5 L0):=hT0;have HM0:Hid (∀ g,g ∈ L0↔told g (E.take k)=true):=hM0;have c2:wr.cell? ⟨rb,2,none⟩=some (.slice p N cap):=by rw[hbl.cell HD.out.lt,HN.out];exact HD.out.c2
  by_cases hlt:k<N/\k<=u
  case neg=>
   have HEN:Hid (E.take k=E.take (u+1)):=by
    show _ = _;by_cases hx:k<N
    ·have:k=u+1:=(by omega);rw[this]
    ·have h1:k=N:=(by omega);rw[List.take_of_length_le (by rw[<- HN.out];omega),List.take_of_length_le (by rw[<- HN.out];omega)]
   by_cases hx:k<N
   ·have hI1:(k:Int)<N:=(by omega);have hI2:¬ (k:Int)<=u:=(by omega);clear hT0 hM0 hbl;go_wp2;go_ret;exact ⟨_,rfl,L0,HT0.out,by omega,by rw[<- HEN.out];exact HM0.out,HB0.out⟩
   ·have hI1:¬ (k:Int)<N:=(by omega);clear hT0 hM0 hbl;go_wp2;go_ret;exact ⟨_,rfl,L0,HT0.out,by omega,by rw[<- HEN.out];exact HM0.out,HB0.out⟩
  case pos=>
   have hkI:(k:Int)<N:=(by omega);have hkI2:(k:Int)<=u:=(by omega);have hk':k<E.length:=(by rw[<- HN.out];exact hlt.1);obtain ⟨b,o,rfl,hb,hc⟩:=HD.out.on.at_ (by intro e;rw[e] at hk';simp at hk');obtain ⟨q,cp,k0,hs⟩:=hc k _ (List.getElem?_eq_getElem hk');have HTK:Hid (∀ g,told g (E.take (k+1))=(told g (E.take k)||seenG g E[k])):=fun g=>told_take hk';obtain ⟨hm25,hg20⟩:=goodL_iff.1 ((light_iff.1 HD.out.good).2 _ (List.getElem_mem hk'));generalize E[k]=l at *;obtain ⟨m,hm⟩:∃ m,m=l.length:=⟨_,rfl⟩;have HM:Hid (m=l.length):=hm;rw[<- hm] at k0 hm25;have HS:Hid (SgsOn w q l):=hs;have HG20:Hid (∀ x,x ∈ l->x.g.size<=20):=hg20;have hrb:=HD.out.lt;have c2w:w.cell? ⟨rb,2,none⟩=some (.slice (some ⟨b,o,none⟩) N cap):=(by rw[HN.out];exact HD.out.c2);have HK0:Hid (∀ V,Below w.heap.size w V->V.cell? ⟨b,o+k,none⟩=some (.slice q m cp)/\V.cell? ⟨rb,2,none⟩=some (.slice (some ⟨b,o,none⟩) N cap)):=fun V hV=>⟨by rw[hV.cell hb];exact k0,by rw[hV.cell hrb];exact c2w⟩;have k0':=(HK0.out wr HB0.out).1;clear hT0 hM0 hbl hc hs hm k0 c2w hg20;go_wp2;clear k0' c2;go_loopw [5,7,8,9] (fun v i _ _ V=>∃ (j:Nat) (L:List ByteArray),j<=m/\i = .int .i64 (j:Int)/\TgsAt V w.heap.size v L/\L.length<=k*6000+j/\(∀ g,g ∈ L↔(told g (E.take k)||seenG g (l.take j))=true)/\Below w.heap.size w V) (fun _ i _ _ _=>m-(intOf i).toNat)
   case atStart=>exact ⟨0,L0,Nat.zero_le _,rfl,HT0.out,hL0,fun g=>by rw[HM0.out g];simp[seenG],HB0.out⟩
   case round=>
    clear HT0 HM0 HB0;obtain ⟨j,L,hj,rfl,hT,hL,hMm,hbl⟩:=hrel;have HB:Hid (Below w.heap.size w wr):=hbl;have HT:Hid (TgsAt wr w.heap.size u5 L):=hT;have HMM:Hid (∀ g,g ∈ L↔(told g (E.take k)||seenG g (l.take j))=true):=hMm;obtain ⟨k0,c2⟩:=HK0.out wr hbl;by_cases hlj:j<m
    case neg=>have hjj:j=m:=(by omega);subst hjj;have hII:¬ (j:Int)<j:=(by omega);clear hT hMm hbl hlj;go_wp2;refine ⟨⟨k+1,L,by omega,by omega,by go_num,HT.out,by omega,fun g=>?_,HB.out⟩,by simp[intOf];omega⟩;rw[HMM.out g,HTK.out g,HM.out,List.take_length]
    case pos=>
     have hjI:(j:Int)<m:=(by omega);have hj':j<l.length:=(by rw[<- HM.out];exact hlj);obtain ⟨b',o',rfl,hb',hc'⟩:=HS.out.at_ (by intro e;rw[e] at hj';simp at hj');have a3:=((hc' j _ (List.getElem?_eq_getElem hj')).keep (hbl.block b' hb')).c3;have hgx:=HG20.out _ (List.getElem_mem hj');have HSN:Hid (∀ g,seenG g (l.take (j+1))=(seenG g (l.take j)||decide (l[j].g=g))):=fun g=>seen_take hj';generalize l[j]=x at *;obtain ⟨xp,xs,xt,xg⟩:=x;simp only at a3 hgx HSN;clear hc' hMm hT hbl;obtain ⟨V1,hV1⟩:∃ V1,V1=wr:=⟨_,rfl⟩;rw[<- hV1] at HB HT a3 k0 c2 ⊢;clear hV1;obtain ⟨n,hn⟩:∃ n,n=L.length:=⟨_,rfl⟩;have HNN:Hid (n=L.length):=hn;rw[<- hn] at hL;clear hn
     obtain ⟨pv,cv,hv,hcells⟩:∃ pv cv,u5 = .slice pv n cv/\∀ i y,L[i]?=some y->∃ g,pv=some ⟨g,0,none⟩/\V1.cell? ⟨g,i,none⟩=some (.string y):=by
      rw[HNN.out];rcases Nat.eq_zero_or_pos L.length with h0 | h0
      ·have:L = []:=List.length_eq_zero_iff.1 h0;subst this;rcases HT.out.own.2 with ⟨rfl,_⟩ | ⟨g,cap,cur,hv,_⟩
       ·exact ⟨none,0,rfl,fun i y h=>by simp at h⟩
       ·exact ⟨_,cap,hv,fun i y h=>by simp at h⟩
      ·obtain ⟨g,cap,hv,_,_⟩:=HT.out.own.form h0;refine ⟨some ⟨g,0,none⟩,cap,hv,fun i y h=>⟨g,rfl,?_⟩⟩;have hown:=HT.out.own;rw[hv] at hown;have:=hown.cells (g:=g) rfl i (sv y) (by simp[h]);rw[addr_add] at this;exact this
     subst hv;have HCE:Hid (∀ i y,L[i]?=some y->∃ g,pv=some ⟨g,0,none⟩/\V1.cell? ⟨g,i,none⟩=some (.string y)):=hcells;have hn625:n<=700000:=(by omega);have hnI:(n:Int)<=700000:=(by omega);clear hcells;go_wp2;clear a3 k0 c2;go_loopw [9] (fun i V=>∃ h:Nat,h<=n/\i = .int .i64 (h:Int)/\V=V1/\∀ i y,i<h->L[i]?=some y->y.toList<xg.toList) (fun i _=>n-(intOf i).toNat)
     case atStart=>exact ⟨0,Nat.zero_le _,rfl,rfl,fun i y hi=>by omega⟩
     case round=>
      obtain ⟨h,hh,rfl,rfl,hlow⟩:=hrel;have HLOW:Hid (∀ i y,i<h->L[i]?=some y->y.toList<xg.toList):=hlow;clear hlow;by_cases hhn:h<n
      case pos=>
       have hhI:(h:Int)<n:=(by omega);have hh':h<L.length:=(by rw[<- HNN.out];exact hhn);obtain ⟨g,rfl,hcell⟩:=HCE.out h _ (List.getElem?_eq_getElem hh');generalize hy:L[h]=y at *;have HY:Hid (L[h]?=some y):=(by show _ = _;rw[List.getElem?_eq_getElem hh',hy]);clear hy;cases hbl:Op.bytesLess y.toList xg.toList with
       | true=>
        go_wp2;go_roundw
        case rel=>
         refine ⟨h+1,by omega,by go_num,trivial,fun i z hi hz=>?_⟩;by_cases e:i=h
         ·rw[e,HY.out] at hz;simp at hz;rw[<- hz];exact bl_true hbl
         ·exact HLOW.out i z (by omega) hz
        case measure=>simp[intOf];omega
       | false=>
        by_cases hq:y=xg
        ·have hqb:=sbeq_true hq;have HQ:Hid (y=xg):=hq;clear hq;go_wp2;refine ⟨⟨j+1,L,by omega,by go_num,by have:=HT.out;exact this,by rw[<- HNN.out];omega,fun g=>?_,HB.out⟩,by simp[intOf];omega⟩;rw[HMM.out g,HSN.out g];have hin:xg ∈ L:=(by rw[<- HQ.out];exact List.mem_of_getElem? HY.out);have h1:=(HMM.out xg).1 hin;by_cases hg:xg=g
         ·rw[<- hg];simp only[Bool.or_eq_true] at h1 ⊢;rcases h1 with h1 | h1
          ·simp[h1]
          ·simp[h1]
         ·simp[hg]
        ·have hqb:=sbeq_false hq;have HUP:Hid (∀ y,L[h]?=some y->xg.toList<y.toList):=fun z hz=>(by rw[HY.out] at hz;simp at hz;rw[<- hz];exact bl_false hbl hq);have hpo:(wr.alloc (.cells #[.string ⟨#[]⟩] 9)).ownsRow w.heap.size 9 1 (.slice (some ⟨g,0,none⟩) n cv) n (L.map sv):=(by have:=HT.out.own.alloc (.cells #[.string ⟨#[]⟩] 9);rw[<- HNN.out] at this;exact this);have HMAP:Hid ((L.map sv).length=n):=(by show _ = _;rw[List.length_map,HNN.out]);go_wp2_with (at_builtin;refine wpList_append_lies _ rfl _ _ 63 rfl w.heap.size 9 i9 (.string ⟨#[]⟩) 1 16 underlying63 hi9 hz9 hs9 hb9 rfl (by decide) _ _ _ rfl hpo ⟨wr.heap.size,0,none⟩ 1 1 [.string ⟨#[]⟩] rfl rfl ?q1 ?q2 (by omega) ?q3 ?q4 ?q5 (wr.heap.size+1) ?q6 ?_)
         try case q1=>
          intro j u hj
          match j,hj with
          | 0,hj=>simp at hj;subst hj;simp[Addr.add]
         try case q2=>first | rfl | (intro u hu;simp at hu;subst hu;rfl)
         try case q3=>unfold maxLen;omega
         try case q4=>omega
         try case q5=>have:=HB.out.size;simp;omega
         try case q6=>simp
         intro g2 cv2 V3 hown3 hgrow3 hat3 hlt3;have hg2:w.heap.size<=g2:=(hown3.lt g2 rfl).1;have HB3:Hid (Below w.heap.size w V3):=(by have h1:Below w.heap.size w (wr.alloc (.cells #[.string ⟨#[]⟩] 9)):=HB.out.alloc HB.out.size _;refine h1.trans ⟨hgrow3.os,hgrow3.tape,hgrow3.output,hgrow3.size,fun b hb=>hgrow3.block b (by have:=h1.size;omega) (fun e=>?_)⟩;have:=(hpo.lt b e.symm).1;omega);have HOWN3:Hid (V3.ownsRow w.heap.size 9 1 (.slice (some ⟨g2,0,none⟩) (n+1) cv2) (n+1) (L.map sv ++ [.string ⟨#[]⟩])):=hown3;clear hown3 hgrow3 hat3 hlt3 hpo;go_wp2;have hcap2:n+1<=cv2:=own_cap HOWN3.out;have hhI2:(h:Int)<=n:=(by omega);have hcI:(n:Int)+1<=cv2:=(by omega);have hcne:¬ cv2=h:=(by omega);obtain ⟨D1,hD1⟩:∃ D1,D1=(if cv2=h+1 then (some ⟨g2,0,none⟩:Option Addr) else some ⟨g2,h+1,none⟩):=⟨_,rfl⟩;have HD1:Hid (D1=(if cv2=h+1 then (some ⟨g2,0,none⟩:Option Addr) else some ⟨g2,h+1,none⟩)):=hD1;clear hD1;have HCP:Hid ((Builtin.copy_ #[63,63] 3 #[.slice D1 (n-h) (cv2-(h+1)),.slice (some ⟨g2,h,none⟩) (n+1-h) (cv2-h)]).run prog V3.drew = .ok (goInt ((n-h:Nat):Int)) (V3.drew.setCells g2 (h+1) ((L.map sv).drop h))):=copy_tail HOWN3.out HMAP.out (fun v hv=>by obtain ⟨y,_,rfl⟩:=List.mem_map.1 hv;rfl) hh HD1.out;have HOWN4:Hid ((V3.drew.setCells g2 (h+1) ((L.map sv).drop h)).ownsRow w.heap.size 9 1 (.slice (some ⟨g2,0,none⟩) (n+1) cv2) (n+1) (putL (L.map sv ++ [.string ⟨#[]⟩]) (h+1) ((L.map sv).drop h))/\Below w.heap.size w (V3.drew.setCells g2 (h+1) ((L.map sv).drop h))):=(by obtain ⟨s1,s2⟩:=own_sets ((L.map sv).drop h) (h+1) V3.drew _ (own_keep HOWN3.out (fun b _=>rfl));have h3:Below w.heap.size w V3.drew:=HB3.out.trans ((drewN_below V3 1).mono HB3.out.size);exact ⟨s1,h3.trans (grown_below s2 hg2 h3.size)⟩);refine wp_region_held_drew (S:=fun _=>True) (by kernel_rfl) trivial (fun _=>?_);refine tk 0 76 (.slice (some ⟨g2,0,none⟩) (n+1) cv2) rfl rfl (by kernel_rfl) (fun _ _ _ h=>h) (Or.inl ⟨by rfl,fun wx _=>by go_simp⟩) trivial ?_;simp only[Act.put,sA,sB,sC];refine tk 1 77 (.int .i64 (h:Int)) rfl rfl (by kernel_rfl) (fun _ _ _ h=>h) (Or.inl ⟨by rfl,fun wx _=>by go_simp⟩) trivial ?_;simp only[Act.put,sA,sB,sC];refine tk 2 78 (.int .i64 ((h:Int)+1)) rfl rfl (by kernel_rfl) (fun _ _ _ h=>h) (Or.inl ⟨by rfl,fun wx _=>by go_simp;try exact IntWalk.i64_in _ (by omega)⟩) trivial ?_;simp only[Act.put,sA,sB,sC];refine tk 4 80 (.slice (some ⟨g2,0,none⟩) (n+1) cv2) rfl rfl (by kernel_rfl) (fun _ _ _ h=>h) (Or.inl ⟨by rfl,fun wx _=>by go_simp⟩) trivial ?_;simp only[Act.put,sA,sB,sC];refine tk 5 81 (.int .i64 (h:Int)) rfl rfl (by kernel_rfl) (fun _ _ _ h=>h) (Or.inl ⟨by rfl,fun wx _=>by go_simp⟩) trivial ?_;simp only[Act.put,sA,sB,sC];refine tk 3 79 (.slice D1 (n-h) (cv2-(h+1))) rfl rfl (by kernel_rfl) (fun _ _ _ h=>h) (Or.inl ⟨by rfl,fun wx _=>by rw[HD1.out];go_simp;try (intro hneg;omega)⟩) trivial ?_;simp only[Act.put,sA,sB,sC];refine tk 6 82 (.slice (some ⟨g2,h,none⟩) (n+1-h) (cv2-h)) rfl rfl (by kernel_rfl) (fun _ _ _ h=>h) (Or.inl ⟨by rfl,fun wx _=>by go_simp;try (intro hneg;omega)⟩) trivial ?_;simp only[Act.put,sA,sB,sC];refine wpAnyH_ready (rs:=[7]) (by kernel_rfl) (by simp) ?_;refine AllReadyH.cons rfl (fun K hK=>?_) AllReadyH.nil;have hcp:=HCP.out;go_simp;clear hcp;refine hK.out _ _ trivial (fun _=>?_);clear hK K;refine wpAnyH_done (by kernel_rfl) ?_ _;obtain ⟨V4,hV4⟩:∃ V4,V4=V3.drew.setCells g2 (h+1) ((L.map sv).drop h):=⟨_,rfl⟩;rw[<- hV4] at HOWN4 ⊢;clear hV4 HCP HD1 HOWN3;have k4:∃ u,V4.cell? ⟨g2,h,none⟩=some u:=(by have h1:=HOWN4.out.1.cellAt h (by omega);have h2:h<(putL (L.map sv ++ [.string ⟨#[]⟩]) (h+1) ((L.map sv).drop h)).length:=(by have:=HOWN4.out.1.1;omega);rw[List.getElem?_eq_getElem h2] at h1;exact ⟨_,h1⟩);obtain ⟨u4,k4⟩:=k4;have f4:=HOWN4.out.1.frozenAt h;have HFIN:Hid (TgsAt (V4.setCell ⟨g2,h,none⟩ (.string xg)) w.heap.size (.slice (some ⟨g2,0,none⟩) (n+1) cv2) (L.take h++xg::L.drop h)/\Below w.heap.size w (V4.setCell ⟨g2,h,none⟩ (.string xg))/\(L.take h++xg::L.drop h).length=n+1):=by obtain ⟨s1,s2⟩:=HOWN4.out.1.stored h (.string xg);have hlen:(L.take h++xg::L.drop h).length=n+1:=(by simp;have:=HNN.out;omega);refine ⟨⟨?_,ins_srt HT.out.srt HLOW.out HUP.out (by rw[<- HNN.out];exact hh)⟩,HOWN4.out.2.trans (grown_below s2 hg2 HOWN4.out.2.size),hlen⟩;rw[hlen,map_ins,<- ins_list (L.map sv) (.string ⟨#[]⟩) (sv xg) h (by rw[HMAP.out];exact hh)];exact s1
         have HMEM:Hid (∀ g,g ∈ L.take h++xg::L.drop h↔(told g (E.take k)||seenG g (l.take (j+1)))=true):=fun g=>by
          rw[mem_ins,HMM.out g,HSN.out g];by_cases hg:xg=g
          ·simp[hg]
          ·simp[hg]
         clear HOWN4;go_wp2;refine ⟨⟨j+1,L.take h++xg::L.drop h,by omega,by go_num,HFIN.out.1,by rw[HFIN.out.2.2];omega,HMEM.out,HFIN.out.2.1⟩,by simp[intOf];omega⟩
      case neg=>
       have hII:¬ (h:Int)<n:=(by omega);have HUP:Hid (∀ y,L[h]?=some y->xg.toList<y.toList):=fun z hz=>(by rw[List.getElem?_eq_none (by rw[<- HNN.out];omega)] at hz;cases hz);have hpo:(wr.alloc (.cells #[.string ⟨#[]⟩] 9)).ownsRow w.heap.size 9 1 (.slice pv n cv) n (L.map sv):=(by have:=HT.out.own.alloc (.cells #[.string ⟨#[]⟩] 9);rw[<- HNN.out] at this;exact this);have HMAP:Hid ((L.map sv).length=n):=(by show _ = _;rw[List.length_map,HNN.out]);go_wp2_with (at_builtin;refine wpList_append_lies _ rfl _ _ 63 rfl w.heap.size 9 i9 (.string ⟨#[]⟩) 1 16 underlying63 hi9 hz9 hs9 hb9 rfl (by decide) _ _ _ rfl hpo ⟨wr.heap.size,0,none⟩ 1 1 [.string ⟨#[]⟩] rfl rfl ?q1 ?q2 (by omega) ?q3 ?q4 ?q5 (wr.heap.size+1) ?q6 ?_)
       try case q1=>
        intro j u hj
        match j,hj with
        | 0,hj=>simp at hj;subst hj;simp[Addr.add]
       try case q2=>first | rfl | (intro u hu;simp at hu;subst hu;rfl)
       try case q3=>unfold maxLen;omega
       try case q4=>omega
       try case q5=>have:=HB.out.size;simp;omega
       try case q6=>simp
       intro g2 cv2 V3 hown3 hgrow3 hat3 hlt3;have hg2:w.heap.size<=g2:=(hown3.lt g2 rfl).1;have HB3:Hid (Below w.heap.size w V3):=(by have h1:Below w.heap.size w (wr.alloc (.cells #[.string ⟨#[]⟩] 9)):=HB.out.alloc HB.out.size _;refine h1.trans ⟨hgrow3.os,hgrow3.tape,hgrow3.output,hgrow3.size,fun b hb=>hgrow3.block b (by have:=h1.size;omega) (fun e=>?_)⟩;have:=(hpo.lt b e.symm).1;omega);have HOWN3:Hid (V3.ownsRow w.heap.size 9 1 (.slice (some ⟨g2,0,none⟩) (n+1) cv2) (n+1) (L.map sv ++ [.string ⟨#[]⟩])):=hown3;clear hown3 hgrow3 hat3 hlt3 hpo;go_wp2;have hcap2:n+1<=cv2:=own_cap HOWN3.out;have hhI2:(h:Int)<=n:=(by omega);have hcI:(n:Int)+1<=cv2:=(by omega);have hcne:¬ cv2=h:=(by omega);obtain ⟨D1,hD1⟩:∃ D1,D1=(if cv2=h+1 then (some ⟨g2,0,none⟩:Option Addr) else some ⟨g2,h+1,none⟩):=⟨_,rfl⟩;have HD1:Hid (D1=(if cv2=h+1 then (some ⟨g2,0,none⟩:Option Addr) else some ⟨g2,h+1,none⟩)):=hD1;clear hD1;have HCP:Hid ((Builtin.copy_ #[63,63] 3 #[.slice D1 (n-h) (cv2-(h+1)),.slice (some ⟨g2,h,none⟩) (n+1-h) (cv2-h)]).run prog V3.drew = .ok (goInt ((n-h:Nat):Int)) (V3.drew.setCells g2 (h+1) ((L.map sv).drop h))):=copy_tail HOWN3.out HMAP.out (fun v hv=>by obtain ⟨y,_,rfl⟩:=List.mem_map.1 hv;rfl) hh HD1.out;have HOWN4:Hid ((V3.drew.setCells g2 (h+1) ((L.map sv).drop h)).ownsRow w.heap.size 9 1 (.slice (some ⟨g2,0,none⟩) (n+1) cv2) (n+1) (putL (L.map sv ++ [.string ⟨#[]⟩]) (h+1) ((L.map sv).drop h))/\Below w.heap.size w (V3.drew.setCells g2 (h+1) ((L.map sv).drop h))):=(by obtain ⟨s1,s2⟩:=own_sets ((L.map sv).drop h) (h+1) V3.drew _ (own_keep HOWN3.out (fun b _=>rfl));have h3:Below w.heap.size w V3.drew:=HB3.out.trans ((drewN_below V3 1).mono HB3.out.size);exact ⟨s1,h3.trans (grown_below s2 hg2 h3.size)⟩);refine wp_region_held_drew (S:=fun _=>True) (by kernel_rfl) trivial (fun _=>?_);refine tk 0 76 (.slice (some ⟨g2,0,none⟩) (n+1) cv2) rfl rfl (by kernel_rfl) (fun _ _ _ h=>h) (Or.inl ⟨by rfl,fun wx _=>by go_simp⟩) trivial ?_;simp only[Act.put,sA,sB,sC];refine tk 1 77 (.int .i64 (h:Int)) rfl rfl (by kernel_rfl) (fun _ _ _ h=>h) (Or.inl ⟨by rfl,fun wx _=>by go_simp⟩) trivial ?_;simp only[Act.put,sA,sB,sC];refine tk 2 78 (.int .i64 ((h:Int)+1)) rfl rfl (by kernel_rfl) (fun _ _ _ h=>h) (Or.inl ⟨by rfl,fun wx _=>by go_simp;try exact IntWalk.i64_in _ (by omega)⟩) trivial ?_;simp only[Act.put,sA,sB,sC];refine tk 4 80 (.slice (some ⟨g2,0,none⟩) (n+1) cv2) rfl rfl (by kernel_rfl) (fun _ _ _ h=>h) (Or.inl ⟨by rfl,fun wx _=>by go_simp⟩) trivial ?_;simp only[Act.put,sA,sB,sC];refine tk 5 81 (.int .i64 (h:Int)) rfl rfl (by kernel_rfl) (fun _ _ _ h=>h) (Or.inl ⟨by rfl,fun wx _=>by go_simp⟩) trivial ?_;simp only[Act.put,sA,sB,sC];refine tk 3 79 (.slice D1 (n-h) (cv2-(h+1))) rfl rfl (by kernel_rfl) (fun _ _ _ h=>h) (Or.inl ⟨by rfl,fun wx _=>by rw[HD1.out];go_simp;try (intro hneg;omega)⟩) trivial ?_;simp only[Act.put,sA,sB,sC];refine tk 6 82 (.slice (some ⟨g2,h,none⟩) (n+1-h) (cv2-h)) rfl rfl (by kernel_rfl) (fun _ _ _ h=>h) (Or.inl ⟨by rfl,fun wx _=>by go_simp;try (intro hneg;omega)⟩) trivial ?_;simp only[Act.put,sA,sB,sC];refine wpAnyH_ready (rs:=[7]) (by kernel_rfl) (by simp) ?_;refine AllReadyH.cons rfl (fun K hK=>?_) AllReadyH.nil;have hcp:=HCP.out;go_simp;clear hcp;refine hK.out _ _ trivial (fun _=>?_);clear hK K;refine wpAnyH_done (by kernel_rfl) ?_ _;obtain ⟨V4,hV4⟩:∃ V4,V4=V3.drew.setCells g2 (h+1) ((L.map sv).drop h):=⟨_,rfl⟩;rw[<- hV4] at HOWN4 ⊢;clear hV4 HCP HD1 HOWN3;have k4:∃ u,V4.cell? ⟨g2,h,none⟩=some u:=(by have h1:=HOWN4.out.1.cellAt h (by omega);have h2:h<(putL (L.map sv ++ [.string ⟨#[]⟩]) (h+1) ((L.map sv).drop h)).length:=(by have:=HOWN4.out.1.1;omega);rw[List.getElem?_eq_getElem h2] at h1;exact ⟨_,h1⟩);obtain ⟨u4,k4⟩:=k4;have f4:=HOWN4.out.1.frozenAt h;have HFIN:Hid (TgsAt (V4.setCell ⟨g2,h,none⟩ (.string xg)) w.heap.size (.slice (some ⟨g2,0,none⟩) (n+1) cv2) (L.take h++xg::L.drop h)/\Below w.heap.size w (V4.setCell ⟨g2,h,none⟩ (.string xg))/\(L.take h++xg::L.drop h).length=n+1):=by obtain ⟨s1,s2⟩:=HOWN4.out.1.stored h (.string xg);have hlen:(L.take h++xg::L.drop h).length=n+1:=(by simp;have:=HNN.out;omega);refine ⟨⟨?_,ins_srt HT.out.srt HLOW.out HUP.out (by rw[<- HNN.out];exact hh)⟩,HOWN4.out.2.trans (grown_below s2 hg2 HOWN4.out.2.size),hlen⟩;rw[hlen,map_ins,<- ins_list (L.map sv) (.string ⟨#[]⟩) (sv xg) h (by rw[HMAP.out];exact hh)];exact s1
       have HMEM:Hid (∀ g,g ∈ L.take h++xg::L.drop h↔(told g (E.take k)||seenG g (l.take (j+1)))=true):=fun g=>by
        rw[mem_ins,HMM.out g,HSN.out g];by_cases hg:xg=g
        ·simp[hg]
        ·simp[hg]
       clear HOWN4;go_wp2;refine ⟨⟨j+1,L.take h++xg::L.drop h,by omega,by go_num,HFIN.out.1,by rw[HFIN.out.2.2];omega,HMEM.out,HFIN.out.2.1⟩,by simp[intOf];omega⟩
theorem rtags_any (d:RfV w rb W need p cap E) :
  Calls prog 90 #[.pointer (some ⟨rb,0,none⟩),.int .i64 (E.length:Int)] w fun e w'=>∃ v,e = .returned v/\∃ L,TgsAt w' w.heap.size v L/\L.length<=600000/\(∀ g,g ∈ L↔told g E=true)/\Below w.heap.size w w':=by
 refine (rtags_to E.length d).mono ?_;rintro e w' ⟨v,rfl,L,h1,h2,h3,h4⟩;exact ⟨v,rfl,L,h1,h2,fun g=>by rw[h3 g,List.take_of_length_le (by omega)],h4⟩
end
end TkA
end Go.Proofs.YtmolafjalaeoaaaGreatDoor
