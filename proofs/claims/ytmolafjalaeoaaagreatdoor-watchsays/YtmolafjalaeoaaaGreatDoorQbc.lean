/-
  TkQ
-/
import Derived.Test.YtmolafjalaeoaaaGreatDoorQaq
set_option maxRecDepth 100000
set_option maxHeartbeats 8000000
namespace Go.Proofs.YtmolafjalaeoaaaGreatDoor
open Tryz
namespace TkA
open Go.RowKit TkM TkW Go.Maps
open Tk0
theorem info61:(prog.info? 43).map (fun i=>(i.zero,i.size,i.bytes))=some (some (.agg #[.int .i64 0,.int .i64 0,.int .i64 0,.string ⟨#[]⟩]),4,40):=by kernel_rfl
theorem info73:(prog.info? 123).map (fun i=>(i.zero,i.size,i.bytes))=some (some (.slice none 0 0),1,24):=by kernel_rfl
theorem zip_snoc:∀ (E:List (List Sg)) (ps:List (Option Addr×Nat)) (l:List Sg) (pc:Option Addr×Nat),ps.length=E.length->List.zipWith slv (E ++ [l]) (ps ++ [pc])=List.zipWith slv E ps ++ [slv l pc]
 | [],[],l,pc,_=>rfl
 | x::E,y::ps,l,pc,h=>by show slv x y::List.zipWith slv (E ++ [l]) (ps ++ [pc]) = _;rw[zip_snoc E ps l pc (by simpa using h)];rfl
 | [],_ :: _,_,_,h=>by simp at h
 | _ :: _,[],_,_,h=>by simp at h
def more (F:Nat->Prop) (w w':World):Nat->Prop:=fun b=>F b\/(w.heap.size<=b/\b<w'.heap.size)
theorem sgcs_one {l:List Sg} {u:Value} (h:u ∈ sgcs l):u.oneCell'=true:=by unfold sgcs at h;obtain ⟨x,_,hx⟩:=List.mem_flatMap.1 h;simp[sgc] at hx;rcases hx with rfl | rfl | rfl | rfl<;>rfl
theorem sgs_cells {w:World} {b o:Nat} {l:List Sg} (hc:∀ k x,l[k]?=some x->SgAt w b (o+k*4) x):∀ (j:Nat) (u:Value),(sgcs l)[j]?=some u->w.cell? ((⟨b,o,none⟩:Addr).add j)=some u:=by
 intro j u hu;rw[Addr.add_mid]
 have hlt:j<l.length*4:=by
  rcases Nat.lt_or_ge j (sgcs l).length with h | h
  ·rw[sgcs_len] at h;exact h
  ·rw[List.getElem?_eq_none h] at hu;cases hu
 have hk:j/4<l.length:=by omega
 have hx:l[j/4]?=some l[j/4]:=List.getElem?_eq_getElem hk;have h4:j%4<4:=Nat.mod_lt _ (by omega);have hj:j=j/4*4+j%4:=by omega
 have hs:=hc _ _ hx;rw[hj,sgcs_at l (j/4) (j%4) _ hx h4] at hu;have hr:j%4=0\/j%4=1\/j%4=2\/j%4=3:=by omega
 generalize j/4=k at *;generalize l[k]=x at *;rcases hr with h | h | h | h<;>rw[h] at hu hj<;>simp[sgc] at hu<;>subst hu<;>rw[hj]
 ·exact hs.c0
 ·exact hs.c1
 ·exact hs.c2
 ·exact hs.c3
section
variable {w : World} {rb : Nat} {F : Nat → Prop} {W need q : Nat} {E : List (List Sg)}
theorem rtold {V2 V3:World} {fb m g cap:Nat} {v:Value} {Df:DataW Value} {ps:List (Option Addr×Nat)} {l:List Sg} {pc:Option Addr×Nat} (d:RfIn w rb fb m v Df ps F W need q E) (hb2:Below w.heap.size w V2) (hl1:SgsOn V2 pc.1 l) (hpb:l≠[]->∃ b o,pc.1=some ⟨b,o,none⟩/\w.heap.size<=b)
  (hown:V3.ownsRow 0 123 1 (.slice (some ⟨g,0,none⟩) (E.length+1) cap) (E.length+1) (List.zipWith slv E ps ++ [slv l pc])) (hg:V2.grownBy V3 v.ownBlock) (hat:v.ownBlock=some g\/g=V2.heap.size) (hlen:E.length+1<=100) (hgl:goodL l=true) (hok:l.all okS=true) :
  RfAt (((V3.setCell ⟨rb,2,none⟩ (.slice (some ⟨g,0,none⟩) (E.length+1) cap)).setCell ⟨rb,3,none⟩ (.map (some V3.heap.size))).alloc (.map #[] 0)) rb (more F w (((V3.setCell ⟨rb,2,none⟩ (.slice (some ⟨g,0,none⟩) (E.length+1) cap)).setCell ⟨rb,3,none⟩ (.map (some V3.heap.size))).alloc (.map #[] 0))) W need 0 (E ++ [l])/\Kp F w (((V3.setCell ⟨rb,2,none⟩ (.slice (some ⟨g,0,none⟩) (E.length+1) cap)).setCell ⟨rb,3,none⟩ (.map (some V3.heap.size))).alloc (.map #[] 0)):=by
 have hrb:=d.lt;have hs2:=hb2.size;have hs3:=hg.size
 have hgr:g≠rb:=by
  rcases hat with h | h
  ·exact (d.vne h).1
  ·omega
 have hglt:g<V3.heap.size:=own_lt hown rfl;have hsz6:(((V3.setCell ⟨rb,2,none⟩ (.slice (some ⟨g,0,none⟩) (E.length+1) cap)).setCell ⟨rb,3,none⟩ (.map (some V3.heap.size))).alloc (.map #[] 0)).heap.size=V3.heap.size+1:=by simp[World.setCell,World.size_alloc]
 have h6:∀ b,b<V3.heap.size->b≠rb->(((V3.setCell ⟨rb,2,none⟩ (.slice (some ⟨g,0,none⟩) (E.length+1) cap)).setCell ⟨rb,3,none⟩ (.map (some V3.heap.size))).alloc (.map #[] 0)).heap[b]?=V3.heap[b]?:=fun b h1 h2=>by rw[Below.heap_alloc _ _ _ (by simp[World.setCell];exact h1),Below.heap_setCell _ _ _ _ h2,Below.heap_setCell _ _ _ _ h2]
 have hm6:(((V3.setCell ⟨rb,2,none⟩ (.slice (some ⟨g,0,none⟩) (E.length+1) cap)).setCell ⟨rb,3,none⟩ (.map (some V3.heap.size))).alloc (.map #[] 0)).ownsMap prog 9 (plainElem prog 3) V3.heap.size 0 (DataW.map []:DataW Value):=by
  have h1:=World.ownsMap_made (H:=Value) ((V3.setCell ⟨rb,2,none⟩ (.slice (some ⟨g,0,none⟩) (E.length+1) cap)).setCell ⟨rb,3,none⟩ (.map (some V3.heap.size))) prog 9 (plainElem prog 3);have e:((V3.setCell ⟨rb,2,none⟩ (.slice (some ⟨g,0,none⟩) (E.length+1) cap)).setCell ⟨rb,3,none⟩ (.map (some V3.heap.size))).heap.size=V3.heap.size:=by simp[World.setCell]
  rw[e] at h1;exact h1
 have old:∀ b,b<V2.heap.size->v.ownBlock≠some b->V3.heap[b]?=V2.heap[b]?:=fun b h1 h2=>hg.block b h1 (fun e=>h2 e.symm);have hrb3:V3.heap[rb]?=some (.cells #[.int .i64 (W:Int),.int .i64 (need:Int),v,.map (some fb)] 55):=by rw[old rb (by omega) (fun e=>(d.vne e).1 rfl),hb2.block rb hrb];exact d.cells
 generalize hV6:(((V3.setCell ⟨rb,2,none⟩ (.slice (some ⟨g,0,none⟩) (E.length+1) cap)).setCell ⟨rb,3,none⟩ (.map (some V3.heap.size))).alloc (.map #[] 0))=V6 at *;constructor
 ·refine ⟨V3.heap.size,0,.slice (some ⟨g,0,none⟩) (E.length+1) cap,.map [],ps ++ [pc],?_⟩;refine ⟨?_,by simp[d.plen],?_,?_,hm6,Nat.le_refl _,fun g e _=>Or.inl (fun zd=>rfl),Or.inl d.fd,Or.inr ⟨by omega,by omega⟩,?_,?_,?_,?_⟩
  ·have h1:(V3.setCell ⟨rb,2,none⟩ (.slice (some ⟨g,0,none⟩) (E.length+1) cap)).heap[rb]?=some (.cells #[.int .i64 (W:Int),.int .i64 (need:Int),.slice (some ⟨g,0,none⟩) (E.length+1) cap,.map (some fb)] 55):=(by simp[World.setCell,Array.getElem?_modify,hrb3]);have h2:((V3.setCell ⟨rb,2,none⟩ (.slice (some ⟨g,0,none⟩) (E.length+1) cap)).setCell ⟨rb,3,none⟩ (.map (some V3.heap.size))).heap[rb]?=some (.cells #[.int .i64 (W:Int),.int .i64 (need:Int),.slice (some ⟨g,0,none⟩) (E.length+1) cap,.map (some V3.heap.size)] 55):=(by generalize (V3.setCell ⟨rb,2,none⟩ (.slice (some ⟨g,0,none⟩) (E.length+1) cap))=Y at h1;simp[World.setCell,Array.getElem?_modify,h1]);rw[<- hV6,Below.heap_alloc _ _ _ (by simp[World.setCell];omega)];exact h2
  ·rw[zip_snoc E ps l pc d.plen,List.length_append];refine own_keep hown (fun b hb=>?_);simp[Value.ownBlock] at hb;subst hb;exact h6 g hglt hgr
  ·have key:∀ (l:List Sg) (pc:Option Addr×Nat),SgsOn V2 pc.1 l->(l≠[]->∃ b o,pc.1=some ⟨b,o,none⟩/\(F b\/w.heap.size<=b)/\v.ownBlock≠some b/\b≠rb)->SgsOn V6 pc.1 l/\(l≠[]->∃ b o,pc.1=some ⟨b,o,none⟩/\more F w V6 b/\(Value.slice (some ⟨g,0,none⟩) (E.length+1) cap).ownBlock≠some b/\b≠rb):=by
    intro l pc r1 r2;by_cases hl:l = []
    ·rw[hl];exact ⟨SgsOn.empty,fun h=>absurd rfl h⟩
    ·obtain ⟨b,o,hp,hF,hv,hr⟩:=r2 hl;obtain ⟨b',o',hp',hlt,_⟩:=r1.at_ hl;rw[hp] at hp';simp at hp';refine ⟨r1.move (by omega) (fun b1 o1 hp1 hlt1=>?_),fun _=>⟨b,o,hp,?_,?_,hr⟩⟩
     ·rw[hp] at hp1;simp at hp1;rw[<- hp1.1,h6 b (by omega) hr,old b (by omega) hv]
     ·rcases hF with hF | hF
      ·exact Or.inl hF
      ·exact Or.inr ⟨hF,by omega⟩
     ·show some g≠some b;intro e;simp at e;rcases hat with h | h
      ·exact hv (by rw[h,e])
      ·omega
   intro k x qc hx hq;rcases Nat.lt_or_ge k E.length with hk | hk
   ·rw[List.getElem?_append_left hk] at hx;rw[List.getElem?_append_left (by rw[d.plen];exact hk)] at hq;obtain ⟨r1,r2⟩:=d.rows k x qc hx hq;refine key x qc (r1.below hb2) (fun hl=>?_);obtain ⟨b,o,h1,h2,h3,h4⟩:=r2 hl;exact ⟨b,o,h1,Or.inl h2,h3,h4⟩
   ·rw[List.getElem?_append_right hk] at hx;rw[List.getElem?_append_right (by rw[d.plen];exact hk)] at hq
    obtain rfl:k=E.length:=by
     rcases Nat.lt_or_ge E.length k with h | h
     ·rw[List.getElem?_eq_none (by simp;omega)] at hx;cases hx
     ·omega
    rw[d.plen] at hq;simp at hx hq;subst hx hq;refine key l pc hl1 (fun hl=>?_);obtain ⟨b,o,h1,h2⟩:=hpb hl;exact ⟨b,o,h1,Or.inr h2,fun e=>by have:=d.lim b (d.fv b e);omega,by omega⟩
  ·intro b hb;simp[Value.ownBlock] at hb;subst hb;rcases hat with h | h
   ·exact Or.inl (d.fv g h)
   ·exact Or.inr ⟨by omega,by omega⟩
  ·intro b hb;rcases hb with hb | hb
   ·have:=d.lim b hb;omega
   ·omega
  ·refine light_iff.2 ⟨by simp;omega,fun x hx=>?_⟩;rcases List.mem_append.1 hx with h | h
   ·exact (light_iff.1 d.good).2 x h
   ·simp at h;rw[h];exact hgl
  ·intro x hx;rcases List.mem_append.1 hx with h | h
   ·exact d.ok x h
   ·simp at h;rw[h];exact hok
 ·have h1:Kp F w V3:=(below_kp hb2 F).trans (grown_kp hg (fun k hk=>d.fv k hk));rw[<- hV6];exact ((h1.trans (set_kp _ _ _ d.fd)).trans (set_kp _ _ _ d.fd)).trans (alloc_kp F _ _)
theorem rtell_bad (l:List Sg) (p:Option Addr) (cap:Nat) (hl:l.length<=6000) (hs:SgsOn w p l) (hok:¬ ∀ x,x ∈ l->okS x=true) :
  Calls prog 43 #[.pointer (some ⟨rb,0,none⟩),.slice p l.length cap] w fun e w'=>e = .returned (.int .i64 1)/\w'=w:=by
 obtain ⟨N,hN⟩:∃ N,N=l.length:=⟨_,rfl⟩;have HN:Hid (N=l.length):=hN;rw[<- hN] at hl ⊢;have HS:Hid (SgsOn w p l):=hs;have HOK:Hid (¬ ∀ x,x ∈ l->okS x=true):=hok;have hNI:(N:Int)<=6000:=by omega
 clear hN hs hok;go_enter func43,ntmps43;go_wp2;go_loopw [5] (fun i V=>∃ k:Nat,k<=N/\i = .int .i64 (k:Int)/\V=w/\∀ x,x ∈ l.take k->okS x=true) (fun i _=>N-(intOf i).toNat)
 case atStart=>exact ⟨0,Nat.zero_le _,rfl,rfl,fun x hx=>by simp at hx⟩
 case round=>
  obtain ⟨k,hk,rfl,rfl,hall⟩:=hrel;by_cases hlt:k<N
  case pos=>
   have hkI:(k:Int)<N:=(by omega);have hk':k<l.length:=(by rw[<- HN.out];exact hlt);have hne:l≠[]:=(by intro e;rw[e] at hk';simp at hk');obtain ⟨b,o,rfl,hb,hc⟩:=HS.out.at_ hne;obtain ⟨a0,a1,a2,a3⟩:=hc k _ (List.getElem?_eq_getElem hk')
   have HA:Hid (okS l[k]=true->∀ x,x ∈ l.take (k+1)->okS x=true):=fun h x hx=>by
    rw[List.take_add_one,List.getElem?_eq_getElem hk'] at hx;rcases List.mem_append.1 hx with h' | h'
    ·exact hall x h'
    ·simp at h';rw[h'];exact h
   generalize l[k]=x at *;obtain ⟨xp,xs,xt,xg⟩:=x;simp only at a0 a1 a2 a3;clear hc hall;by_cases h1:xp<0
   ·have h1d:decide (xp<0)=true:=(by simpa using h1);go_wp2;go_ret;exact ⟨rfl,rfl⟩
   ·have h1d:decide (xp<0)=false:=(by simpa using h1);by_cases h2 : 7<xp
    ·have h2d:decide (7<xp)=true:=(by simpa using h2);go_wp2;go_ret;exact ⟨rfl,rfl⟩
    ·have h2d:decide (7<xp)=false:=(by simpa using h2);by_cases h3:xs<0
     ·have h3d:decide (xs<0)=true:=(by simpa using h3);go_wp2;go_ret;exact ⟨rfl,rfl⟩
     ·have h3d:decide (xs<0)=false:=(by simpa using h3);by_cases h4 : 255<xs
      ·have h4d:decide (255<xs)=true:=(by simpa using h4);go_wp2;go_ret;exact ⟨rfl,rfl⟩
      ·have h4d:decide (255<xs)=false:=(by simpa using h4);have HO:Hid (okS ⟨xp,xs,xt,xg⟩=true):=okS_iff.2 (by simp only;omega);go_wp2;go_roundw
       case rel=>exact ⟨k+1,by omega,by go_num,trivial,HA.out HO.out⟩
       case measure=>simp[intOf];omega
  case neg=>have hkk:k=N:=(by omega);subst hkk;rw[HN.out,List.take_length] at hall;exact absurd hall HOK.out
theorem rtell_cons (l:List Sg) (p:Option Addr) (cap:Nat) (d:RfAt w rb F W need q E) (hgl:goodL l=true) (hs:SgsOn w p l) (hok:∀ x,x ∈ l->okS x=true) (hE:E.length+1<=100) (hne:l≠[]) :
  Calls prog 43 #[.pointer (some ⟨rb,0,none⟩),.slice p l.length cap] w fun e w'=>e = .returned (.int .i64 0)/\RfAt w' rb (more F w w') W need 0 (E ++ [l])/\Kp F w w':=by
 have mixed:prog.follows .mixedOrders=true:=by kernel_rfl
 have hmm:=@run_makeMap prog;obtain ⟨i61,hi61,hz61,hs61,hb61⟩:=info_parts info61;obtain ⟨i73,hi73,hz73,hs73,hb73⟩:=info_parts info73;have hl:=(goodL_iff.1 hgl).1;obtain ⟨N,hN⟩:∃ N,N=l.length:=⟨_,rfl⟩;have HN:Hid (N=l.length):=hN;rw[<- hN] at hl ⊢;have HS:Hid (SgsOn w p l):=hs;have HOK:Hid (∀ x,x ∈ l->okS x=true):=hok;have HGL:Hid (goodL l=true):=hgl;have hNI:(N:Int)<=6000:=by omega
 obtain ⟨fb,m,v,Df,ps,d⟩:=d.out;have HD:Hid (RfIn w rb fb m v Df ps F W need q E):=d;have c2:=d.c2;have hrb:=d.lt;clear hN hs hok hgl d;go_enter func43,ntmps43;go_wp2;go_loopw [5] (fun i V=>∃ k:Nat,k<=N/\i = .int .i64 (k:Int)/\V=w) (fun i _=>N-(intOf i).toNat)
 case atStart=>exact ⟨0,Nat.zero_le _,rfl,rfl⟩
 case round=>
  obtain ⟨k,hk,rfl,rfl⟩:=hrel;by_cases hlt:k<N
  case pos=>
   have hkI:(k:Int)<N:=(by omega);have hk':k<l.length:=(by rw[<- HN.out];exact hlt);have hne:l≠[]:=(by intro e;rw[e] at hk';simp at hk');obtain ⟨b,o,hpe,hb,hc⟩:=HS.out.at_ hne;subst hpe;obtain ⟨a0,a1,a2,a3⟩:=hc k _ (List.getElem?_eq_getElem hk');have hx:=HOK.out _ (List.getElem_mem hk');generalize l[k]=x at *;obtain ⟨xp,xs,xt,xg⟩:=x;simp only at a0 a1 a2 a3;obtain ⟨⟨h1,h2⟩,h3,h4⟩:=okS_iff.1 hx;simp only at h1 h2 h3 h4;have h1d:decide (xp<0)=false:=(by simpa using h1);have h2d:decide (7<xp)=false:=(by simpa using h2);have h3d:decide (xs<0)=false:=(by simpa using h3);have h4d:decide (255<xs)=false:=(by simpa using h4);clear hc hx c2;go_wp2;go_roundw
   case rel=>exact ⟨k+1,by omega,by go_num,trivial⟩
   case measure=>simp[intOf];omega
  case neg=>
   have hkk:k=N:=(by omega);subst hkk;have hII:¬ (k:Int)<k:=(by omega);clear hlt;go_wp2;clear hII;have HC2:Hid (wr.cell? ⟨rb,2,none⟩=some v):=c2;obtain ⟨b,o,hpe,hb,hc⟩:=HS.out.at_ hne;subst hpe;have HNEW:Hid (∀ j u,(sgcs l)[j]?=some u->wr.drew.cell? ((⟨b,o,none⟩:Addr).add j)=some u):=fun j u hu=>sgs_cells hc j u hu;have HLEN:Hid ((sgcs l).length=k*4):=(by show _ = _;rw[sgcs_len,HN.out]);have hkpos : 0<k:=(by rw[HN.out];exact List.length_pos_iff.2 hne);have HML:Hid (0+k<=maxLen):=(by show _<=_;unfold maxLen;omega);have HBY:Hid ((0+k)*40<=140737488355328):=(by show _<=_;omega);have HML2:Hid (E.length+1<=maxLen):=(by show _<=_;unfold maxLen;omega);have HBY2:Hid ((E.length+1)*24<=140737488355328):=(by show _<=_;omega);have hcc0:wr.drew.cell? ⟨rb,2,none⟩=some v:=c2;clear hc c2;have hS0:(fun _:World=>True) wr.drew:=trivial;refine wp_region_held_drew (S:=fun _=>True) (by kernel_rfl) trivial (fun _=>?_);refine tk 0 42 (.pointer (some ⟨rb,0,none⟩)) rfl rfl (by kernel_rfl) (fun _ _ _ h=>h) (Or.inl ⟨by rfl,fun wx _=>by go_simp⟩) trivial ?_;simp only[Act.put,sA,sB,sC];refine tk 1 43 (.pointer (some ⟨rb,0,none⟩)) rfl rfl (by kernel_rfl) (fun _ _ _ h=>h) (Or.inl ⟨by rfl,fun wx _=>by go_simp⟩) trivial ?_;simp only[Act.put,sA,sB,sC];refine tk 2 44 (.pointer (some ⟨rb,0,none⟩)) rfl rfl (by kernel_rfl) (fun _ _ _ h=>h) (Or.inl ⟨by rfl,fun wx _=>by go_simp⟩) trivial ?_;simp only[Act.put,sA,sB,sC];refine tk 3 45 (.pointer (some ⟨rb,2,none⟩)) rfl rfl (by kernel_rfl) (fun _ _ _ h=>h) (Or.inl ⟨by rfl,fun wx _=>by go_simp⟩) trivial ?_;simp only[Act.put,sA,sB,sC];refine tk 5 47 (.slice (some ⟨b,o,none⟩) k cap) rfl rfl (by kernel_rfl) (fun _ _ _ h=>h) (Or.inl ⟨by rfl,fun wx _=>by go_simp⟩) trivial ?_;simp only[Act.put,sA,sB,sC];refine wpAnyH_ready (rs:=[4,6]) (by kernel_rfl) (by simp) ?_;refine AllReadyH.cons rfl (fun K hK=>?qa) (AllReadyH.cons rfl (fun K hK=>?qb) AllReadyH.nil)
   case' qa=>
    have hld:=hcc0;go_simp;clear hld;refine hK.out _ _ trivial (fun _=>?_);clear hK K;refine wpAnyH_ready (rs:=[6]) (by kernel_rfl) (by simp) ?_;refine AllReadyH.cons rfl (fun K hK=>?_) AllReadyH.nil;refine step_append_lies _ (by rfl) (.const (.slice none 0 0)) (.tmp 47) 123 (by rfl) 0 43 i61 (.agg #[.int .i64 0,.int .i64 0,.int .i64 0,.string ⟨#[]⟩]) 4 40 underlying123 hi61 hz61 hs61 hb61 rfl (by omega) (.slice none 0 0) 0 [] (by rfl) (World.ownsRow_nil _ _ _ _) ⟨b,o,none⟩ k cap (sgcs l) (by rfl) HLEN.out HNEW.out (fun u hu=>sgcs_one hu) (by omega) HML.out HBY.out (Nat.zero_le _) _ rfl ?_;intro g1 cap1 V1 hown1 hgrow1 hat1 hlt1;have HB1:Hid (Below wr.heap.size wr V1):=⟨hgrow1.os,hgrow1.tape,hgrow1.output,hgrow1.size,fun k hk=>hgrow1.block k hk (by simp[Value.ownBlock])⟩;have hcc1:V1.cell? ⟨rb,2,none⟩=some v:=(by rw[HB1.out.cell hrb];exact HC2.out);have HV1:Hid (V1.ownsRow 0 43 4 (.slice (some ⟨g1,0,none⟩) (0+k) cap1) (0+k) ([]++sgcs l)/\(g1=wr.heap.size)):=⟨hown1,by rcases hat1 with h | h;cases h;exact h⟩;clear hown1 hgrow1 hat1;refine hK.out _ _ trivial (fun _=>?_);clear hK K;change wpAnyH _ _ _ _ _ _ _ (Act.put _ (some 48) _) _;simp only[Act.put,sA,sB,sC,Nat.zero_add];refine wpAnyH_ready (rs:=[7]) (by kernel_rfl) (by simp) ?_;refine AllReadyH.cons rfl (fun K hK=>?_) AllReadyH.nil;go_simp;refine hK.out _ _ trivial (fun _=>?_);clear hK K;have HB2:Hid (Below wr.heap.size wr (V1.alloc (.cells #[.slice (some ⟨g1,0,none⟩) k cap1] 123))):=HB1.out.alloc HB1.out.size _;have HL1:Hid (SgsOn (V1.alloc (.cells #[.slice (some ⟨g1,0,none⟩) k cap1] 123)) (some ⟨g1,0,none⟩) l):=(by obtain ⟨h1,h2⟩:=HV1.out;rw[Nat.zero_add,List.nil_append] at h1;rw[HN.out] at h1;obtain ⟨p',c',he,hon⟩:=own_sgs h1;simp at he;rw[<- he.1] at hon;exact hon.below ((Below.refl _ V1).alloc (Nat.le_refl _) _));have HPB:Hid (l≠[]->∃ b o,(some ⟨g1,0,none⟩:Option Addr)=some ⟨b,o,none⟩/\wr.heap.size<=b):=fun _=>⟨g1,0,rfl,by rw[HV1.out.2];exact Nat.le_refl _⟩
    have HNEW2:Hid (∀ j u,([slv l (some ⟨g1,0,none⟩,cap1)]:List Value)[j]?=some u->(V1.alloc (.cells #[.slice (some ⟨g1,0,none⟩) k cap1] 123)).cell? ((⟨V1.heap.size,0,none⟩:Addr).add j)=some u):=by
     intro j u hj;rw[addr_add]
     match j,hj with
     | 0,hj=>simp at hj;subst hj;simp[slv,HN.out]
   case' qb=>
    refine step_append_lies _ (by rfl) (.const (.slice none 0 0)) (.tmp 47) 123 (by rfl) 0 43 i61 (.agg #[.int .i64 0,.int .i64 0,.int .i64 0,.string ⟨#[]⟩]) 4 40 underlying123 hi61 hz61 hs61 hb61 rfl (by omega) (.slice none 0 0) 0 [] (by rfl) (World.ownsRow_nil _ _ _ _) ⟨b,o,none⟩ k cap (sgcs l) (by rfl) HLEN.out HNEW.out (fun u hu=>sgcs_one hu) (by omega) HML.out HBY.out (Nat.zero_le _) _ rfl ?_;intro g1 cap1 V1 hown1 hgrow1 hat1 hlt1;have HB1:Hid (Below wr.heap.size wr V1):=⟨hgrow1.os,hgrow1.tape,hgrow1.output,hgrow1.size,fun k hk=>hgrow1.block k hk (by simp[Value.ownBlock])⟩;have hcc1:V1.cell? ⟨rb,2,none⟩=some v:=(by rw[HB1.out.cell hrb];exact HC2.out);have HV1:Hid (V1.ownsRow 0 43 4 (.slice (some ⟨g1,0,none⟩) (0+k) cap1) (0+k) ([]++sgcs l)/\(g1=wr.heap.size)):=⟨hown1,by rcases hat1 with h | h;cases h;exact h⟩;clear hown1 hgrow1 hat1;refine hK.out _ _ trivial (fun _=>?_);clear hK K;change wpAnyH _ _ _ _ _ _ _ (Act.put _ (some 48) _) _;simp only[Act.put,sA,sB,sC,Nat.zero_add];refine wpAnyH_ready (rs:=[4,7]) (by kernel_rfl) (by simp) ?_;refine AllReadyH.cons rfl (fun K hK=>?qc) (AllReadyH.cons rfl (fun K hK=>?qd) AllReadyH.nil)
    case' qc=>
     have hld:=hcc1;go_simp;clear hld;refine hK.out _ _ trivial (fun _=>?_);clear hK K;refine wpAnyH_ready (rs:=[7]) (by kernel_rfl) (by simp) ?_;refine AllReadyH.cons rfl (fun K hK=>?_) AllReadyH.nil;go_simp;refine hK.out _ _ trivial (fun _=>?_);clear hK K;have HB2:Hid (Below wr.heap.size wr (V1.alloc (.cells #[.slice (some ⟨g1,0,none⟩) k cap1] 123))):=HB1.out.alloc HB1.out.size _;have HL1:Hid (SgsOn (V1.alloc (.cells #[.slice (some ⟨g1,0,none⟩) k cap1] 123)) (some ⟨g1,0,none⟩) l):=(by obtain ⟨h1,h2⟩:=HV1.out;rw[Nat.zero_add,List.nil_append] at h1;rw[HN.out] at h1;obtain ⟨p',c',he,hon⟩:=own_sgs h1;simp at he;rw[<- he.1] at hon;exact hon.below ((Below.refl _ V1).alloc (Nat.le_refl _) _));have HPB:Hid (l≠[]->∃ b o,(some ⟨g1,0,none⟩:Option Addr)=some ⟨b,o,none⟩/\wr.heap.size<=b):=fun _=>⟨g1,0,rfl,by rw[HV1.out.2];exact Nat.le_refl _⟩
     have HNEW2:Hid (∀ j u,([slv l (some ⟨g1,0,none⟩,cap1)]:List Value)[j]?=some u->(V1.alloc (.cells #[.slice (some ⟨g1,0,none⟩) k cap1] 123)).cell? ((⟨V1.heap.size,0,none⟩:Addr).add j)=some u):=by
      intro j u hj;rw[addr_add]
      match j,hj with
      | 0,hj=>simp at hj;subst hj;simp[slv,HN.out]
    case' qd=>
     go_simp;refine hK.out _ _ trivial (fun _=>?_);clear hK K;have HB2:Hid (Below wr.heap.size wr (V1.alloc (.cells #[.slice (some ⟨g1,0,none⟩) k cap1] 123))):=HB1.out.alloc HB1.out.size _;have HL1:Hid (SgsOn (V1.alloc (.cells #[.slice (some ⟨g1,0,none⟩) k cap1] 123)) (some ⟨g1,0,none⟩) l):=(by obtain ⟨h1,h2⟩:=HV1.out;rw[Nat.zero_add,List.nil_append] at h1;rw[HN.out] at h1;obtain ⟨p',c',he,hon⟩:=own_sgs h1;simp at he;rw[<- he.1] at hon;exact hon.below ((Below.refl _ V1).alloc (Nat.le_refl _) _));have HPB:Hid (l≠[]->∃ b o,(some ⟨g1,0,none⟩:Option Addr)=some ⟨b,o,none⟩/\wr.heap.size<=b):=fun _=>⟨g1,0,rfl,by rw[HV1.out.2];exact Nat.le_refl _⟩
     have HNEW2:Hid (∀ j u,([slv l (some ⟨g1,0,none⟩,cap1)]:List Value)[j]?=some u->(V1.alloc (.cells #[.slice (some ⟨g1,0,none⟩) k cap1] 123)).cell? ((⟨V1.heap.size,0,none⟩:Addr).add j)=some u):=by
      intro j u hj;rw[addr_add]
      match j,hj with
      | 0,hj=>simp at hj;subst hj;simp[slv,HN.out]
     have hcc2:(V1.alloc (.cells #[.slice (some ⟨g1,0,none⟩) k cap1] 123)).cell? ⟨rb,2,none⟩=some v:=(by rw[HB2.out.cell hrb];exact HC2.out);refine wpAnyH_ready (rs:=[4]) (by kernel_rfl) (by simp) ?_;refine AllReadyH.cons rfl (fun K hK=>?_) AllReadyH.nil;have hld:=hcc2;go_simp;clear hld;refine hK.out _ _ trivial (fun _=>?_);clear hK K
   all_goals
    refine wpAnyH_ready (rs:=[8]) (by kernel_rfl) (by simp) ?_;refine AllReadyH.cons rfl (fun K hK=>?_) AllReadyH.nil;have HROW:Hid ((V1.alloc (.cells #[.slice (some ⟨g1,0,none⟩) k cap1] 123)).ownsRow 0 123 1 v E.length (List.zipWith slv E ps)):=own_keep HD.out.own (fun b hb=>HB2.out.block b (own_lt HD.out.own hb));refine step_append_lies _ (by rfl) (.tmp 46) (.tmp 49) 52 (by rfl) 0 123 i73 (.slice none 0 0) 1 24 underlying52 hi73 hz73 hs73 hb73 rfl (by omega) v E.length (List.zipWith slv E ps) (by rfl) HROW.out ⟨V1.heap.size,0,none⟩ 1 1 [slv l (some ⟨g1,0,none⟩,cap1)] (by rfl) rfl HNEW2.out (fun u hu=>by simp at hu;subst hu;rfl) (by omega) HML2.out HBY2.out (Nat.zero_le _) _ rfl ?_;intro g2 cap2 V3 hown3 hgrow3 hat3 hlt3;have hc3:V3.cell? ⟨rb,2,none⟩=some v:=hgrow3.cell (by rw[HB2.out.cell hrb];exact HC2.out) (fun e=>(HD.out.vne e.symm).1 rfl);have hf3:V3.frozen? ⟨rb,2,none⟩=false:=(by have h1:V3.heap[rb]?=wr.heap[rb]?:=(hgrow3.block rb (by have:=HB2.out.size;omega) (fun e=>(HD.out.vne e.symm).1 rfl)).trans (HB2.out.block rb hrb);simp[World.frozen?,h1,HD.out.cells]);have HFIN:=rtold (pc:=(some ⟨g1,0,none⟩,cap1)) HD.out HB2.out HL1.out HPB.out hown3 hgrow3 hat3 hE HGL.out (List.all_eq_true.2 HOK.out);have HR3:Hid (V3.heap[rb]?=some (.cells #[.int .i64 (W:Int),.int .i64 (need:Int),v,.map (some fb)] 55)):=((hgrow3.block rb (by have:=HB2.out.size;omega) (fun e=>(HD.out.vne e.symm).1 rfl)).trans (HB2.out.block rb hrb)).trans HD.out.cells;have HFI:Hid (RfAt (((V3.setCell ⟨rb,2,none⟩ (.slice (some ⟨g2,0,none⟩) (E.length+1) cap2)).setCell ⟨rb,3,none⟩ (.map (some V3.heap.size))).alloc (.map #[] 0)) rb (more F wr (((V3.setCell ⟨rb,2,none⟩ (.slice (some ⟨g2,0,none⟩) (E.length+1) cap2)).setCell ⟨rb,3,none⟩ (.map (some V3.heap.size))).alloc (.map #[] 0))) W need 0 (E ++ [l])/\Kp F wr (((V3.setCell ⟨rb,2,none⟩ (.slice (some ⟨g2,0,none⟩) (E.length+1) cap2)).setCell ⟨rb,3,none⟩ (.map (some V3.heap.size))).alloc (.map #[] 0))):=HFIN;have hsz3:rb<V3.heap.size:=(Array.getElem?_eq_some_iff.1 HR3.out).1;clear HFIN hown3 hgrow3 hat3 hlt3;refine hK.out _ _ trivial (fun _=>?_);clear hK K;change wpAnyH _ _ _ _ _ _ _ (Act.put _ (some 50) _) _;simp only[Act.put,sA,sB,sC];refine tk 9 51 (.pointer (some ⟨rb,0,none⟩)) rfl rfl (by kernel_rfl) (fun _ _ _ h=>h) (Or.inl ⟨by rfl,fun wx _=>by go_simp⟩) trivial ?_;simp only[Act.put,sA,sB,sC];refine tk 10 52 (.pointer (some ⟨rb,2,none⟩)) rfl rfl (by kernel_rfl) (fun _ _ _ h=>h) (Or.inl ⟨by rfl,fun wx _=>by go_simp⟩) trivial ?_;simp only[Act.put,sA,sB,sC];refine wpAnyH_ready (rs:=[11]) (by kernel_rfl) (by simp) ?_;refine AllReadyH.cons rfl (fun K hK=>?_) AllReadyH.nil;go_simp;refine hK.out _ _ trivial (fun _=>?_);clear hK K;refine wpAnyH_done (by kernel_rfl) ?_ _;clear hc3 hf3;have hR4:∀ o,((V3.setCell ⟨rb,2,none⟩ (.slice (some ⟨g2,0,none⟩) (E.length+1) cap2)).alloc o).heap[rb]?=some (.cells #[.int .i64 (W:Int),.int .i64 (need:Int),.slice (some ⟨g2,0,none⟩) (E.length+1) cap2,.map (some fb)] 55):=fun o=>(by rw[Below.heap_alloc _ _ _ (by simp[World.setCell];exact hsz3)];simp[World.setCell,Array.getElem?_modify,HR3.out]);have hc4:∀ o,((V3.setCell ⟨rb,2,none⟩ (.slice (some ⟨g2,0,none⟩) (E.length+1) cap2)).alloc o).cell? ⟨rb,3,none⟩=some (.map (some fb)):=fun o=>(by simp[World.cell?,hR4 o]);have hf4:∀ o,((V3.setCell ⟨rb,2,none⟩ (.slice (some ⟨g2,0,none⟩) (E.length+1) cap2)).alloc o).frozen? ⟨rb,3,none⟩=false:=fun o=>(by simp[World.frozen?,hR4 o]);have hz4:(V3.setCell ⟨rb,2,none⟩ (.slice (some ⟨g2,0,none⟩) (E.length+1) cap2)).heap.size=V3.heap.size:=(by simp[World.setCell]);clear hR4;go_wp2;go_ret;exact ⟨rfl,HFI.out⟩
theorem rtell_nil (l:List Sg) (p:Option Addr) (cap:Nat) (d:RfAt w rb F W need q E) (hgl:goodL l=true) (hs:SgsOn w p l) (hok:∀ x,x ∈ l->okS x=true) (hE:E.length+1<=100) (hne:l = []) :
  Calls prog 43 #[.pointer (some ⟨rb,0,none⟩),.slice p l.length cap] w fun e w'=>e = .returned (.int .i64 0)/\RfAt w' rb (more F w w') W need 0 (E ++ [l])/\Kp F w w':=by
 have mixed:prog.follows .mixedOrders=true:=by kernel_rfl
 have hmm:=@run_makeMap prog;obtain ⟨i61,hi61,hz61,hs61,hb61⟩:=info_parts info61;obtain ⟨i73,hi73,hz73,hs73,hb73⟩:=info_parts info73;have hl:=(goodL_iff.1 hgl).1;obtain ⟨N,hN⟩:∃ N,N=l.length:=⟨_,rfl⟩;have HN:Hid (N=l.length):=hN;rw[<- hN] at hl ⊢;have HS:Hid (SgsOn w p l):=hs;have HOK:Hid (∀ x,x ∈ l->okS x=true):=hok;have HGL:Hid (goodL l=true):=hgl;have hNI:(N:Int)<=6000:=by omega
 obtain ⟨fb,m,v,Df,ps,d⟩:=d.out;have HD:Hid (RfIn w rb fb m v Df ps F W need q E):=d;have c2:=d.c2;have hrb:=d.lt;clear hN hs hok hgl d;go_enter func43,ntmps43;go_wp2;go_loopw [5] (fun i V=>∃ k:Nat,k<=N/\i = .int .i64 (k:Int)/\V=w) (fun i _=>N-(intOf i).toNat)
 case atStart=>exact ⟨0,Nat.zero_le _,rfl,rfl⟩
 case round=>
  obtain ⟨k,hk,rfl,rfl⟩:=hrel;by_cases hlt:k<N
  case pos=>
   have hkI:(k:Int)<N:=(by omega);have hk':k<l.length:=(by rw[<- HN.out];exact hlt);have hne:l≠[]:=(by intro e;rw[e] at hk';simp at hk');obtain ⟨b,o,hpe,hb,hc⟩:=HS.out.at_ hne;subst hpe;obtain ⟨a0,a1,a2,a3⟩:=hc k _ (List.getElem?_eq_getElem hk');have hx:=HOK.out _ (List.getElem_mem hk');generalize l[k]=x at *;obtain ⟨xp,xs,xt,xg⟩:=x;simp only at a0 a1 a2 a3;obtain ⟨⟨h1,h2⟩,h3,h4⟩:=okS_iff.1 hx;simp only at h1 h2 h3 h4;have h1d:decide (xp<0)=false:=(by simpa using h1);have h2d:decide (7<xp)=false:=(by simpa using h2);have h3d:decide (xs<0)=false:=(by simpa using h3);have h4d:decide (255<xs)=false:=(by simpa using h4);clear hc hx c2;go_wp2;go_roundw
   case rel=>exact ⟨k+1,by omega,by go_num,trivial⟩
   case measure=>simp[intOf];omega
  case neg=>
   have hkk:k=N:=(by omega);subst hkk;have hII:¬ (k:Int)<k:=(by omega);clear hlt;go_wp2;clear hII;have HC2:Hid (wr.cell? ⟨rb,2,none⟩=some v):=c2;have hk0:k=0:=(by rw[HN.out,hne];rfl);subst hk0;have HNE:Hid (l = []):=hne;have HML2:Hid (E.length+1<=maxLen):=(by show _<=_;unfold maxLen;omega);have HBY2:Hid ((E.length+1)*24<=140737488355328):=(by show _<=_;omega);have hcc0:wr.drew.cell? ⟨rb,2,none⟩=some v:=c2;clear c2 hne;have hS0:(fun _:World=>True) wr.drew:=trivial;refine wp_region_held_drew (S:=fun _=>True) (by kernel_rfl) trivial (fun _=>?_);refine tk 0 42 (.pointer (some ⟨rb,0,none⟩)) rfl rfl (by kernel_rfl) (fun _ _ _ h=>h) (Or.inl ⟨by rfl,fun wx _=>by go_simp⟩) trivial ?_;simp only[Act.put,sA,sB,sC];refine tk 1 43 (.pointer (some ⟨rb,0,none⟩)) rfl rfl (by kernel_rfl) (fun _ _ _ h=>h) (Or.inl ⟨by rfl,fun wx _=>by go_simp⟩) trivial ?_;simp only[Act.put,sA,sB,sC];refine tk 2 44 (.pointer (some ⟨rb,0,none⟩)) rfl rfl (by kernel_rfl) (fun _ _ _ h=>h) (Or.inl ⟨by rfl,fun wx _=>by go_simp⟩) trivial ?_;simp only[Act.put,sA,sB,sC];refine tk 3 45 (.pointer (some ⟨rb,2,none⟩)) rfl rfl (by kernel_rfl) (fun _ _ _ h=>h) (Or.inl ⟨by rfl,fun wx _=>by go_simp⟩) trivial ?_;simp only[Act.put,sA,sB,sC];refine tk 5 47 (.slice p 0 cap) rfl rfl (by kernel_rfl) (fun _ _ _ h=>h) (Or.inl ⟨by rfl,fun wx _=>by go_simp⟩) trivial ?_;simp only[Act.put,sA,sB,sC];refine tk 6 48 (.slice none 0 0) rfl rfl (by kernel_rfl) (fun _ _ _ h=>h) (Or.inl ⟨by rfl,fun wx _=>by cases p<;>go_simp⟩) trivial ?_;simp only[Act.put,sA,sB,sC];refine wpAnyH_ready (rs:=[4,7]) (by kernel_rfl) (by simp) ?_;refine AllReadyH.cons rfl (fun K hK=>?qa) (AllReadyH.cons rfl (fun K hK=>?qb) AllReadyH.nil)
   case' qa=>
    have hld:=hcc0;go_simp;clear hld;refine hK.out _ _ trivial (fun _=>?_);clear hK K;refine wpAnyH_ready (rs:=[7]) (by kernel_rfl) (by simp) ?_;refine AllReadyH.cons rfl (fun K hK=>?_) AllReadyH.nil;go_simp;refine hK.out _ _ trivial (fun _=>?_);clear hK K;have HB2:Hid (Below wr.heap.size wr ((wr.alloc (.cells #[.slice none 0 0] 123)).drew)):=((Below.refl _ wr).alloc (Nat.le_refl _) _).drew;have HL1:Hid (SgsOn ((wr.alloc (.cells #[.slice none 0 0] 123)).drew) none l):=(by show SgsOn _ _ _;rw[HNE.out];exact SgsOn.empty);have HPB:Hid (l≠[]->∃ b o,(none:Option Addr)=some ⟨b,o,none⟩/\wr.heap.size<=b):=fun h=>absurd HNE.out h
    have HNEW2:Hid (∀ j u,([slv l (none,0)]:List Value)[j]?=some u->((wr.alloc (.cells #[.slice none 0 0] 123)).drew).cell? ((⟨wr.heap.size,0,none⟩:Addr).add j)=some u):=by
     intro j u hj;rw[addr_add]
     match j,hj with
     | 0,hj=>simp at hj;subst hj;rw[HNE.out];show (wr.alloc _).cell? _ = _;simp[slv]
   case' qb=>
    go_simp;refine hK.out _ _ trivial (fun _=>?_);clear hK K;have HB2:Hid (Below wr.heap.size wr ((wr.alloc (.cells #[.slice none 0 0] 123)).drew)):=((Below.refl _ wr).alloc (Nat.le_refl _) _).drew;have HL1:Hid (SgsOn ((wr.alloc (.cells #[.slice none 0 0] 123)).drew) none l):=(by show SgsOn _ _ _;rw[HNE.out];exact SgsOn.empty);have HPB:Hid (l≠[]->∃ b o,(none:Option Addr)=some ⟨b,o,none⟩/\wr.heap.size<=b):=fun h=>absurd HNE.out h
    have HNEW2:Hid (∀ j u,([slv l (none,0)]:List Value)[j]?=some u->((wr.alloc (.cells #[.slice none 0 0] 123)).drew).cell? ((⟨wr.heap.size,0,none⟩:Addr).add j)=some u):=by
     intro j u hj;rw[addr_add]
     match j,hj with
     | 0,hj=>simp at hj;subst hj;rw[HNE.out];show (wr.alloc _).cell? _ = _;simp[slv]
    have hcc2:((wr.alloc (.cells #[.slice none 0 0] 123)).drew).cell? ⟨rb,2,none⟩=some v:=(by rw[HB2.out.cell hrb];exact HC2.out);refine wpAnyH_ready (rs:=[4]) (by kernel_rfl) (by simp) ?_;refine AllReadyH.cons rfl (fun K hK=>?_) AllReadyH.nil;have hld:=hcc2;go_simp;clear hld;refine hK.out _ _ trivial (fun _=>?_);clear hK K
   all_goals
    refine wpAnyH_ready (rs:=[8]) (by kernel_rfl) (by simp) ?_;refine AllReadyH.cons rfl (fun K hK=>?_) AllReadyH.nil;have HROW:Hid (((wr.alloc (.cells #[.slice none 0 0] 123)).drew).ownsRow 0 123 1 v E.length (List.zipWith slv E ps)):=own_keep HD.out.own (fun b hb=>HB2.out.block b (own_lt HD.out.own hb));refine step_append_lies _ (by rfl) (.tmp 46) (.tmp 49) 52 (by rfl) 0 123 i73 (.slice none 0 0) 1 24 underlying52 hi73 hz73 hs73 hb73 rfl (by omega) v E.length (List.zipWith slv E ps) (by rfl) HROW.out ⟨wr.heap.size,0,none⟩ 1 1 [slv l (none,0)] (by rfl) rfl HNEW2.out (fun u hu=>by simp at hu;subst hu;rfl) (by omega) HML2.out HBY2.out (Nat.zero_le _) _ rfl ?_;intro g2 cap2 V3 hown3 hgrow3 hat3 hlt3;have hc3:V3.cell? ⟨rb,2,none⟩=some v:=hgrow3.cell (by rw[HB2.out.cell hrb];exact HC2.out) (fun e=>(HD.out.vne e.symm).1 rfl);have hf3:V3.frozen? ⟨rb,2,none⟩=false:=(by have h1:V3.heap[rb]?=wr.heap[rb]?:=(hgrow3.block rb (by have:=HB2.out.size;omega) (fun e=>(HD.out.vne e.symm).1 rfl)).trans (HB2.out.block rb hrb);simp[World.frozen?,h1,HD.out.cells]);have HFIN:=rtold (pc:=(none,0)) HD.out HB2.out HL1.out HPB.out hown3 hgrow3 hat3 hE HGL.out (List.all_eq_true.2 HOK.out);have HR3:Hid (V3.heap[rb]?=some (.cells #[.int .i64 (W:Int),.int .i64 (need:Int),v,.map (some fb)] 55)):=((hgrow3.block rb (by have:=HB2.out.size;omega) (fun e=>(HD.out.vne e.symm).1 rfl)).trans (HB2.out.block rb hrb)).trans HD.out.cells;have HFI:Hid (RfAt (((V3.setCell ⟨rb,2,none⟩ (.slice (some ⟨g2,0,none⟩) (E.length+1) cap2)).setCell ⟨rb,3,none⟩ (.map (some V3.heap.size))).alloc (.map #[] 0)) rb (more F wr (((V3.setCell ⟨rb,2,none⟩ (.slice (some ⟨g2,0,none⟩) (E.length+1) cap2)).setCell ⟨rb,3,none⟩ (.map (some V3.heap.size))).alloc (.map #[] 0))) W need 0 (E ++ [l])/\Kp F wr (((V3.setCell ⟨rb,2,none⟩ (.slice (some ⟨g2,0,none⟩) (E.length+1) cap2)).setCell ⟨rb,3,none⟩ (.map (some V3.heap.size))).alloc (.map #[] 0))):=HFIN;have hsz3:rb<V3.heap.size:=(Array.getElem?_eq_some_iff.1 HR3.out).1;clear HFIN hown3 hgrow3 hat3 hlt3;refine hK.out _ _ trivial (fun _=>?_);clear hK K;change wpAnyH _ _ _ _ _ _ _ (Act.put _ (some 50) _) _;simp only[Act.put,sA,sB,sC];refine tk 9 51 (.pointer (some ⟨rb,0,none⟩)) rfl rfl (by kernel_rfl) (fun _ _ _ h=>h) (Or.inl ⟨by rfl,fun wx _=>by go_simp⟩) trivial ?_;simp only[Act.put,sA,sB,sC];refine tk 10 52 (.pointer (some ⟨rb,2,none⟩)) rfl rfl (by kernel_rfl) (fun _ _ _ h=>h) (Or.inl ⟨by rfl,fun wx _=>by go_simp⟩) trivial ?_;simp only[Act.put,sA,sB,sC];refine wpAnyH_ready (rs:=[11]) (by kernel_rfl) (by simp) ?_;refine AllReadyH.cons rfl (fun K hK=>?_) AllReadyH.nil;go_simp;refine hK.out _ _ trivial (fun _=>?_);clear hK K;refine wpAnyH_done (by kernel_rfl) ?_ _;clear hc3 hf3;have hR4:∀ o,((V3.setCell ⟨rb,2,none⟩ (.slice (some ⟨g2,0,none⟩) (E.length+1) cap2)).alloc o).heap[rb]?=some (.cells #[.int .i64 (W:Int),.int .i64 (need:Int),.slice (some ⟨g2,0,none⟩) (E.length+1) cap2,.map (some fb)] 55):=fun o=>(by rw[Below.heap_alloc _ _ _ (by simp[World.setCell];exact hsz3)];simp[World.setCell,Array.getElem?_modify,HR3.out]);have hc4:∀ o,((V3.setCell ⟨rb,2,none⟩ (.slice (some ⟨g2,0,none⟩) (E.length+1) cap2)).alloc o).cell? ⟨rb,3,none⟩=some (.map (some fb)):=fun o=>(by simp[World.cell?,hR4 o]);have hf4:∀ o,((V3.setCell ⟨rb,2,none⟩ (.slice (some ⟨g2,0,none⟩) (E.length+1) cap2)).alloc o).frozen? ⟨rb,3,none⟩=false:=fun o=>(by simp[World.frozen?,hR4 o]);have hz4:(V3.setCell ⟨rb,2,none⟩ (.slice (some ⟨g2,0,none⟩) (E.length+1) cap2)).heap.size=V3.heap.size:=(by simp[World.setCell]);clear hR4;go_wp2;go_ret;exact ⟨rfl,HFI.out⟩
theorem rtell_any (l:List Sg) (p:Option Addr) (cap:Nat) (d:RfAt w rb F W need q E) (hgl:goodL l=true) (hs:SgsOn w p l) (hE:E.length+1<=100) :
  Calls prog 43 #[.pointer (some ⟨rb,0,none⟩),.slice p l.length cap] w fun e w'=>e = .returned (.int .i64 (if l.all okS=true then 0 else 1:Nat))/\RfAt w' rb (more F w w') W need q (if l.all okS=true then E ++ [l] else E)/\Kp F w w':=by
 by_cases h:l.all okS=true
 ·simp only[if_pos h]
  have h0:Calls prog 43 #[.pointer (some ⟨rb,0,none⟩),.slice p l.length cap] w fun e w'=>e = .returned (.int .i64 0)/\RfAt w' rb (more F w w') W need 0 (E ++ [l])/\Kp F w w':=by
   by_cases hne:l = []
   ·exact rtell_nil l p cap d hgl hs (List.all_eq_true.1 h) hE hne
   ·exact rtell_cons l p cap d hgl hs (List.all_eq_true.1 h) hE hne
  refine h0.mono ?_;rintro e w' ⟨rfl,h1,h2⟩;exact ⟨rfl,h1.more (Nat.zero_le _),h2⟩
 ·simp only[if_neg h];refine (rtell_bad l p cap (goodL_iff.1 hgl).1 hs (fun h'=>h (List.all_eq_true.2 h'))).mono ?_;rintro e w' ⟨rfl,hw⟩;subst hw;refine ⟨rfl,?_,Kp.refl _ _⟩;obtain ⟨fb,m,v,Df,ps,d⟩:=d.out
  exact ⟨fb,m,v,Df,ps,d.cells,d.plen,d.own,fun k l pc h1 h2=>⟨(d.rows k l pc h1 h2).1,fun hl=>by
   obtain ⟨b,o,r1,r2,r3⟩:=(d.rows k l pc h1 h2).2 hl;exact ⟨b,o,r1,Or.inl r2,r3⟩⟩,d.map,d.room,d.memo,Or.inl d.fd,Or.inl d.fm,fun b h=>Or.inl (d.fv b h),fun b h=>by
   rcases h with h | h
   ·exact d.lim b h
   ·exact h.2,d.good,d.ok⟩
end
end TkA
end Go.Proofs.YtmolafjalaeoaaaGreatDoor
