/-
  FrmO
-/
import Derived.Test.YtmolafjalaeoaaaGreatDoorQbn
set_option maxRecDepth 100000
set_option maxHeartbeats 8000000
namespace Go.Proofs.YtmolafjalaeoaaaGreatDoor
open Go.Proofs.Tryz
namespace FrmA
open Go.RowKit FrmM
open Tk0
theorem wrapS {z:Int} (h0 : 0<=z) (h1:z<=10000):IntKind.i64.wrap z=z:=by simp[IntKind.wrap,IntKind.bits,IntKind.signed];omega
structure Mid (V w:World) (X:ByteArray) (k:Nat) (p:Option Addr) (cap:Nat):Prop where
 f0:V.cell? ⟨w.heap.size+1,0,none⟩=some (.int .i64 1)
 f1:V.cell? ⟨w.heap.size+1,1,none⟩=some (.slice p k cap)
 f2:V.cell? ⟨w.heap.size+1,2,none⟩=some (.int .i64 0)
 g1:V.frozen? ⟨w.heap.size+1,1,none⟩=false
 zero:Zero3 V w.heap.size
 own:ReadsOwn V (w.heap.size+2) (.slice p k cap) ((List.range k).map (rdAt X.data.toList))
 below:Below w.heap.size w V
 size:w.heap.size+2<=V.heap.size
theorem Mid.start (w:World) (X:ByteArray):Mid ((w.alloc (.cells #[.int .i64 0,.slice none 0 0,.int .i64 0] 93)).alloc (.cells #[.int .i64 1,.slice none 0 0,.int .i64 0] 93)) w X 0 none 0 where
 f0:=by go_simp
 f1:=by go_simp
 f2:=by go_simp
 g1:=by go_simp
 zero:=⟨by go_simp,by go_simp,by go_simp,by go_simp,by go_simp,by go_simp⟩
 own:=ReadsOwn.nil _ _
 below:=((Below.refl _ w).alloc (Nat.le_refl _) _).alloc (by simp) _
 size:=by simp
theorem set_other {V:World} {a b:Addr} {v u:Value} (h:V.cell? a=some v) (hne:a.block≠b.block\/a.off≠b.off) (ha:a.spot=none) (hb:b.spot=none):(V.setCell b u).cell? a=some v:=by
 obtain ⟨ab,ao,as_⟩:=a;obtain ⟨bb,bo,bs⟩:=b;simp only at ha hb hne;subst ha hb;unfold World.cell? World.setCell at *;simp only[Array.getElem?_modify] at *;by_cases e:bb=ab
 ·subst e;rw[if_pos rfl];cases hx:V.heap[bb]? with
  | none=>rw[hx] at h;cases h
  | some o=>
   rw[hx] at h;cases o with
   | cells c t fr=>
    simp at h ⊢;rw[Array.getElem?_setIfInBounds,if_neg (by rcases hne with h | h;exact absurd rfl h;exact fun e=>h e.symm)];exact h
   | _=>simp at h
 ·rw[if_neg e];exact h
theorem set_frozen {V:World} {a b:Addr} {u:Value} (h:V.frozen? a=false):(V.setCell b u).frozen? a=false:=by
 unfold World.frozen? World.setCell at *;simp only[Array.getElem?_modify] at *;by_cases e:b.block=a.block
 ·rw[if_pos e];cases hx:V.heap[a.block]? with
  | none=>rfl
  | some o=>
   rw[hx] at h;cases o<;>first | exact h | rfl
 ·rw[if_neg e];exact h
theorem Zero3.set {V:World} {r:Nat} {b:Addr} {u:Value} (h:Zero3 V r) (hne:r≠b.block) (hb:b.spot=none):Zero3 (V.setCell b u) r:=
 ⟨set_other h.z0 (Or.inl hne) rfl hb,set_other h.z1 (Or.inl hne) rfl hb,set_other h.z2 (Or.inl hne) rfl hb,set_frozen h.y0,set_frozen h.y1,set_frozen h.y2⟩
theorem cell_set_here {V:World} {a:Addr} {v u:Value} (h:V.cell? a=some v) (ha:a.spot=none):(V.setCell a u).cell? a=some u:=by
 obtain ⟨ab,ao,as_⟩:=a;simp only at ha;subst ha;unfold World.cell? World.setCell at *;simp only[Array.getElem?_modify] at *;rw[if_pos trivial];cases hx:V.heap[ab]? with
 | none=>rw[hx] at h;cases h
 | some o=>
  rw[hx] at h;cases o with
  | cells c t fr=>
   simp at h ⊢;rw[Array.getElem?_setIfInBounds,if_pos rfl];obtain ⟨hlt,_⟩:=Array.getElem?_eq_some_iff.1 h;simp[hlt]
  | _=>simp at h
theorem Mid.next {V V1 w:World} {X:ByteArray} {k g cap cap':Nat} {p:Option Addr} (h:Mid V w X k p cap) (hg:V.grownBy V1 (Value.slice p k cap).ownBlock)
  (ho:ReadsOwn V1 (w.heap.size+2) (.slice (some ⟨g,0,none⟩) (k+1) cap') ((List.range (k+1)).map (rdAt X.data.toList))) :
  Mid (V1.setCell ⟨w.heap.size+1,1,none⟩ (.slice (some ⟨g,0,none⟩) (k+1) cap')) w X (k+1) (some ⟨g,0,none⟩) cap':=by
 have hlt:=h.own.own.lt;have hb1:Below (w.heap.size+2) V V1:=(Below.refl _ _).grown hg h.size (fun j hj=>(hlt j hj).1);have hs:=h.size;have hs1:=hb1.size
 exact {
  f0:=set_other (keepCell hb1 (by show w.heap.size+1 < _;omega) h.f0) (Or.inr (by simp)) rfl rfl
  f1:=cell_set_here (keepCell hb1 (by show w.heap.size+1 < _;omega) h.f1) rfl
  f2:=set_other (keepCell hb1 (by show w.heap.size+1 < _;omega) h.f2) (Or.inr (by simp)) rfl rfl
  g1:=set_frozen (keepFrozen hb1 (by show w.heap.size+1 < _;omega) h.g1)
  zero:=(h.zero.keep hb1 (by omega)).set (by show w.heap.size≠w.heap.size+1;omega) rfl
  own:=ho.set (by show w.heap.size+1 < _;omega) _
  below:=(h.below.trans (hb1.mono (by omega))).setCell (by show w.heap.size<=w.heap.size+1;omega) _
  size:=by show w.heap.size+2<=(V1.heap.modify _ _).size;rw[Array.size_modify];omega }
theorem Mid.grown {V V1 w:World} {X:ByteArray} {k cap:Nat} {p:Option Addr} (h:Mid V w X k p cap) (hg:V.grownBy V1 (Value.slice p k cap).ownBlock) :
  V1.cell? ⟨w.heap.size+1,1,none⟩=some (.slice p k cap)/\V1.frozen? ⟨w.heap.size+1,1,none⟩=false:=by
 have hlt:=h.own.own.lt;have hb1:Below (w.heap.size+2) V V1:=(Below.refl _ _).grown hg h.size (fun j hj=>(hlt j hj).1);exact ⟨keepCell hb1 (by show w.heap.size+1 < _;omega) h.f1,keepFrozen hb1 (by show w.heap.size+1 < _;omega) h.g1⟩
theorem Mid.alloc {V w:World} {X:ByteArray} {k cap:Nat} {p:Option Addr} (h:Mid V w X k p cap) (o:Obj):Mid ((V.alloc o).drew) w X k p cap:=by
 have hb:Below V.heap.size V ((V.alloc o).drew):=((Below.refl _ V).alloc (Nat.le_refl _) o).drew;have hs:=h.size
 exact {
  f0:=keepCell hb (by show w.heap.size+1 < _;omega) h.f0
  f1:=keepCell hb (by show w.heap.size+1 < _;omega) h.f1
  f2:=keepCell hb (by show w.heap.size+1 < _;omega) h.f2
  g1:=keepFrozen hb (by show w.heap.size+1 < _;omega) h.g1
  zero:=h.zero.keep hb (by omega)
  own:=⟨own_keepBelow h.own.own hb (Nat.le_refl _)⟩
  below:=h.below.trans (hb.mono (by omega))
  size:=Nat.le_trans h.size hb.size }
theorem fa_reads (s:ByteArray) (n:Nat) (w:World) (hs:s.size<=100000) (h4 : 4<=s.size) (h0:((s[0].toNat:Int) != 165)=false) (hn:s[1].toNat=n) (h1:n<=44) (h5 : 4+n<=s.size) (hsp:span s.data.toList=4+n) (hT:s[2].toNat=1) :
  Calls prog 85 #[.string s] w (AtPost s w):=by
 obtain ⟨i0,hi,hz0,hz1,hz2⟩:=info_parts info27;have hXs:(s.extract 3 (3+n)).size=n:=by rw[ByteArray.size_extract];omega
 obtain ⟨G,hG⟩:∃ G:Fr,G=⟨1,gReads (s.extract 3 (3+n)).data.toList,0⟩:=⟨_,rfl⟩;have hGR:guessR (s.extract 0 (4+n)).data.toList=G:=by rw[guessR_of h5,if_pos hT,if_neg (by omega),hG,hT];rfl
 have hFG:=front_guessR h5 hsp;rw[hGR] at hFG;have HFG:Hid (front s.data.toList=if fault G=0/\enc G=(s.extract 0 (4+n)).data.toList then some G else none):=hFG;have HGG:Hid (G=⟨1,gReads (s.extract 3 (3+n)).data.toList,0⟩):=hG;have HXs:Hid ((s.extract 3 (3+n)).size=n):=hXs;have hnI:(s[1].toNat:Int)=n:=by omega
 have a0:(0:Int)<s.size:=by omega
 have a1:(1:Int)<s.size:=by omega
 have a2:(2:Int)<s.size:=by omega
 have a4:decide ((s.size:Int)<4)=false:=by simp;omega
 have b1:decide ((44:Int)<n)=false:=by simp;omega
 have b5:decide ((s.size:Int)<4+n)=false:=by simp;omega
 have b5' : 4+(n:Int)<=s.size:=by omega
 have b5'' : 3+(n:Int)<=s.size:=by omega
 have hTI:(s[2].toNat:Int)=1:=by omega
 clear hGR hFG hG hT hn hsp hXs;go_enter func85,ntmps85;go_upto_region 7 with fail
 obtain ⟨X,hX⟩:∃ X,X=s.extract 3 (3+n):=⟨_,rfl⟩;have HX:Hid (X=s.extract 3 (3+n)):=hX;have HXN:Hid (X.size=n):=by show _ = _;rw[hX];exact HXs.out
 rw[<- hX];clear hX;have hM:=Mid.start w X;generalize (w.alloc (.cells #[.int .i64 0,.slice none 0 0,.int .i64 0] 93)).alloc (.cells #[.int .i64 1,.slice none 0 0,.int .i64 0] 93)=V0 at *;have HM:Hid (Mid V0 w X 0 none 0):=hM;clear hM;go_wp2;go_loopw [7] (fun i V=>∃ (k I:Nat) (p:Option Addr) (cap:Nat),I=11*k/\I<=n/\i = .int .i64 I/\Mid V w X k p cap) (fun i _=>n-(intOf i).toNat)
 case atStart=>exact ⟨0,0,none,0,rfl,Nat.zero_le _,rfl,HM.out⟩
 case round=>
  obtain ⟨k,I,p,cap,hIk,hI,rfl,hM⟩:=hrel;have HIK:Hid (I=11*k):=hIk;clear hIk;by_cases hlt:I+11<=n
  case pos=>
   have HM1:Hid (∀ o,Mid ((wr.alloc o).drew) w X k p cap):=fun o=>hM.alloc o;obtain ⟨e0,e1,e2,ge1,hZ,hown0,hbw,hsw⟩:=hM;have e1':∀ o,(wr.alloc o).cell? ⟨w.heap.size+1,1,none⟩=some (.slice p k cap):=fun o=>(HM1.out o).f1;have hltD:decide ((I:Int)+11<=n)=true:=(by simp;omega);have hltI:(I:Int)+11<=n:=(by omega);have x0:(I:Int)<X.size:=(by rw[HXN.out];omega);have x1:(I:Int)+1<X.size:=(by rw[HXN.out];omega);have x2:(I:Int)+2<X.size:=(by rw[HXN.out];omega);have x11:(I:Int)+11<=X.size:=(by rw[HXN.out];omega);have y0:I<X.size:=(by omega);have y1:I+1<X.size:=(by omega);have y2:I+2<X.size:=(by omega);have y11:I+11<=X.size:=(by omega);have xu0:=X[I].toNat_lt;have xu1:=X[I+1].toNat_lt;have xu2:=X[I+2].toNat_lt;have hI44:(I:Int)<=44:=(by omega);have sl:∀ wx:World,(Instr.slice 9 (.string X) (some (.int .i64 ((I:Int)+3))) (some (.int .i64 ((I:Int)+11))) none).run prog wx = .ok (.string (X.extract (I+3) (I+11))) wx:=fun wx=>(by have:=run_slice_string (P:=prog) wx 9 X .i64 .i64 ((I:Int)+3) ((I:Int)+11) underlying9 (by omega) (by omega) (by omega);rw[this,show ((I:Int)+3).toNat=I+3 by omega,show ((I:Int)+11).toNat=I+11 by omega]);have p1:(0:Int)<=(I:Int)+1:=(by omega);have p2:(0:Int)<=(I:Int)+2:=(by omega);have t1:((I:Int)+1).toNat=I+1:=(by omega);have t2:((I:Int)+2).toNat=I+2:=(by omega);obtain ⟨O,hO⟩:∃ O:Obj,O = .cells #[.int .i64 (X[I].toNat:Int),.int .i64 (X[I+1].toNat:Int),.int .i64 (X[I+2].toNat:Int),.string (X.extract (I+3) (I+11))] 90:=⟨_,rfl⟩;obtain ⟨ys,hys⟩:∃ ys:List Value,ys = [.int .i64 (X[I].toNat:Int),.int .i64 (X[I+1].toNat:Int),.int .i64 (X[I+2].toNat:Int),.string (X.extract (I+3) (I+11))]:=⟨_,rfl⟩;have HRD:Hid (rdCells (rdAt X.data.toList k) = [.int .i64 (X[I].toNat:Int),.int .i64 (X[I+1].toNat:Int),.int .i64 (X[I+2].toNat:Int),.string (X.extract (I+3) (I+11))]):=by show _ = _;unfold rdAt rdOf rdCells;rw[<- HIK.out,extract_str,List.getD_eq_getElem?_getD,List.getD_eq_getElem?_getD,List.getD_eq_getElem?_getD,List.getElem?_drop,List.getElem?_drop,List.getElem?_drop,List.drop_drop,<- List.getD_eq_getElem?_getD,<- List.getD_eq_getElem?_getD,<- List.getD_eq_getElem?_getD,Nat.add_zero,byte_at y0,byte_at y1,byte_at y2,show I+11-(I+3)=8 by omega];rfl
   have HW:Hid (∀ j u,ys[j]?=some u->((wr.alloc O).drew).cell? ((⟨wr.heap.size,0,none⟩:Addr).add j)=some u):=by
    intro j u hj;subst hys hO;rw[addr_add]
    match j,hj with
    | 0,hj=>simp at hj;subst hj;simp
    | 1,hj=>simp at hj;subst hj;simp
    | 2,hj=>simp at hj;subst hj;simp
    | 3,hj=>simp at hj;subst hj;simp
   have H1:Hid (∀ u ∈ ys,u.oneCell'=true):=by intro u hu;subst hys;simp at hu;rcases hu with rfl | rfl | rfl | rfl<;>rfl
   have HL:Hid (((List.range k).map (rdAt X.data.toList)).length=k):=(by show _ = _;simp);have HOW:Hid (((wr.alloc O).drew).ownsRow (w.heap.size+2) 90 4 (.slice p k cap) k (((List.range k).map (rdAt X.data.toList)).flatMap rdCells)):=(by have h:=(hown0.own.alloc O);rw[HL.out] at h;exact h);have HYL:Hid (ys.length=1*4):=(by show _ = _;rw[hys];rfl);have HML:Hid (k+1<=maxLen):=(by show _<=_;have:=HIK.out;unfold maxLen;omega);have HBY:Hid ((k+1)*40<=140737488355328):=(by show _<=_;have:=HIK.out;omega);have HBS:Hid (w.heap.size+2<=((wr.alloc O).drew).heap.size):=(by show _<=_;simp;omega);have HHS:Hid (((wr.alloc O).drew).heap.size=wr.heap.size+1):=(by show _ = _;simp);have HYY:Hid (ys = [.int .i64 (X[I].toNat:Int),.int .i64 (X[I+1].toNat:Int),.int .i64 (X[I+2].toNat:Int),.string (X.extract (I+3) (I+11))]):=hys;subst hO;clear hys hown0 hbw hZ;go_upto_region 10 with fail
   refine wp_region_held_drew (S:=fun _=>True) (by kernel_rfl) trivial (fun _=>?_);refine tk 0 51 (.pointer (some ⟨w.heap.size+1,1,none⟩)) rfl rfl (by kernel_rfl) (fun _ _ _ h=>h) (Or.inl ⟨by rfl,fun wx _=>by go_simp⟩) trivial ?_;simp only[Act.put,sA,sB,sC];refine tk 2 53 (.string X) rfl rfl (by kernel_rfl) (fun _ _ _ h=>h) (Or.inl ⟨by rfl,fun wx _=>by go_simp⟩) trivial ?_;simp only[Act.put,sA,sB,sC];refine tk 3 54 (.int .i64 I) rfl rfl (by kernel_rfl) (fun _ _ _ h=>h) (Or.inl ⟨by rfl,fun wx _=>by go_simp⟩) trivial ?_;simp only[Act.put,sA,sB,sC];refine tk 4 55 (.int .u8 (X[I].toNat:Int)) rfl rfl (by kernel_rfl) (fun _ _ _ h=>h) (Or.inl ⟨by rfl,fun wx _=>by go_simp⟩) trivial ?_;simp only[Act.put,sA,sB,sC];refine tk 5 56 (.int .i64 (X[I].toNat:Int)) rfl rfl (by kernel_rfl) (fun _ _ _ h=>h) (Or.inl ⟨by rfl,fun wx _=>by go_simp;exact wrapU _⟩) trivial ?_;simp only[Act.put,sA,sB,sC];refine tk 6 57 (.string X) rfl rfl (by kernel_rfl) (fun _ _ _ h=>h) (Or.inl ⟨by rfl,fun wx _=>by go_simp⟩) trivial ?_;simp only[Act.put,sA,sB,sC];refine tk 7 58 (.int .i64 I) rfl rfl (by kernel_rfl) (fun _ _ _ h=>h) (Or.inl ⟨by rfl,fun wx _=>by go_simp⟩) trivial ?_;simp only[Act.put,sA,sB,sC];refine tk 8 59 (.int .i64 ((I:Int)+1)) rfl rfl (by kernel_rfl) (fun _ _ _ h=>h) (Or.inl ⟨by rfl,fun wx _=>by go_simp;exact wrapS (by omega) (by omega)⟩) trivial ?_;simp only[Act.put,sA,sB,sC];refine tk 9 60 (.int .u8 (X[I+1].toNat:Int)) rfl rfl (by kernel_rfl) (fun _ _ _ h=>h) (Or.inl ⟨by rfl,fun wx _=>by go_simp⟩) trivial ?_;simp only[Act.put,sA,sB,sC];refine tk 10 61 (.int .i64 (X[I+1].toNat:Int)) rfl rfl (by kernel_rfl) (fun _ _ _ h=>h) (Or.inl ⟨by rfl,fun wx _=>by go_simp;exact wrapU _⟩) trivial ?_;simp only[Act.put,sA,sB,sC];refine tk 11 62 (.string X) rfl rfl (by kernel_rfl) (fun _ _ _ h=>h) (Or.inl ⟨by rfl,fun wx _=>by go_simp⟩) trivial ?_;simp only[Act.put,sA,sB,sC];refine tk 12 63 (.int .i64 I) rfl rfl (by kernel_rfl) (fun _ _ _ h=>h) (Or.inl ⟨by rfl,fun wx _=>by go_simp⟩) trivial ?_;simp only[Act.put,sA,sB,sC];refine tk 13 64 (.int .i64 ((I:Int)+2)) rfl rfl (by kernel_rfl) (fun _ _ _ h=>h) (Or.inl ⟨by rfl,fun wx _=>by go_simp;exact wrapS (by omega) (by omega)⟩) trivial ?_;simp only[Act.put,sA,sB,sC];refine tk 14 65 (.int .u8 (X[I+2].toNat:Int)) rfl rfl (by kernel_rfl) (fun _ _ _ h=>h) (Or.inl ⟨by rfl,fun wx _=>by go_simp⟩) trivial ?_;simp only[Act.put,sA,sB,sC];refine tk 15 66 (.int .i64 (X[I+2].toNat:Int)) rfl rfl (by kernel_rfl) (fun _ _ _ h=>h) (Or.inl ⟨by rfl,fun wx _=>by go_simp;exact wrapU _⟩) trivial ?_;simp only[Act.put,sA,sB,sC];refine tk 16 67 (.string X) rfl rfl (by kernel_rfl) (fun _ _ _ h=>h) (Or.inl ⟨by rfl,fun wx _=>by go_simp⟩) trivial ?_;simp only[Act.put,sA,sB,sC];refine tk 17 68 (.int .i64 I) rfl rfl (by kernel_rfl) (fun _ _ _ h=>h) (Or.inl ⟨by rfl,fun wx _=>by go_simp⟩) trivial ?_;simp only[Act.put,sA,sB,sC];refine tk 18 69 (.int .i64 ((I:Int)+3)) rfl rfl (by kernel_rfl) (fun _ _ _ h=>h) (Or.inl ⟨by rfl,fun wx _=>by go_simp;exact wrapS (by omega) (by omega)⟩) trivial ?_;simp only[Act.put,sA,sB,sC];refine tk 19 70 (.int .i64 I) rfl rfl (by kernel_rfl) (fun _ _ _ h=>h) (Or.inl ⟨by rfl,fun wx _=>by go_simp⟩) trivial ?_;simp only[Act.put,sA,sB,sC];refine tk 20 71 (.int .i64 ((I:Int)+11)) rfl rfl (by kernel_rfl) (fun _ _ _ h=>h) (Or.inl ⟨by rfl,fun wx _=>by go_simp;exact wrapS (by omega) (by omega)⟩) trivial ?_;simp only[Act.put,sA,sB,sC];refine tk 21 72 (.string (X.extract (I+3) (I+11))) rfl rfl (by kernel_rfl) (fun _ _ _ h=>h) (Or.inl ⟨by rfl,fun wx _=>by go_simp⟩) trivial ?_;simp only[Act.put,sA,sB,sC];refine tk 22 73 (.agg #[.int .i64 (X[I].toNat:Int),.int .i64 (X[I+1].toNat:Int),.int .i64 (X[I+2].toNat:Int),.string (X.extract (I+3) (I+11))]) rfl rfl (by kernel_rfl) (fun _ _ _ h=>h) (Or.inl ⟨by rfl,fun wx _=>by go_simp⟩) trivial ?_;simp only[Act.put,sA,sB,sC];refine wpAnyH_ready (rs:=[1,23]) (by kernel_rfl) (by simp) ?_;refine AllReadyH.cons rfl (fun K hK=>?_) (AllReadyH.cons rfl (fun K hK=>?_) AllReadyH.nil)
   ·go_simp;refine hK.out _ _ trivial (fun _=>?_);clear hK K;refine wpAnyH_ready (rs:=[23]) (by kernel_rfl) (by simp) ?_;refine AllReadyH.cons rfl (fun K hK=>?_) AllReadyH.nil;go_simp;refine hK.out _ _ trivial (fun _=>?_);clear hK K;refine wpAnyH_ready (rs:=[24]) (by kernel_rfl) (by simp) ?_;refine AllReadyH.cons rfl (fun K hK=>?_) AllReadyH.nil;refine step_append_lies _ (by rfl) (.tmp 52) (.tmp 74) 91 (by rfl) (w.heap.size+2) 90 i0 (.agg #[.int .i64 0,.int .i64 0,.int .i64 0,.string ⟨#[]⟩]) 4 40 underlying91 hi hz0 hz1 hz2 rfl (by omega) (.slice p k cap) k _ (by rfl) HOW.out ⟨wr.heap.size,0,none⟩ 1 1 ys (by rfl) HYL.out HW.out H1.out (by omega) HML.out HBY.out HBS.out (wr.heap.size+1) HHS.out ?_;intro g cap' w1 hown1 hgrow hat hlt1;refine hK.out _ _ trivial (fun _=>?_);clear hK K;change wpAnyH _ _ _ _ _ _ _ (Act.put _ (some 75) _) _;simp only[Act.put,sA,sB,sC];obtain ⟨st1,st2⟩:=(HM1.out _).grown hgrow;have hrd:ReadsOwn w1 (w.heap.size+2) (.slice (some ⟨g,0,none⟩) (k+1) cap') ((List.range (k+1)).map (rdAt X.data.toList)):=(by rw[List.range_succ,List.map_append];exact ReadsOwn.snoc (by rw[HL.out];exact hown1) (by rw[HYY.out,HRD.out]));have HNX:Hid (Mid (w1.setCell ⟨w.heap.size+1,1,none⟩ (.slice (some ⟨g,0,none⟩) (k+1) cap')) w X (k+1) (some ⟨g,0,none⟩) cap'):=(HM1.out _).next hgrow hrd
    clear hown1 hgrow hat hlt1 hrd;refine tk 25 76 (.pointer (some ⟨w.heap.size+1,1,none⟩)) rfl rfl (by kernel_rfl) (fun _ _ _ h=>h) (Or.inl ⟨by rfl,fun wx _=>by go_simp⟩) trivial ?_;simp only[Act.put,sA,sB,sC];refine wpAnyH_ready (rs:=[26]) (by kernel_rfl) (by simp) ?_;refine AllReadyH.cons rfl (fun K hK=>?_) AllReadyH.nil;go_simp;refine hK.out _ _ trivial (fun _=>?_);clear hK K;refine wpAnyH_done (by kernel_rfl) ?_ _;clear st1 st2;go_wp2;go_roundw
    case rel=>exact ⟨k+1,I+11,_,_,by have:=HIK.out;omega,by omega,by go_num,HNX.out⟩
    case measure=>simp[intOf];omega
   ·go_simp;refine hK.out _ _ trivial (fun _=>?_);clear hK K;refine wpAnyH_ready (rs:=[1]) (by kernel_rfl) (by simp) ?_;refine AllReadyH.cons rfl (fun K hK=>?_) AllReadyH.nil;go_simp;refine hK.out _ _ trivial (fun _=>?_);clear hK K;refine wpAnyH_ready (rs:=[24]) (by kernel_rfl) (by simp) ?_;refine AllReadyH.cons rfl (fun K hK=>?_) AllReadyH.nil;refine step_append_lies _ (by rfl) (.tmp 52) (.tmp 74) 91 (by rfl) (w.heap.size+2) 90 i0 (.agg #[.int .i64 0,.int .i64 0,.int .i64 0,.string ⟨#[]⟩]) 4 40 underlying91 hi hz0 hz1 hz2 rfl (by omega) (.slice p k cap) k _ (by rfl) HOW.out ⟨wr.heap.size,0,none⟩ 1 1 ys (by rfl) HYL.out HW.out H1.out (by omega) HML.out HBY.out HBS.out (wr.heap.size+1) HHS.out ?_;intro g cap' w1 hown1 hgrow hat hlt1;refine hK.out _ _ trivial (fun _=>?_);clear hK K;change wpAnyH _ _ _ _ _ _ _ (Act.put _ (some 75) _) _;simp only[Act.put,sA,sB,sC];obtain ⟨st1,st2⟩:=(HM1.out _).grown hgrow;have hrd:ReadsOwn w1 (w.heap.size+2) (.slice (some ⟨g,0,none⟩) (k+1) cap') ((List.range (k+1)).map (rdAt X.data.toList)):=(by rw[List.range_succ,List.map_append];exact ReadsOwn.snoc (by rw[HL.out];exact hown1) (by rw[HYY.out,HRD.out]));have HNX:Hid (Mid (w1.setCell ⟨w.heap.size+1,1,none⟩ (.slice (some ⟨g,0,none⟩) (k+1) cap')) w X (k+1) (some ⟨g,0,none⟩) cap'):=(HM1.out _).next hgrow hrd
    clear hown1 hgrow hat hlt1 hrd;refine tk 25 76 (.pointer (some ⟨w.heap.size+1,1,none⟩)) rfl rfl (by kernel_rfl) (fun _ _ _ h=>h) (Or.inl ⟨by rfl,fun wx _=>by go_simp⟩) trivial ?_;simp only[Act.put,sA,sB,sC];refine wpAnyH_ready (rs:=[26]) (by kernel_rfl) (by simp) ?_;refine AllReadyH.cons rfl (fun K hK=>?_) AllReadyH.nil;go_simp;refine hK.out _ _ trivial (fun _=>?_);clear hK K;refine wpAnyH_done (by kernel_rfl) ?_ _;clear st1 st2;go_wp2;go_roundw
    case rel=>exact ⟨k+1,I+11,_,_,by have:=HIK.out;omega,by omega,by go_num,HNX.out⟩
    case measure=>simp[intOf];omega
  case neg=>
   have hltI:¬ ((I:Int)+11<=n):=(by omega);have hltD:decide ((I:Int)+11<=n)=false:=(by simp;omega);have hTl:Tail wr w G p cap:=(by have hk:gReads (s.extract 3 (3+n)).data.toList=(List.range k).map (rdAt X.data.toList):=(by rw[<- HX.out];unfold gReads;rw[len_list,HXN.out,show n/11=k by have:=HIK.out;omega]);have hGk:G=⟨1,(List.range k).map (rdAt X.data.toList),0⟩:=(by rw[HGG.out,hk]);have hl:((List.range k).map (rdAt X.data.toList)).length=k:=(by simp);have hon:ReadsOn wr p ((List.range k).map (rdAt X.data.toList)):=(by obtain ⟨p',c',hv,hr⟩:=hM.own.on (by rw[<- hk];exact gReads_tags _);simp at hv;obtain ⟨rfl,rfl⟩:=hv;exact hr);rw[hGk];exact ⟨hM.f0,by show _=some (Value.slice p ((List.range k).map (rdAt X.data.toList)).length cap);rw[hl];exact hM.f1,hM.f2,hM.zero,by show ReadsOwn wr _ (.slice p ((List.range k).map (rdAt X.data.toList)).length cap) _;rw[hl];exact hM.own,hon,hM.below,hM.size⟩);have e0:=hM.f0;have HTL:Hid (Tail wr w G p cap):=hTl
   rename World=>W
   clear hM hTl;go_upto_region 13 with fail
   clear e0;have hTl:=HTL.out;clear HTL;obtain ⟨f0,f1,f2,hZ,hRO,hRN,hBW,hWs⟩:=hTl;have HZ:Hid (Zero3 W w.heap.size):=hZ;have HRO:Hid (ReadsOwn W (w.heap.size+2) (.slice p G.rs.length cap) G.rs):=hRO;have HRN:Hid (ReadsOn W p G.rs):=hRN;have HBW:Hid (Below w.heap.size w W):=hBW;clear hZ hRO hRN hBW;have k0:=cell_regrown f0;have k1:=cell_regrown f1;have k2:=cell_regrown f2;by_cases hf:fault G=0
   ·have hok:Hid (Ok G):=fault_zero.1 hf;have hfd:decide ((0:Int)<((fault G:Nat):Int))=false:=(by rw[hf];rfl);have hfe:decide (0<fault G)=false:=(by rw[hf];rfl);have HFL:Hid (fault G=0):=hf;clear hf;by_cases hq:enc G=(s.extract 0 (4+n)).data.toList
    ·have q1:((str (enc G)).toList == (s.extract 0 (4+n)).toList)=true:=(by rw[ByteArray.toList_eq,ByteArray.toList_eq,str_list,hq];simp);have q2:((str (enc G)).toList != (s.extract 0 (4+n)).toList)=false:=(by rw[bne,q1];rfl);have HFS:Hid (front s.data.toList=some G):=(by show _ = _;rw[HFG.out,if_pos ⟨HFL.out,hq⟩]);have HEL:Hid (4+(n:Int)=((enc G).length:Int)):=(by show _ = _;rw[hq,len_list,ext_size h5];omega);clear hq;refine wp_region_quiet_below (by kernel_rfl) (by kernel_rfl) ?_
     repeat (go_big_quiet_step (first | with_reducible exact Calls.regrown_of (ff_any G p cap _ (HRN.out.below (below_regrown _ _ _) (Nat.le_refl _))) | with_reducible exact Calls.regrown_of (fb_any G p cap _ (HRN.out.below (below_regrown _ _ _) (Nat.le_refl _)) hok.out)))
     refine wpQuiet_nil ?_;intro _ hw';obtain ⟨⟨dq,osq⟩,hw''⟩:=hw';subst hw'';clear k0 k1 k2;obtain ⟨V,hV⟩:∃ V,V=Go.Sort.grow (redrawn W dq) osq:=⟨_,rfl⟩;have hbV:Below W.heap.size W V:=(by rw[hV];exact below_regrown _ _ _);show Exit.then _ _ _ _ (Go.Sort.grow (redrawn W dq) osq);rw[<- hV];clear hV;obtain ⟨z0,z1,z2,y0,y1,y2⟩:=HZ.out.keep hbV (by omega);have d0:=keepCell hbV (by show w.heap.size+1<W.heap.size;omega) f0;have d1:=keepCell hbV (by show w.heap.size+1<W.heap.size;omega) f1;have d2:=keepCell hbV (by show w.heap.size+1<W.heap.size;omega) f2;have HB:Hid (Below w.heap.size w V):=HBW.out.trans (hbV.mono (by omega));have HROV:Hid (ReadsOwn V (w.heap.size+2) (.slice p G.rs.length cap) G.rs):=⟨own_keepBelow HRO.out.own hbV (Nat.le_refl _)⟩;clear hbV f0 f1 f2;go_wp2;refine bodyPost_ret (v:=.tuple #[.agg #[.int .i64 G.ty,.slice p G.rs.length cap,.int .i64 G.wm],.int .i64 (4+n)]) (by simp[results,results85,go_sem,z0,z1,z2]) rfl ?_;refine atPost_some HFS.out rfl HEL.out ?_ ?_
     ·exact (((HROV.out.set (by show w.heap.size < _;omega) _).set (by show w.heap.size < _;omega) _).set (by show w.heap.size < _;omega) _).le (by omega)
     ·exact ((HB.out.setCell (Nat.le_refl _) _).setCell (Nat.le_refl _) _).setCell (Nat.le_refl _) _
    ·have q1:((str (enc G)).toList == (s.extract 0 (4+n)).toList)=false:=(by rw[ByteArray.toList_eq,ByteArray.toList_eq,str_list];simpa using hq);have q2:((str (enc G)).toList != (s.extract 0 (4+n)).toList)=true:=(by rw[bne,q1];rfl);have HFS:Hid (front s.data.toList=none):=(by show _ = _;rw[HFG.out,if_neg (fun h=>hq h.2)]);clear hq;refine wp_region_quiet_below (by kernel_rfl) (by kernel_rfl) ?_
     repeat (go_big_quiet_step (first | with_reducible exact Calls.regrown_of (ff_any G p cap _ (HRN.out.below (below_regrown _ _ _) (Nat.le_refl _))) | with_reducible exact Calls.regrown_of (fb_any G p cap _ (HRN.out.below (below_regrown _ _ _) (Nat.le_refl _)) hok.out)))
     refine wpQuiet_nil ?_;intro _ hw';obtain ⟨⟨dq,osq⟩,hw''⟩:=hw';subst hw'';clear k0 k1 k2;obtain ⟨V,hV⟩:∃ V,V=Go.Sort.grow (redrawn W dq) osq:=⟨_,rfl⟩;have hbV:Below W.heap.size W V:=(by rw[hV];exact below_regrown _ _ _);show Exit.then _ _ _ _ (Go.Sort.grow (redrawn W dq) osq);rw[<- hV];clear hV;obtain ⟨z0,z1,z2,y0,y1,y2⟩:=HZ.out.keep hbV (by omega);have HB:Hid (Below w.heap.size w V):=HBW.out.trans (hbV.mono (by omega));clear hbV f0 f1 f2;go_wp2;refine bodyPost_ret (v:=.tuple #[.agg #[.int .i64 0,.slice none 0 0,.int .i64 0],.int .i64 0]) (by simp[results,results85,go_sem,z0,z1,z2]) rfl ?_;exact atPost_none HFS.out rfl (((HB.out.setCell (Nat.le_refl _) _).setCell (Nat.le_refl _) _).setCell (Nat.le_refl _) _)
   ·have hfd:decide ((0:Int)<((fault G:Nat):Int))=true:=(by simp;omega);have hfe:decide (0<fault G)=true:=(by simp;omega);have HFS:Hid (front s.data.toList=none):=(by show _ = _;rw[HFG.out,if_neg (fun h=>hf h.1)]);clear hf;refine wp_region_quiet_below (by kernel_rfl) (by kernel_rfl) ?_
    repeat (go_big_quiet_step (with_reducible exact Calls.regrown_of (ff_any G p cap _ (HRN.out.below (below_regrown _ _ _) (Nat.le_refl _)))))
    refine wpQuiet_nil ?_;intro _ hw';obtain ⟨⟨dq,osq⟩,hw''⟩:=hw';subst hw'';clear k0 k1 k2;obtain ⟨V,hV⟩:∃ V,V=Go.Sort.grow (redrawn W dq) osq:=⟨_,rfl⟩;have hbV:Below W.heap.size W V:=(by rw[hV];exact below_regrown _ _ _);show Exit.then _ _ _ _ (Go.Sort.grow (redrawn W dq) osq);rw[<- hV];clear hV;obtain ⟨z0,z1,z2,y0,y1,y2⟩:=HZ.out.keep hbV (by omega);have HB:Hid (Below w.heap.size w V):=HBW.out.trans (hbV.mono (by omega));clear hbV f0 f1 f2;go_wp2;refine bodyPost_ret (v:=.tuple #[.agg #[.int .i64 0,.slice none 0 0,.int .i64 0],.int .i64 0]) (by simp[results,results85,go_sem,z0,z1,z2]) rfl ?_;exact atPost_none HFS.out rfl (((HB.out.setCell (Nat.le_refl _) _).setCell (Nat.le_refl _) _).setCell (Nat.le_refl _) _)
theorem frameAt_any (s:ByteArray) (w:World) (hs:s.size<=100000):Calls prog 85 #[.string s] w (AtPost s w):=by
 rcases fronts s with ⟨h,hf⟩ | ⟨h4,h0,h1,h5,hsp⟩
 ·exact fa_no s w hs h hf
 ·by_cases hT:s[2].toNat=1
  ·exact fa_reads s _ w hs h4 h0 rfl h1 h5 hsp hT
  ·by_cases h3:s[2].toNat=3/\s[1].toNat=1
   ·exact fa_warm s _ w hs h4 h0 rfl h1 h5 hsp h3.1 h3.2
   ·exact fa_else s _ w hs h4 h0 rfl h1 h5 hsp hT h3
end FrmA
end Go.Proofs.YtmolafjalaeoaaaGreatDoor
