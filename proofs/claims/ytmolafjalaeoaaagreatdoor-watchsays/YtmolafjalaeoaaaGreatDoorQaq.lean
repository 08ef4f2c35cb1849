/-
  TkL TkN TkO TkP RuN
-/
import Derived.Test.YtmolafjalaeoaaaGreatDoorQap
set_option maxRecDepth 100000
set_option maxHeartbeats 8000000
namespace Go.Proofs.YtmolafjalaeoaaaGreatDoor
open Tryz
namespace TkA
open Go.RowKit TkM TkW Go.Maps
def dn (k:Nat) (r:Nat):Prop:=k<=r/\r<8
theorem dn_skip {need:Nat} {c:Nat->Nat} {s:Nat->Int} {k:Nat} {b:Int} (h:Bst need c s (dn (k+1)) b) (hc:c k<need):Bst need c s (dn k) b:=by
 rcases h with ⟨rfl,h⟩ | ⟨q,rfl,⟨hq1,hq2⟩,hn,h⟩
 ·refine Or.inl ⟨rfl,fun p hp=>?_⟩;by_cases e:p=k
  ·rw[e];exact hc
  ·exact h p ⟨by have:=hp.1;omega,hp.2⟩
 ·refine Or.inr ⟨q,rfl,⟨by omega,hq2⟩,hn,fun p hp hnp=>?_⟩;by_cases e:p=k
  ·rw[e] at hnp;omega
  ·exact h p ⟨by have:=hp.1;omega,hp.2⟩ hnp
theorem dn_first {need:Nat} {c:Nat->Nat} {s:Nat->Int} {k:Nat} (hk:k<8) (h:Bst need c s (dn (k+1)) (-1)) (hc:need<=c k):Bst need c s (dn k) (k:Int):=by
 rcases h with ⟨_,h⟩ | ⟨q,hq,_⟩
 ·refine Or.inr ⟨k,rfl,⟨Nat.le_refl _,hk⟩,hc,fun p hp hnp=>?_⟩;by_cases e:p=k
  ·rw[e];omega
  ·have:=h p ⟨by have:=hp.1;omega,hp.2⟩;omega
 ·omega
theorem dn_take {need:Nat} {c:Nat->Nat} {s:Nat->Int} {k q:Nat} (hk:k<8) (h:Bst need c s (dn (k+1)) (q:Int)) (hc:need<=c k) (hb:c q<c k\/(c k=c q/\s q<=s k)):Bst need c s (dn k) (k:Int):=by
 rcases h with ⟨hq,_⟩ | ⟨q',hq,⟨hq1,hq2⟩,hn,h⟩
 ·omega
 ·obtain rfl:q=q':=by omega
  refine Or.inr ⟨k,rfl,⟨Nat.le_refl _,hk⟩,hc,fun p hp hnp=>?_⟩;by_cases e:p=k
  ·rw[e];omega
  ·have:=h p ⟨by have:=hp.1;omega,hp.2⟩ hnp;have:=hp.1;omega
theorem dn_keep {need:Nat} {c:Nat->Nat} {s:Nat->Int} {k q:Nat} (h:Bst need c s (dn (k+1)) (q:Int)) (hb:¬ (c q<c k\/(c k=c q/\s q<=s k))):Bst need c s (dn k) (q:Int):=by
 rcases h with ⟨hq,_⟩ | ⟨q',hq,⟨hq1,hq2⟩,hn,h⟩
 ·omega
 ·obtain rfl:q=q':=by omega
  refine Or.inr ⟨q,rfl,⟨by omega,hq2⟩,hn,fun p hp hnp=>?_⟩;by_cases e:p=k
  ·rw[e];omega
  ·exact h p ⟨by have:=hp.1;omega,hp.2⟩ hnp
theorem self_mt (c:Nat->Nat) (s:Nat->Int) (k:Nat):∀ q:Nat,(k:Int)=(q:Int)->(c k:Int)=(c q:Int)/\s k=s q:=fun q hq=>by
 obtain rfl:k=q:=by omega
 exact ⟨rfl,rfl⟩
theorem dn_end {need:Nat} {c:Nat->Nat} {s:Nat->Int} {b:Int} (h:Bst need c s (dn 0) b):b=bst need c s 8:=by
 refine Bst.unique h ?_;rcases bst_is need c s 8 with ⟨hb,h⟩ | ⟨q,hb,hq,hn,h⟩
 ·exact Or.inl ⟨hb,fun p hp=>h p hp.2⟩
 ·exact Or.inr ⟨q,hb,⟨Nat.zero_le _,hq⟩,hn,fun p hp=>h p hp.2⟩
def dec2 (e:Nat):List UInt8:=if e<10 then [UInt8.ofNat (48+e)] else [UInt8.ofNat (48+e/10),UInt8.ofNat (48+e%10)]
theorem conv1 (x:Int) (t:TypeId) (w:World):(convert 157 9 (.slice (some ⟨w.heap.size,0,none⟩) 1 1)).run prog (w.alloc (.cells #[.int .u8 x] t)) = .ok (.string ⟨#[UInt8.ofNat x.toNat]⟩) (w.alloc (.cells #[.int .u8 x] t)):=by
 have:=run_convert_bytes_arg (P:=prog) (w.alloc (.cells #[.int .u8 x] t)) 157 5 underlying157 underlying5 w.heap.size 0 1 1 [x] rfl (fun i hi=>by
  match i,hi with
  | 0,_=>go_simp) 9 underlying9
 rw[this];rfl
theorem dig_eq (x:Nat):(48+UInt8.ofNat x:UInt8)=UInt8.ofNat (48+x):=(UInt8.ofNat_add 48 x).symm
theorem ret_str {a b:ByteArray} (h:a=b):Ending.returned (.string a) = .returned (.string b):=by rw[h]
theorem decimal_any (N:Nat) (w:World) (hN:N<100) :
  Calls prog 127 #[.int .i64 N] w fun e w'=>e = .returned (.string ⟨(dec2 N).toArray⟩)/\Below w.heap.size w w':=by
 have hN':(N:Int)<=99:=by omega
 have HN:Hid (N<100):=hN;clear hN;have hc1:=conv1;go_enter func127,ntmps127;go_wp2;go_loopw [0,3,5] (fun a b _ V=>∃ (n:Nat) (l:List UInt8),n<=N/\a = .int .i64 n/\b = .string ⟨l.toArray⟩/\((n=N/\l = [])\/(10<=N/\n=N/10/\l = [UInt8.ofNat (48+N%10)]))/\Below w.heap.size w V) (fun a _ _ _=>(intOf a).toNat)
 case atStart=>exact ⟨N,[],Nat.le_refl _,rfl,rfl,Or.inl ⟨rfl,rfl⟩,Below.refl _ _⟩
 case round=>
  obtain ⟨n,l,hn,rfl,rfl,hd,hb⟩:=hrel;have HD:Hid ((n=N/\l = [])\/(10<=N/\n=N/10/\l = [UInt8.ofNat (48+N%10)])):=hd;have HB:Hid (Below w.heap.size w wr):=hb;have hlen:l.length<=19:=by rcases hd with ⟨_,rfl⟩ | ⟨_,_,rfl⟩<;>simp
  clear hd hb;have hnI:(n:Int)<=99:=by omega
  have HDG:Hid ((48+UInt8.ofNat (n%10):UInt8)=UInt8.ofNat (48+n%10)):=dig_eq (n%10);go_wp2
  ·have hz:(n:Int)/10=0:=(by simpa using ‹((n:Int)/10 == 0)=true›);have hn10:n<10:=(by omega);go_ret;refine ⟨ret_str ?_,HB.out.alloc HB.out.size _⟩;rw[HDG.out];refine bytes_ext ?_;have hN:=HN.out;rcases HD.out with ⟨rfl,rfl⟩ | ⟨h1,rfl,rfl⟩
   ·simp[dec2,hn10];congr 1;omega
   ·have:¬ N<10:=(by omega);simp[dec2,this];congr 1;omega
  ·have hz:¬ (n:Int)/10=0:=(by simpa using ‹((n:Int)/10 == 0)=false›);have hn10:¬ n<10:=(by omega);go_roundw
   case rel=>
    have hN:=HN.out;refine ⟨n/10,UInt8.ofNat (48+n%10)::l,by omega,by go_num,?_,?_,HB.out.alloc HB.out.size _⟩
    ·rw[HDG.out];exact congrArg Value.string (bytes_ext (by simp))
    ·rcases HD.out with ⟨rfl,rfl⟩ | ⟨h1,rfl,rfl⟩
     ·exact Or.inr ⟨by omega,rfl,rfl⟩
     ·omega
   case measure=>simp[intOf];omega
section
variable {w : World} {rb W need : Nat} {p : Option Addr} {cap : Nat} {E : List (List Sg)}
theorem at_any (g:ByteArray) (e:Nat) (d:RfV w rb W need p cap E) (he:e<E.length) (hW:W<=8) :
  Calls prog 128 #[.pointer (some ⟨rb,0,none⟩),.string g,.int .i64 (e:Int)] w fun x w'=>x = .returned (.int .i64 (whr g (epOf E) W need e))/\Below w.heap.size w w':=by
 have HCN:Hid (∀ (V:World) (k:Nat),Below w.heap.size w V->Calls prog 148 #[.pointer (some ⟨rb,0,none⟩),.string g,.int .i64 (k:Int),.int .i64 (e:Int)] V fun x w'=>x = .returned (.tuple #[.int .i64 (cW g (epOf E) W e k:Int),.int .i64 (sW g (epOf E) W e k)])/\Below V.heap.size V w'):=fun V k hb=>counts_any g k e (d.below hb) he hW;have HD:Hid (RfV w rb W need p cap E):=d;unfold whr;generalize cW g (epOf E) W e=c at *;generalize sW g (epOf E) W e=s at *;clear d;go_enter func128,ntmps128;go_wp2;go_loopw [7,8,9,10,11,12] (fun b m t i _ _ V=>∃ (k:Nat) (bv mv tv:Int),k<=8/\i = .int .i64 ((k:Int)-1)/\b = .int .i64 bv/\m = .int .i64 mv/\t = .int .i64 tv/\Bst need c s (dn k) bv/\(∀ q:Nat,bv=(q:Int)->mv=(c q:Int)/\tv=s q)/\Below w.heap.size w V) (fun _ _ _ i _ _ _=>(intOf i+1).toNat)
 case atStart=>exact ⟨8,-1,0,0,Nat.le_refl _,rfl,rfl,rfl,rfl,Or.inl ⟨rfl,fun p hp=>by have h1:=hp.1;have h2:=hp.2;omega⟩,fun q hq=>by omega,Below.refl _ _⟩
 case round=>
  obtain ⟨k,bv,mv,tv,hk,rfl,rfl,rfl,rfl,hbst,hmt,hbl⟩:=hrel;have HB:Hid (Below w.heap.size w wr):=hbl;clear hbl;cases k with
  | zero=>
   have HE:Hid (bv=bst need c s 8):=dn_end hbst;clear hbst hmt;go_wp2;go_ret;exact ⟨by rw[<- HE.out];rfl,HB.out⟩
  | succ k=>
   have e1:(((k+1:Nat):Int)-1)=(k:Int):=(by omega);rw[e1];have hk8:k<8:=(by omega);have HBST:Hid (Bst need c s (dn (k+1)) bv):=hbst;have HMT:Hid (∀ q:Nat,bv=(q:Int)->mv=(c q:Int)/\tv=s q):=hmt;clear hbst hmt e1;go_wp2_with fail;refine (HCN.out _ k HB.out).mono ?_;rintro x w1 ⟨rfl,hb1⟩;have HB1:Hid (Below w.heap.size w w1):=HB.out.trans (hb1.mono HB.out.size);have k1:=(HD.out.below HB1.out).c1;clear hb1;by_cases h1:c k<need
   ·have h1I:(c k:Int)<need:=(by omega);go_wp2;go_roundw
    case rel=>exact ⟨k,bv,mv,tv,by omega,by go_num,rfl,rfl,rfl,dn_skip HBST.out h1,HMT.out,HB1.out⟩
    case measure=>simp[intOf]
   ·have h1I:¬ (c k:Int)<need:=(by omega);by_cases h2:bv<0
    ·have h2d:decide (bv<0)=true:=by simpa using h2
     have HBB:Hid (Bst need c s (dn k) (k:Int)):=by
      have hb:=HBST.out
      have:bv = -1:=by
       rcases hb with ⟨hb,_⟩ | ⟨q,hb,_⟩
       ·exact hb
       ·omega
      rw[this] at hb;exact dn_first hk8 hb (by omega)
     clear HBST HMT h2;go_wp2;go_roundw
     case rel=>exact ⟨k,k,c k,s k,by omega,by go_num,rfl,rfl,rfl,HBB.out,self_mt c s k,HB1.out⟩
     case measure=>simp[intOf]
    ·have h2d:decide (bv<0)=false:=(by simpa using h2);obtain ⟨q,rfl⟩:∃ q:Nat,bv=(q:Int):=⟨bv.toNat,by omega⟩;obtain ⟨rfl,rfl⟩:=HMT.out q rfl;clear h2;by_cases h3:c q<c k
     ·have h3I:decide ((c q:Int)<c k)=true:=(by simp;omega);have HBB:Hid (Bst need c s (dn k) (k:Int)):=dn_take hk8 HBST.out (by omega) (Or.inl h3);clear HBST HMT;go_wp2;go_roundw
      case rel=>exact ⟨k,k,c k,s k,by omega,by go_num,rfl,rfl,rfl,HBB.out,self_mt c s k,HB1.out⟩
      case measure=>simp[intOf]
     ·have h3I:decide ((c q:Int)<c k)=false:=(by simp;omega);by_cases h4:c k=c q
      ·have h4b:((c k:Int) == c q)=true:=(by simp;omega);by_cases h5:s q<=s k
       ·have HBB:Hid (Bst need c s (dn k) (k:Int)):=dn_take hk8 HBST.out (by omega) (Or.inr ⟨h4,h5⟩);have H4:Hid (c k=c q):=h4;clear HBST HMT h4;go_wp2;go_roundw
        case rel=>exact ⟨k,k,c k,s k,by omega,by go_num,rfl,(by first | rfl | rw[H4.out]),rfl,HBB.out,self_mt c s k,HB1.out⟩
        case measure=>simp[intOf]
       ·have HBB:Hid (Bst need c s (dn k) (q:Int)):=dn_keep HBST.out (by omega);clear HBST HMT;go_wp2;go_roundw
        case rel=>exact ⟨k,q,c q,s q,by omega,by go_num,rfl,rfl,rfl,HBB.out,self_mt c s q,HB1.out⟩
        case measure=>simp[intOf]
      ·have h4b:((c k:Int) == c q)=false:=(by simp;omega);have HBB:Hid (Bst need c s (dn k) (q:Int)):=dn_keep HBST.out (by omega);clear HBST HMT;go_wp2;go_roundw
       case rel=>exact ⟨k,q,c q,s q,by omega,by go_num,rfl,rfl,rfl,HBB.out,self_mt c s q,HB1.out⟩
       case measure=>simp[intOf]
end
end TkA
namespace TkA
open Go.RowKit TkM TkW Go.Maps
def keyL (g:ByteArray) (e:Nat):List UInt8:=g.data.toList++([64]++dec2 e)
def un2:List UInt8->Nat
 | [a]=>a.toNat-48
 | [a,b]=>(a.toNat-48)*10+(b.toNat-48)
 | _=>0
theorem un2_dec2:∀ e,e<100->un2 (dec2 e)=e:=by decide
theorem dec2_inj (e:Nat) (he:e<100) (e':Nat) (he':e'<100) (h:dec2 e=dec2 e'):e=e':=by rw[<- un2_dec2 e he,h,un2_dec2 e' he']
theorem dec2_form (e:Nat) (h:e<100):(∃ x,dec2 e = [x])\/∃ y z,dec2 e = [y,z]/\y≠64:=by
 unfold dec2;by_cases h1:e<10
 ·rw[if_pos h1];exact Or.inl ⟨_,rfl⟩
 ·rw[if_neg h1];refine Or.inr ⟨_,_,rfl,?_⟩;have h2:e/10=1\/e/10=2\/e/10=3\/e/10=4\/e/10=5\/e/10=6\/e/10=7\/e/10=8\/e/10=9:=by omega
  rcases h2 with h2 | h2 | h2 | h2 | h2 | h2 | h2 | h2 | h2<;>rw[h2]<;>decide
theorem keyL_inj {g g':ByteArray} {e e':Nat} (he:e<100) (he':e'<100) (h:keyL g e=keyL g' e'):g=g'/\e=e':=by
 unfold keyL at h;have hr:=congrArg List.reverse h;simp only[List.reverse_append] at hr;rcases dec2_form e he with ⟨x,hx⟩ | ⟨y,z,hx,hy⟩<;>rcases dec2_form e' he' with ⟨x',hx'⟩ | ⟨y',z',hx',hy'⟩
 ·rw[hx,hx'] at hr;simp at hr;exact ⟨bytes_ext (by rw[hr.2]),dec2_inj e he e' he' (by rw[hx,hx',hr.1])⟩
 ·rw[hx,hx'] at hr;simp at hr;exact absurd hr.2.1.symm hy'
 ·rw[hx,hx'] at hr;simp at hr;exact absurd hr.2.1 hy
 ·rw[hx,hx'] at hr;simp at hr;exact ⟨bytes_ext (by rw[hr.2.2]),dec2_inj e he e' he' (by rw[hx,hx',hr.1,hr.2.1])⟩
def slv (l:List Sg) (pc:Option Addr×Nat):Value:=.slice pc.1 l.length pc.2
structure RfIn (w:World) (rb fb m:Nat) (v:Value) (Df:DataW Value) (ps:List (Option Addr×Nat)) (F:Nat->Prop) (W need q:Nat) (E:List (List Sg)):Prop where
 cells:w.heap[rb]?=some (.cells #[.int .i64 (W:Int),.int .i64 (need:Int),v,.map (some fb)] 55)
 plen:ps.length=E.length
 own:w.ownsRow 0 123 1 v E.length (List.zipWith slv E ps)
 rows:∀ (k:Nat) (l:List Sg) (pc:Option Addr×Nat),E[k]?=some l->ps[k]?=some pc->SgsOn w pc.1 l/\(l≠[]->∃ b o,pc.1=some ⟨b,o,none⟩/\F b/\v.ownBlock≠some b/\b≠rb)
 map:w.ownsMap prog 9 (plainElem prog 3) fb m Df
 room:m<=q
 memo:∀ (g:ByteArray) (e:Nat),e<E.length->(∀ zd:DataW Value,Df.atKey (.string (keyL g e)) zd=zd)\/(∀ zd:DataW Value,Df.atKey (.string (keyL g e)) zd = .lit (.int .i64 (whr g (epOf E) W need e)))
 fd:F rb
 fm:F fb
 fv:∀ b,v.ownBlock=some b->F b
 lim:∀ b,F b->b<w.heap.size
 good:light E=true
 ok:∀ l,l ∈ E->l.all okS=true
structure RfAt (w:World) (rb:Nat) (F:Nat->Prop) (W need q:Nat) (E:List (List Sg)):Prop where
 out:∃ (fb m:Nat) (v:Value) (Df:DataW Value) (ps:List (Option Addr×Nat)),RfIn w rb fb m v Df ps F W need q E
section
variable {w : World} {rb fb m : Nat} {v : Value} {Df : DataW Value} {ps : List (Option Addr × Nat)} {F : Nat → Prop} {W need q : Nat} {E : List (List Sg)}
theorem RfIn.c3 (d:RfIn w rb fb m v Df ps F W need q E):w.cell? ⟨rb,3,none⟩=some (.map (some fb)):=by simp[World.cell?,d.cells]
theorem RfIn.c2 (d:RfIn w rb fb m v Df ps F W need q E):w.cell? ⟨rb,2,none⟩=some v:=by simp[World.cell?,d.cells]
theorem RfIn.lt (d:RfIn w rb fb m v Df ps F W need q E):rb<w.heap.size:=d.lim _ d.fd
theorem RfIn.ne (d:RfIn w rb fb m v Df ps F W need q E):fb≠rb:=by intro e;obtain ⟨es,clock,hb,_⟩:=d.map;rw[e,d.cells] at hb;cases hb
theorem RfIn.vne (d:RfIn w rb fb m v Df ps F W need q E) {b:Nat} (hb:v.ownBlock=some b):b≠rb/\b≠fb:=by
 obtain ⟨cur,hc⟩:=own_tag d.own hb;constructor
 ·intro e;rw[e,d.cells] at hc;simp at hc
 ·intro e;obtain ⟨es,clock,hm,_⟩:=d.map;rw[e,hm] at hc;cases hc
theorem sg_block {w:World} {b o:Nat} {x:Sg} (h:SgAt w b o x):∃ c t f,w.heap[b]?=some (.cells c t f):=by
 have h0:=h.c0;unfold World.cell? at h0;simp only at h0;split at h0
 ·rename_i c t f hb;exact ⟨c,t,f,hb⟩
 ·cases h0
theorem RfIn.rne (d:RfIn w rb fb m v Df ps F W need q E) {k:Nat} {l:List Sg} {pc:Option Addr×Nat} (h1:E[k]?=some l) (h2:ps[k]?=some pc) (hl:l≠[]) {b o:Nat} (hp:pc.1=some ⟨b,o,none⟩):b≠fb:=by
 intro e;obtain ⟨b',o',hp',_,hc⟩:=(d.rows k l pc h1 h2).1.at_ hl;rw[hp] at hp';simp at hp'
 obtain ⟨x,l',rfl⟩:∃ x l',l=x::l':=by
  cases l with
  | nil=>exact absurd rfl hl
  | cons x l'=>exact ⟨x,l',rfl⟩
 obtain ⟨c,t,f,hb⟩:=sg_block (hc 0 x rfl);obtain ⟨es,clock,hm,_⟩:=d.map;rw[<- hp'.1,e,hm] at hb;cases hb
theorem RfIn.move {w':World} (d:RfIn w rb fb m v Df ps F W need q E) (hs:w.heap.size<=w'.heap.size) (hk:∀ k,k<w.heap.size->F k->w'.heap[k]?=w.heap[k]?):RfIn w' rb fb m v Df ps F W need q E where
 cells:=by rw[hk rb d.lt d.fd];exact d.cells
 plen:=d.plen
 own:=own_keep d.own (fun b hb=>hk b (own_lt d.own hb) (d.fv b hb))
 rows:=fun k l pc h1 h2=>by
  obtain ⟨r1,r2⟩:=d.rows k l pc h1 h2;refine ⟨?_,r2⟩;by_cases hl:l = []
  ·rw[hl];exact SgsOn.empty
  ·obtain ⟨b,o,hp,hF,_⟩:=r2 hl;refine r1.move hs (fun b' o' hp' hlt=>hk b' hlt ?_);rw[hp] at hp';simp at hp';rw[<- hp'.1];exact hF
 map:=map_keep d.map (hk fb (d.lim _ d.fm) d.fm)
 room:=d.room
 memo:=d.memo
 fd:=d.fd
 fm:=d.fm
 fv:=d.fv
 lim:=fun b hb=>Nat.lt_of_lt_of_le (d.lim b hb) hs
 good:=d.good
 ok:=d.ok
theorem RfAt.move {w':World} (d:RfAt w rb F W need q E) (hs:w.heap.size<=w'.heap.size) (hk:∀ k,k<w.heap.size->F k->w'.heap[k]?=w.heap[k]?):RfAt w' rb F W need q E:=by obtain ⟨fb,m,v,Df,ps,d⟩:=d.out;exact ⟨fb,m,v,Df,ps,d.move hs hk⟩
theorem RfAt.below {w':World} (d:RfAt w rb F W need q E) (hb:Below w.heap.size w w'):RfAt w' rb F W need q E:=d.move hb.size (fun k hk _=>hb.block k hk)
theorem RfAt.lim (d:RfAt w rb F W need q E) {b:Nat} (h:F b):b<w.heap.size:=by obtain ⟨fb,m,v,Df,ps,d⟩:=d.out;exact d.lim b h
theorem RfAt.good (d:RfAt w rb F W need q E):light E=true:=by obtain ⟨fb,m,v,Df,ps,d⟩:=d.out;exact d.good
theorem zip_at:∀ (E:List (List Sg)) (ps:List (Option Addr×Nat)) (k:Nat) (l:List Sg),ps.length=E.length->E[k]?=some l->∃ pc,ps[k]?=some pc/\(List.zipWith slv E ps)[k]?=some (slv l pc)
 | x::E,y::ps,0,l,_,h=>by simp at h;subst h;exact ⟨y,rfl,rfl⟩
 | x::E,y::ps,k+1,l,hl,h=>by obtain ⟨pc,h1,h2⟩:=zip_at E ps k l (by simpa using hl) (by simpa using h);exact ⟨pc,by simpa using h1,by simpa using h2⟩
 | [],_,_,_,_,h=>by simp at h
 | _ :: _,[],_,_,h,_=>by simp at h
theorem RfIn.view (d:RfIn w rb fb m v Df ps F W need q E):∃ p cap,v = .slice p E.length cap/\RfV w rb W need p cap E:=by
 have hv:∃ p cap,v = .slice p E.length cap/\EsOn w p E:=by
  by_cases hne:E = []
  ·subst hne;rcases d.own.2 with ⟨rfl,h0⟩ | ⟨g,cap,cur,hv,_⟩
   ·exact ⟨none,0,rfl,⟨fun h=>absurd rfl h⟩⟩
   ·exact ⟨_,cap,hv,⟨fun h=>absurd rfl h⟩⟩
  ·obtain ⟨g,cap,hv,h1,h2⟩:=d.own.form (List.length_pos_iff.2 hne);refine ⟨_,cap,hv,⟨fun _=>⟨g,0,rfl,h2,fun k l hl=>?_⟩⟩⟩;obtain ⟨pc,p1,p2⟩:=zip_at E ps k l d.plen hl;refine ⟨pc.1,pc.2,?_,(d.rows k l pc hl p1).1⟩;have hown:=d.own;rw[hv] at hown;have:=hown.cells (g:=g) rfl k _ p2;rw[addr_add] at this;rw[Nat.zero_add];exact this
 obtain ⟨p,cap,hv,hon⟩:=hv;refine ⟨p,cap,hv,?_,?_,?_,hon,d.lt,d.good,d.ok⟩
 ·simp[World.cell?,d.cells]
 ·simp[World.cell?,d.cells]
 ·simp[World.cell?,d.cells,hv]
theorem RfAt.view (d:RfAt w rb F W need q E):∃ p cap,RfV w rb W need p cap E:=by obtain ⟨fb,m,v,Df,ps,d⟩:=d.out;obtain ⟨p,cap,_,h⟩:=d.view;exact ⟨p,cap,h⟩
theorem newTrack_any (W need:Nat) (w:World) :
  Calls prog 39 #[.int .i64 (W:Int),.int .i64 (need:Int)] w fun e w'=>e = .returned (.pointer (some ⟨w.heap.size+1,0,none⟩))/\w'.heap.size=w.heap.size+2/\RfAt w' (w.heap.size+1) (fun b=>w.heap.size<=b/\b<w.heap.size+2) W need 0 []/\Below w.heap.size w w':=by
 have hmm:=@run_makeMap prog;have HD:Hid (RfAt ((w.alloc (.map #[] 0)).alloc (.cells #[.int .i64 (W:Int),.int .i64 (need:Int),.slice none 0 0,.map (some w.heap.size)] 55)) (w.heap.size+1) (fun b=>w.heap.size<=b/\b<w.heap.size+2) W need 0 []):=by refine ⟨w.heap.size,0,.slice none 0 0,.map [],[],?_⟩;refine ⟨?_,rfl,World.ownsRow_nil _ _ _ _,fun k l pc h=>by simp at h,(World.ownsMap_made w prog 9 _).alloc _,Nat.le_refl _,fun g e h=>by simp at h,by omega,by omega,fun b h=>by simp[Value.ownBlock] at h,fun b h=>by simp;omega,rfl,fun l h=>by simp at h⟩;have:=Go.heap_alloc_new (w.alloc (.map #[] 0)) (.cells #[.int .i64 (W:Int),.int .i64 (need:Int),.slice none 0 0,.map (some w.heap.size)] 55);simpa using this
 go_enter func39,ntmps39;go_wp2;go_ret;exact ⟨rfl,by simp,HD.out,((Below.refl _ _).alloc (Nat.le_refl _) _).alloc (by simp) _⟩
end
end TkA
namespace TkA
open Go.RowKit TkM TkW Go.Maps
theorem zero3 (w:World):(zeroValue 3).run prog w = .ok (.int .i64 0) w:=by kernel_rfl
section
variable {w : World} {rb : Nat} {F : Nat → Prop} {W need q : Nat} {E : List (List Sg)}
theorem look_hit {V:World} {fb m:Nat} {Df:DataW Value} (h:V.ownsMap prog 9 (plainElem prog 3) fb m Df) {k:ByteArray} (hk:k.size<=maxLen) {x:Int} (hx:∀ zd:DataW Value,Df.atKey (.string k.data.toList) zd = .lit (.int .i64 x)) :
  (Instr.lookup 53 (.map (some fb)) (.string k) true).run prog V = .ok (.tuple #[.int .i64 x,.bool true]) V:=by
 obtain ⟨u,ps,hrun,hR⟩:=h.look_ok law9 underlying53 (zero3 V) (plainElem_int underlying3 (by decide)) (key9 hk);rw[hx] at hR;obtain ⟨c,rfl,hc,_⟩:=plainElem_int_inv underlying3 hR;simp at hc;rw[has_true_of_atKey hx] at hrun;rw[hc.1];exact hrun
theorem look_miss {V:World} {fb m:Nat} {Df:DataW Value} (h:V.ownsMap prog 9 (plainElem prog 3) fb m Df) {k:ByteArray} (hk:k.size<=maxLen) (hx:∀ zd:DataW Value,Df.atKey (.string k.data.toList) zd=zd) :
  (Instr.lookup 53 (.map (some fb)) (.string k) true).run prog V = .ok (.tuple #[.int .i64 0,.bool false]) V:=by
 obtain ⟨u,ps,hrun,hR⟩:=h.look_ok law9 underlying53 (zero3 V) (plainElem_int underlying3 (by decide)) (key9 hk);rw[hx] at hR;obtain ⟨c,rfl,hc,_⟩:=plainElem_int_inv underlying3 hR;simp at hc;rw[has_false_of_atKey hx] at hrun;rw[hc.1];exact hrun
theorem RfIn.put {w1:World} {fb m:Nat} {v:Value} {Df:DataW Value} {ps:List (Option Addr×Nat)} {g:ByteArray} {e:Nat} (d:RfIn w rb fb m v Df ps F W need q E) (he:e<E.length) (hg:w.grownBy w1 (some fb))
  (ho:w1.ownsMap prog 9 (plainElem prog 3) fb (m+1) (Df.put (.string (keyL g e)) (.lit (.int .i64 (whr g (epOf E) W need e))))):RfIn w1 rb fb (m+1) v (Df.put (.string (keyL g e)) (.lit (.int .i64 (whr g (epOf E) W need e)))) ps F W need (q+1) E where
 cells:=by rw[hg.block rb d.lt (fun e=>d.ne (by simpa using e.symm))];exact d.cells
 plen:=d.plen
 own:=own_keep d.own (fun b hb=>hg.block b (own_lt d.own hb) (fun e=>(d.vne hb).2 (by simpa using e)))
 rows:=fun k l pc h1 h2=>by
  obtain ⟨r1,r2⟩:=d.rows k l pc h1 h2;refine ⟨?_,r2⟩;by_cases hl:l = []
  ·rw[hl];exact SgsOn.empty
  ·exact r1.move hg.size (fun b' o' hp' hlt=>hg.block b' hlt (fun e=>d.rne h1 h2 hl hp' (by simpa using e)))
 map:=ho
 room:=by have:=d.room;omega
 memo:=fun g' e' he'=>by
  have h25:=(light_iff.1 d.good).1;by_cases hk:keyL g' e'=keyL g e
  ·obtain ⟨rfl,rfl⟩:=keyL_inj (by omega) (by omega) hk;exact Or.inr (fun zd=>by rw[Maps.atKey_put_same d.map.isMap (keyStr _)])
  ·rcases d.memo g' e' he' with h | h
   ·exact Or.inl (fun zd=>by rw[Maps.atKey_put_other (fun e=>hk (by simpa using e)),h])
   ·exact Or.inr (fun zd=>by rw[Maps.atKey_put_other (fun e=>hk (by simpa using e)),h])
 fd:=d.fd
 fm:=d.fm
 fv:=d.fv
 lim:=fun b hb=>Nat.lt_of_lt_of_le (d.lim b hb) hg.size
 good:=d.good
 ok:=d.ok
theorem RfAt.more {q':Nat} (d:RfAt w rb F W need q E) (h:q<=q'):RfAt w rb F W need q' E:=by obtain ⟨fb,m,v,Df,ps,d⟩:=d.out;exact ⟨fb,m,v,Df,ps,d.cells,d.plen,d.own,d.rows,d.map,Nat.le_trans d.room h,d.memo,d.fd,d.fm,d.fv,d.lim,d.good,d.ok⟩
theorem whr_wf (g:ByteArray) (ep:Nat->List Sg) (W need e:Nat):(Lit.int .i64 (whr g ep W need e)).wf=true:=by have h:=@bst_range need (cW g ep W e) (sW g ep W e) 8;exact WalkArith.wf_i64 (n:=whr g ep W need e) (by unfold whr;omega)
theorem rat_any (g:ByteArray) (e:Nat) (d:RfAt w rb F W need q E) (he:e<E.length) (hW:W<=8) (hg:g.size<=100000) (hq:q<=10000000000) :
  Calls prog 93 #[.pointer (some ⟨rb,0,none⟩),.string g,.int .i64 (e:Int)] w fun x w'=>x = .returned (.int .i64 (whr g (epOf E) W need e))/\RfAt w' rb F W need (q+1) E/\Kp F w w':=by
 have HD:Hid (RfAt w rb F W need q E):=d;have h25:=(light_iff.1 d.good).1;have HE:Hid (e<E.length):=he;have he25:e<100:=by omega
 have HKB:Hid ((g++⟨#[64]⟩++⟨(dec2 e).toArray⟩:ByteArray).data.toList=keyL g e/\(g++⟨#[64]⟩++⟨(dec2 e).toArray⟩:ByteArray).size<=100010):=by
  have h1:(g++⟨#[64]⟩++⟨(dec2 e).toArray⟩:ByteArray).data.toList=keyL g e:=by simp[keyL]
  refine ⟨h1,?_⟩;have h2:(g++⟨#[64]⟩++⟨(dec2 e).toArray⟩:ByteArray).size=(keyL g e).length:=by rw[<- h1,Array.length_toList];rfl
  rw[h2];unfold keyL dec2;have h3:g.data.toList.length=g.size:=by simp
  split<;>simp[h3]<;>omega
 have hd2:(dec2 e).length<=2:=by unfold dec2;split<;>simp
 obtain ⟨r,hr⟩:∃ r,r=whr g (epOf E) W need e:=⟨_,rfl⟩;have HR:Hid (r=whr g (epOf E) W need e):=hr;rw[<- hr];clear d he hr;go_enter func93,ntmps93;go_wp2_with fail;refine (decimal_any e _ he25).mono ?_;rintro x w1 ⟨rfl,hb1⟩;have HB1:Hid (Below w.heap.size w w1):=hb1;clear hb1;obtain ⟨fb,m,v,Df,ps,d1⟩:=(HD.out.below HB1.out).out;have c3:=d1.c3;have HD1:Hid (RfIn w1 rb fb m v Df ps F W need q E):=d1;have hmemo:=d1.memo g e HE.out;rw[<- HKB.out.1] at hmemo;have hks:(g++⟨#[64]⟩++⟨(dec2 e).toArray⟩:ByteArray).size<=maxLen:=by have:=HKB.out.2;unfold maxLen;omega
 rcases hmemo with hm | hm
 ·have hrun:=look_miss d1.map hks hm;clear d1 hm hks;go_wp2_with fail;obtain ⟨p,cap,_,hv⟩:=HD1.out.view;have hat:=at_any g e hv HE.out hW;rw[<- HR.out] at hat;refine hat.mono ?_;clear hv hrun hat;rintro x w2 ⟨rfl,hb2⟩;have hd2:RfIn w2 rb fb m v Df ps F W need q E:=HD1.out.move hb2.size (fun k hk _=>hb2.block k hk);have HK2:Hid (Kp F w w2):=(below_kp HB1.out F).trans (below_kp hb2 F);have c3':=hd2.c3;obtain ⟨w3,hrun3,hm3,hg3⟩:=hd2.map.update (val:=.int .i64 r) (d:=.lit (.int .i64 r)) (ps:=[]) law9 underlying53 (by have:=hd2.room;unfold maxLen;omega) (key9 (g:=g++⟨#[64]⟩++⟨(dec2 e).toArray⟩) (by have:=HKB.out.2;unfold maxLen;omega)) (plainElem_int underlying3 (by rw[HR.out];exact whr_wf _ _ _ _ _));rw[HKB.out.1,HR.out] at hm3;have HF3:Hid (RfAt w3 rb F W need (q+1) E/\Kp F w w3):=⟨⟨fb,m+1,v,_,ps,hd2.put HE.out hg3 hm3⟩,HK2.out.trans (grown_kp hg3 (fun k hk=>by simp at hk;rw[<- hk];exact hd2.fm))⟩;clear hd2 hb2 hm3 hg3 HB1 HD1 c3;go_wp2;go_ret;exact ⟨rfl,HF3.out⟩
 ·rw[<- HR.out] at hm;have hrun:=look_hit d1.map hks hm;clear d1 hm hks;have HF1:Hid (RfAt w1 rb F W need (q+1) E/\Kp F w w1):=⟨(HD.out.below HB1.out).more (by omega),below_kp HB1.out F⟩;clear HB1 HD1;go_wp2;go_ret;exact ⟨rfl,HF1.out⟩
theorem rwhere_any (g:ByteArray) (e:Int) (d:RfAt w rb F W need q E) (hW:W<=8) (hg:g.size<=100000) (hq:q<=10000000000) :
  Calls prog 54 #[.pointer (some ⟨rb,0,none⟩),.string g,.int .i64 e] w fun x w'=>x = .returned (.tuple #[.int .i64 (wv E.length (told g E) e (whr g (epOf E) W need e.toNat)).1,.int .i64 ((wv E.length (told g E) e (whr g (epOf E) W need e.toNat)).2:Int)])/\RfAt w' rb F W need (q+1) E/\Kp F w w':=by
 have HD:Hid (RfAt w rb F W need q E):=d;obtain ⟨p,cap,hv⟩:=d.view;have h25:=(light_iff.1 d.good).1;have HT:Hid (Calls prog 92 #[.pointer (some ⟨rb,0,none⟩),.string g,.int .i64 (E.length:Int)] w fun e w'=>e = .returned (.bool (told g E))/\w'=w):=told_any g hv;have HA:Hid (∀ k:Nat,k<E.length->Calls prog 93 #[.pointer (some ⟨rb,0,none⟩),.string g,.int .i64 (k:Int)] w fun x w'=>x = .returned (.int .i64 (whr g (epOf E) W need k))/\RfAt w' rb F W need (q+1) E/\Kp F w w'):=fun k hk=>rat_any g k HD.out hk hW hg hq;have c2:=hv.c2;have HF0:Hid (RfAt w rb F W need (q+1) E/\Kp F w w):=⟨HD.out.more (by omega),Kp.refl _ _⟩;clear d hv;obtain ⟨N,hN⟩:∃ N,N=E.length:=⟨_,rfl⟩;rw[<- hN] at c2 HT HA h25 ⊢;clear hN;unfold wv;by_cases h0:e<0
 ·have h0d:decide (e<0)=true:=by simpa using h0
  rw[if_neg (by omega)];go_enter func54,ntmps54;go_wp2;go_ret2;exact ⟨rfl,HF0.out⟩
 ·have h0d:decide (e<0)=false:=by simpa using h0
  by_cases h1:(N:Int)<=e
  ·have h1d:decide ((N:Int)<=e)=true:=(by simpa using h1);rw[if_neg (by omega)];go_enter func54,ntmps54;go_wp2;go_ret2;exact ⟨rfl,HF0.out⟩
  ·have h1d:decide ((N:Int)<=e)=false:=(by simpa using h1);obtain ⟨k,rfl⟩:∃ k:Nat,e=(k:Int):=⟨e.toNat,by omega⟩;rw[if_pos (by omega),Int.toNat_natCast];have HAk:Hid (Calls prog 93 #[.pointer (some ⟨rb,0,none⟩),.string g,.int .i64 (k:Int)] w fun x w'=>x = .returned (.int .i64 (whr g (epOf E) W need k))/\RfAt w' rb F W need (q+1) E/\Kp F w w'):=HA.out k (by omega);clear HA;generalize whr g (epOf E) W need k=r at *;generalize told g E=t at *;cases t with
   | false=>
    rw[if_neg (by simp)];go_enter func54,ntmps54;go_wp2_with fail;refine HT.out.mono ?_;rintro x w1 ⟨rfl,hw1⟩;subst hw1;go_wp2;go_ret2;exact ⟨rfl,HF0.out⟩
   | true=>
    rw[if_pos rfl];go_enter func54,ntmps54;go_wp2_with fail;refine HT.out.mono ?_;rintro x w1 ⟨rfl,hw1⟩;subst hw1;go_wp2_with fail;refine HAk.out.mono ?_;rintro x w2 ⟨rfl,hf2⟩;have HF2:Hid (RfAt w2 rb F W need (q+1) E/\Kp F w1 w2):=hf2;clear hf2;go_wp2;go_ret2;exact ⟨rfl,HF2.out⟩
end
end TkA
namespace TkA
open Go.RowKit TkM TkW Go.Maps
theorem isA_true {n:Nat} {t:Bool} {p e v:Int} (h:isA n t p e v=true):(0<=e/\e<(n:Int))/\t=true/\0<=p/\v=p:=by
 unfold isA wv at h;simp only[Bool.and_eq_true,decide_eq_true_eq] at h;obtain ⟨⟨h1,h2⟩,h3⟩:=h;by_cases he : 0<=e/\e<(n:Int)
 ·simp only[if_pos he] at h1 h3;cases t with
  | false=>simp at h1
  | true=>simp at h3;exact ⟨he,rfl,h2,h3⟩
 ·simp only[if_neg he] at h1;cases h1
theorem isA_mk {n:Nat} {p e v:Int} (he : 0<=e/\e<(n:Int)) (hp : 0<=p):isA n true p e v=decide (v=p):=by unfold isA wv;simp[he,hp]
theorem isA_out {n:Nat} {t:Bool} {p e v:Int} (he:¬ (0<=e/\e<(n:Int))):isA n t p e v=false:=by unfold isA wv;rw[if_neg he];simp
section
variable {w : World} {rb : Nat} {F : Nat → Prop} {W need q : Nat} {E : List (List Sg)}
theorem rcomes_any (g:ByteArray) (p e:Int) (d:RfAt w rb F W need q E) (hW:W<=8) (hg:g.size<=100000) (hq:q<=9000000000) :
  Calls prog 126 #[.pointer (some ⟨rb,0,none⟩),.string g,.int .i64 p,.int .i64 e] w fun x w'=>x = .returned (.bool (comesB E.length (told g E) p e (fun e=>whr g (epOf E) W need e.toNat)))/\RfAt w' rb F W need (q+2) E/\Kp F w w':=by
 have h25:=(light_iff.1 d.good).1;have HW:Hid (Calls prog 54 #[.pointer (some ⟨rb,0,none⟩),.string g,.int .i64 e] w fun x w'=>x = .returned (.tuple #[.int .i64 (wv E.length (told g E) e (whr g (epOf E) W need e.toNat)).1,.int .i64 ((wv E.length (told g E) e (whr g (epOf E) W need e.toNat)).2:Int)])/\RfAt w' rb F W need (q+1) E/\Kp F w w'):=rwhere_any g e d hW hg (by omega);have HA:Hid (∀ (V:World) (k:Nat),RfAt V rb F W need (q+1) E->k<E.length->Calls prog 93 #[.pointer (some ⟨rb,0,none⟩),.string g,.int .i64 (k:Int)] V fun x w'=>x = .returned (.int .i64 (whr g (epOf E) W need k))/\RfAt w' rb F W need (q+2) E/\Kp F V w'):=fun V k hV hk=>rat_any g k hV hk hW hg (by omega);clear d;obtain ⟨f,hf⟩:∃ f:Int->Int,f=fun e=>whr g (epOf E) W need e.toNat:=⟨_,rfl⟩;have HF:Hid (∀ k:Nat,whr g (epOf E) W need k=f (k:Int)):=fun k=>by rw[hf];simp
 have e1:whr g (epOf E) W need e.toNat=f e:=by rw[hf]
 rw[e1] at HW;rw[<- hf];clear hf e1;cases hA:isA E.length (told g E) p e (f e) with
 | true=>
  obtain ⟨he,ht,hp,hv⟩:=isA_true hA;have hwv:wv E.length (told g E) e (f e)=(p,0):=by unfold wv;rw[if_pos he,ht,if_pos rfl,hv]
  rw[hwv] at HW;simp only at HW;have hpd:decide (p<0)=false:=by simp;omega
  have hpe:(p != p)=false:=by simp
  by_cases h0:e=0
  ·subst h0;have hr:comesB E.length (told g E) p 0 f=true:=(by unfold comesB;rw[hA,isA_out (by omega)];rfl);rw[hr];clear hr hA hwv;go_enter func126,ntmps126;go_wp2_with fail;refine HW.out.mono ?_;rintro x w1 ⟨rfl,h1,h2⟩;have HR:Hid (RfAt w1 rb F W need (q+2) E/\Kp F w w1):=⟨h1.more (by omega),h2⟩;clear h1 h2;go_wp2;go_ret;exact ⟨rfl,HR.out⟩
  ·obtain ⟨k,hk⟩:∃ k:Nat,e-1=(k:Int):=⟨(e-1).toNat,by omega⟩;have hk2:k<E.length:=(by omega);have h0d:(e == 0)=false:=(by simpa using h0);have hr:comesB E.length (told g E) p e f = !(f (k:Int) == p):=(by unfold comesB;rw[hA,ht,hk,isA_mk (by omega) hp,Bool.true_and];congr 1);have HAK:Hid (∀ (V:World),RfAt V rb F W need (q+1) E->Calls prog 93 #[.pointer (some ⟨rb,0,none⟩),.string g,.int .i64 (e-1)] V fun x w'=>x = .returned (.int .i64 (f (k:Int)))/\RfAt w' rb F W need (q+2) E/\Kp F V w'):=fun V hV=>(by rw[hk,<- HF.out k];exact HA.out V k hV hk2);rw[hr];have heI:e<=100:=(by omega);have heJ : 0<=e:=he.1;clear hr hA hwv ht hv HA HF hk hk2 he;generalize f (k:Int)=fk at *;have hbn:(fk != p) = !(fk == p):=rfl;go_enter func126,ntmps126;go_wp2_with fail;refine HW.out.mono ?_;rintro x w1 ⟨rfl,h1,h2⟩;have HR1:Hid (RfAt w1 rb F W need (q+1) E/\Kp F w w1):=⟨h1,h2⟩;clear h1 h2;go_wp2_with fail;refine (HAK.out _ HR1.out.1).mono ?_;rintro x w2 ⟨rfl,h1,h2⟩;have HR2:Hid (RfAt w2 rb F W need (q+2) E/\Kp F w w2):=⟨h1,HR1.out.2.trans h2⟩;clear h1 h2;go_wp2;go_ret;exact ⟨rfl,HR2.out⟩
 | false=>
  have hr:comesB E.length (told g E) p e f=false:=by unfold comesB;rw[hA];rfl
  rw[hr]
  have hcs : 0<(wv E.length (told g E) e (f e)).2\/((wv E.length (told g E) e (f e)).2=0/\p<0)\/((wv E.length (told g E) e (f e)).2=0/\0<=p/\(wv E.length (told g E) e (f e)).1≠p):=by
   unfold isA at hA;by_cases h1:(wv E.length (told g E) e (f e)).2=0
   ·by_cases h2 : 0<=p
    ·have h3:¬ (wv E.length (told g E) e (f e)).1=p:=fun h=>(by simp[h1,h2,h] at hA);exact Or.inr (Or.inr ⟨h1,h2,h3⟩)
    ·exact Or.inr (Or.inl ⟨h1,by omega⟩)
   ·exact Or.inl (by omega)
  clear hr hA HA HF;generalize wv E.length (told g E) e (f e)=a at *;obtain ⟨x,k⟩:=a;simp only at HW hcs;rcases hcs with h | ⟨rfl,h⟩ | ⟨rfl,h,h'⟩
  ·have hI:(0:Int)<(k:Int):=(by omega);go_enter func126,ntmps126;go_wp2_with fail;refine HW.out.mono ?_;rintro x w1 ⟨rfl,h1,h2⟩;have HR:Hid (RfAt w1 rb F W need (q+2) E/\Kp F w w1):=⟨h1.more (by omega),h2⟩;clear h1 h2;go_wp2;go_ret;exact ⟨rfl,HR.out⟩
  ·have hd:decide (p<0)=true:=(by simpa using h);go_enter func126,ntmps126;go_wp2_with fail;refine HW.out.mono ?_;rintro x w1 ⟨rfl,h1,h2⟩;have HR:Hid (RfAt w1 rb F W need (q+2) E/\Kp F w w1):=⟨h1.more (by omega),h2⟩;clear h1 h2;go_wp2;go_ret;exact ⟨rfl,HR.out⟩
  ·have hd:decide (p<0)=false:=(by simpa using h);have hd2:(x != p)=true:=(by simpa using h');clear h';go_enter func126,ntmps126;go_wp2_with fail;refine HW.out.mono ?_;rintro x w1 ⟨rfl,h1,h2⟩;have HR:Hid (RfAt w1 rb F W need (q+2) E/\Kp F w w1):=⟨h1.more (by omega),h2⟩;clear h1 h2;go_wp2;go_ret;exact ⟨rfl,HR.out⟩
end
end TkA
namespace RuN
def Back (c ws:Int->Bool) (lo hi:Int):Prop:=∃ e,lo<=e/\e<hi/\c e=true/\∀ x,e<x->x<hi->ws x=false
def Down (c ws:Int->Bool) (hi e:Int):Prop:=∀ x,e<x->x<hi->c x=false/\ws x=false
theorem down_start (c ws:Int->Bool) (hi:Int):Down c ws hi (hi-1):=fun x h1 h2=>by omega
theorem down_step {c ws:Int->Bool} {hi e:Int} (h:Down c ws hi e) (hc:c e=false) (hw:ws e=false):Down c ws hi (e-1):=fun x h1 h2=>by
 by_cases hx:x=e
 ·subst hx;exact ⟨hc,hw⟩
 ·exact h x (by omega) h2
theorem down_yes {c ws:Int->Bool} {lo hi e:Int} (h:Down c ws hi e) (h1:lo<=e) (h2:e<hi) (hc:c e=true):Back c ws lo hi:=⟨e,h1,h2,hc,fun x a b=>(h x a b).2⟩
theorem down_no {c ws:Int->Bool} {lo hi e:Int} (h:Down c ws hi e) (he:e<hi) (hc:c e=false) (hw:ws e=true):¬ Back c ws lo hi:=by
 rintro ⟨y,h1,h2,h3,h4⟩;by_cases hy:y=e
 ·subst hy;rw[hc] at h3;cases h3
 ·by_cases hy2:y<e
  ·have:=h4 e hy2 he;rw[hw] at this;cases this
  ·have:=(h y (by omega) h2).1;rw[h3] at this;cases this
theorem down_end {c ws:Int->Bool} {lo hi e:Int} (h:Down c ws hi e) (he:e<lo):¬ Back c ws lo hi:=by rintro ⟨y,h1,h2,h3,_⟩;have:=(h y (by omega) h2).1;rw[h3] at this;cases this
def Up (c ws:Int->Bool) (lo hi e:Int):Prop:=∀ y,lo<=y->y<e->¬ (c y=true/\∀ x,y<x->x<hi->ws x=false)
theorem up_start (c ws:Int->Bool) (lo hi:Int):Up c ws lo hi lo:=fun y h1 h2=>by omega
theorem up_step {c ws:Int->Bool} {lo hi e:Int} (h:Up c ws lo hi e) (hn:¬ (c e=true/\∀ x,e<x->x<hi->ws x=false)):Up c ws lo hi (e+1):=fun y h1 h2=>by
 by_cases hy:y=e
 ·subst hy;exact hn
 ·exact h y h1 (by omega)
theorem up_end {c ws:Int->Bool} {lo hi e:Int} (h:Up c ws lo hi e) (he:hi<=e):¬ Back c ws lo hi:=by rintro ⟨y,h1,h2,h3,h4⟩;exact h y h1 (by omega) ⟨h3,h4⟩
end RuN
end Go.Proofs.YtmolafjalaeoaaaGreatDoor
