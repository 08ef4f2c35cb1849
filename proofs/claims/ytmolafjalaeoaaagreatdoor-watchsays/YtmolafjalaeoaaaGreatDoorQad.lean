/-
  FrmC FrmD FrmE
-/
import Derived.Test.YtmolafjalaeoaaaGreatDoorQac
import Derived.Deep.AppendLies
import Derived.Lib.AppendStr
import Derived.Laws.BytesArg
import Derived.Deep.AppendSrc
set_option maxRecDepth 100000
set_option maxHeartbeats 8000000
namespace Go.Proofs.YtmolafjalaeoaaaGreatDoor
open Tryz
namespace FrmA
open Go.RowKit FrmM
def cellsU (l:List UInt8):List Value:=l.map fun x=>Value.int .u8 (x.toNat:Int)
theorem cellsU_len (l:List UInt8):(cellsU l).length=l.length:=by simp[cellsU]
theorem cellsU_append (l m:List UInt8):cellsU (l++m)=cellsU l++cellsU m:=by simp[cellsU]
structure BytesAt (V:World) (base:Nat) (v:Value) (l:List UInt8):Prop where
 own:V.ownsRow base 5 1 v l.length (cellsU l)
theorem BytesAt.nil (V:World) (base:Nat):BytesAt V base (.slice none 0 0) []:=⟨World.ownsRow_nil _ _ _ _⟩
theorem addr_add (g j:Nat):(⟨g,0,none⟩:Addr).add j=⟨g,j,none⟩:=by unfold Addr.add;split<;>simp_all
theorem BytesAt.form {V:World} {base:Nat} {v:Value} {l:List UInt8} (h:BytesAt V base v l) (hl:l≠[]):∃ g cap,v = .slice (some ⟨g,0,none⟩) l.length cap/\base<=g/\g<V.heap.size/\∀ j x,l[j]?=some x->V.cell? ⟨g,j,none⟩=some (.int .u8 (x.toNat:Int)):=by
 obtain ⟨g,cap,rfl,h1,h2⟩:=h.own.form (List.length_pos_iff.2 hl);refine ⟨g,cap,rfl,h1,h2,fun j x hx=>?_⟩;have:=h.own.cells (g:=g) rfl j (.int .u8 (x.toNat:Int)) (by unfold cellsU;rw[List.getElem?_map,hx];rfl)
 rwa [addr_add] at this
theorem info_parts {e:TypeId} {z:Value} {a b:Nat} (h:(prog.info? e).map (fun i=>(i.zero,i.size,i.bytes))=some (some z,a,b)):∃ i,prog.info? e=some i/\i.zero=some z/\i.size=a/\i.bytes=b:=by
 cases hi:prog.info? e with
 | none=>rw[hi] at h;cases h
 | some i=>
  rw[hi] at h;simp at h;exact ⟨i,rfl,h.1,h.2.1,h.2.2⟩
theorem info5:(prog.info? 5).map (fun i=>(i.zero,i.size,i.bytes))=some (some (.int .u8 0),1,1):=by kernel_rfl
theorem sumL_snoc (l:List UInt8) (x:UInt8):sumL (l ++ [x])=sumL l+x.toNat:=by simp[sumL]
theorem closing_any (l:List UInt8) (g cap:Nat) (w:World) (hl:l.length<=100) (hc:∀ j x,l[j]?=some x->w.cell? ⟨g,j,none⟩=some (.int .u8 (x.toNat:Int))) :
  Calls prog 144 #[.slice (some ⟨g,0,none⟩) l.length cap] w fun e w'=>e = .returned (.int .u8 ((clo l).toNat:Int))/\w'=w:=by
 obtain ⟨R,hR⟩:∃ R:Int,R=((clo l).toNat:Int):=⟨_,rfl⟩;rw[<- hR];have HR:Hid (R=((clo l).toNat:Int)):=hR;have HC:Hid (∀ j x,l[j]?=some x->w.cell? ⟨g,j,none⟩=some (.int .u8 (x.toNat:Int))):=hc;clear hR hc;obtain ⟨n,hn⟩:∃ n,n=l.length:=⟨_,rfl⟩;rw[<- hn] at hl ⊢;have HN:Hid (n=l.length):=hn;clear hn;go_enter func144,ntmps144;go_wp2;go_loopw [3,4,7] (fun s _ i V=>∃ k:Nat,k<=n/\i = .int .i64 k/\s = .int .u8 ((sumL (l.take k)%256:Nat):Int)/\V=w) (fun _ _ i _=>n-(intOf i).toNat)
 case atStart=>exact ⟨0,Nat.zero_le _,rfl,rfl,rfl⟩
 case round=>
  obtain ⟨k,hk,rfl,rfl,rfl⟩:=hrel;by_cases hlt:k<n
  ·have hkI:(k:Int)<n:=(by omega);have hk':k<l.length:=(by rw[<- HN.out];exact hlt);have c0:=HC.out k _ (List.getElem?_eq_getElem hk');have HS:Hid (sumL (l.take (k+1))=sumL (l.take k)+l[k].toNat):=(by show _ = _;rw[List.take_succ_eq_append_getElem hk',sumL_snoc]);generalize sumL (l.take k)=S at *;generalize l[k].toNat=x at *;go_wp2;go_roundw
   case rel=>refine ⟨k+1,by omega,by go_num,?_,trivial⟩;rw[HS.out];congr 1;omega
   case measure=>simp[intOf];omega
  ·obtain rfl:k=n:=(by omega);have HT:Hid (l.take k=l):=(by show _ = _;rw[HN.out,List.take_length]);go_wp2;go_ret;refine ⟨?_,rfl⟩;rw[HR.out,HT.out];show Ending.returned (.int .u8 (255-(sumL l:Int)%256)) = _;have:((clo l).toNat:Int)=255-(sumL l:Int)%256:=(by unfold clo;rw[UInt8.toNat_ofNat'];omega);rw[this]
theorem BytesAt.snoc {V:World} {base n m:Nat} {v:Value} {l:List UInt8} {ys:List Value} {r:List UInt8} (h:V.ownsRow base 5 1 v n (cellsU l++ys)) (hn:n=l.length+m) (hm:m=r.length) (hy:ys=cellsU r):BytesAt V base v (l++r):=by subst hn hm hy;exact ⟨by rw[List.length_append,cellsU_append];exact h⟩
theorem BytesAt.le {V:World} {base base':Nat} {v:Value} {l:List UInt8} (h:BytesAt V base v l) (hb:base'<=base):BytesAt V base' v l:=
 ⟨h.own.1,h.own.2.elim Or.inl (fun ⟨g,cap,cur,hv,hg,r⟩=>Or.inr ⟨g,cap,cur,hv,Nat.le_trans hb hg,r⟩)⟩
theorem bodyOf_any (f:Fr) (p:Option Addr) (cap:Nat) (w:World) (hr:ReadsOn w p f.rs) (hok:Ok f) :
  Calls prog 143 #[.agg #[.int .i64 f.ty,.slice p f.rs.length cap,.int .i64 f.wm]] w fun e w'=>∃ v,e = .returned v/\BytesAt w' w.heap.size v (body f)/\(body f = []->v = .slice none 0 0)/\Below w.heap.size w w':=by
 obtain ⟨B,hB⟩:∃ B,B=body f:=⟨_,rfl⟩;rw[<- hB];have HB:Hid (B=body f):=hB;have HR:Hid (ReadsOn w p f.rs):=hr;have HO:Hid (Ok f):=hok;clear hB hr hok;obtain ⟨T,rs,W⟩:=f;simp only at HR ⊢;obtain ⟨n,hn⟩:∃ n,n=rs.length:=⟨_,rfl⟩;have h4:n<=4:=by rw[hn];exact HO.out.len
 rw[<- hn];have HN:Hid (n=rs.length):=hn;clear hn;obtain ⟨i0,hi,hz0,hz1,hz2⟩:=info_parts info5;go_enter func143,ntmps143;go_wp2;go_loopw [3,5,9] (fun u _ i V=>∃ k:Nat,k<=n/\i = .int .i64 k/\BytesAt V (w.heap.size+1) u (encRs (rs.take k))/\(k=0->u = .slice none 0 0)/\Below (w.heap.size+1) (w.alloc (.cells #[.int .i64 T,.slice p n cap,.int .i64 W] 93)) V) (fun _ _ i _=>n-(intOf i).toNat)
 case atStart=>exact ⟨0,Nat.zero_le _,rfl,BytesAt.nil _ _,fun _=>rfl,Below.refl _ _⟩
 case round=>
  obtain ⟨k,hk,rfl,hby,hnil,hbl⟩:=hrel;by_cases hlt:k<n
  ·have hkI:(k:Int)<n:=(by omega);have hk':k<rs.length:=(by rw[<- HN.out];exact hlt);obtain ⟨b,o,rfl,hb,hc⟩:=HR.out.at_ (by intro e;rw[e] at hk';simp at hk');have hrd:=(hc k _ (List.getElem?_eq_getElem hk')).keep ((hbl.block b (by omega)).trans (Below.heap_alloc w _ b hb));have hrk:=HO.out.all _ (List.getElem_mem hk');have HE:Hid (encRs (rs.take (k+1))=encRs (rs.take k) ++ [u8 rs[k].a,u8 rs[k].s,u8 rs[k].g]++rs[k].t.data.toList):=(by show _ = _;unfold encRs;rw[List.take_succ_eq_append_getElem hk',List.flatMap_append];simp[encR]);have HL:Hid ((encRs (rs.take k)).length=11*k):=(by show _ = _;rw[encRs_len (fun r hr=>HO.out.tags r (List.mem_of_mem_take hr)),List.length_take,Nat.min_eq_left (Nat.le_of_lt hk')]);have HU:Hid (((u8 rs[k].a).toNat:Int)=rs[k].a%256/\((u8 rs[k].s).toNat:Int)=rs[k].s%256/\((u8 rs[k].g).toNat:Int)=rs[k].g%256):=⟨u8_toNat _,u8_toNat _,u8_toNat _⟩;obtain ⟨c0,c1,c2,c3⟩:=hrd;have HBL:Hid (Below (w.heap.size+1) (w.alloc (.cells #[.int .i64 T,.slice (some ⟨b,o,none⟩) n cap,.int .i64 W] 93)) wr):=hbl;have hsz:w.heap.size+1<=wr.heap.size:=(by have:=hbl.size;simpa using this);have hown:=hby.own;have h8:Hid (rs[k].t.size=8):=hrk.2.2.2;generalize rs[k]=r at *;obtain ⟨a,s,g,t⟩:=r;simp only at *;clear hby hnil hc hbl hrk hb;have hl0:(encRs (rs.take k)).length<=44:=(by rw[HL.out];omega);go_wp2_with (at_builtin;refine wpList_append_own _ rfl _ _ 157 rfl (w.heap.size+1) 5 i0 (.int .u8 0) 1 1 underlying157 hi hz0 hz1 hz2 rfl (by decide) _ _ _ rfl ((hown.alloc _).alloc _) ⟨wr.heap.size+1,0,none⟩ 3 3 [.int .u8 (a%256),.int .u8 (s%256),.int .u8 (g%256)] rfl rfl ?q1 ?q2 ?q3 ?q4 ?q5 ?_)
   case q1=>
    intro j u hj
    match j,hj with
    | 0,hj=>simp at hj;subst hj;simp[Addr.add]
    | 1,hj=>simp at hj;subst hj;simp[Addr.add]
    | 2,hj=>simp at hj;subst hj;simp[Addr.add]
   case q2=>intro u hu;simp at hu;rcases hu with rfl | rfl | rfl<;>rfl
   case q3=>unfold maxLen;omega
   case q4=>omega
   case q5=>simp;omega
   intro v1 w1 hown1 hgrow1 _;have hby1:BytesAt w1 (w.heap.size+1) v1 (encRs (rs.take k) ++ [u8 a,u8 s,u8 g]):=BytesAt.snoc (m:=3) hown1 rfl rfl (by simp[cellsU,HU.out.1,HU.out.2.1,HU.out.2.2]);have hB1:Below (w.heap.size+1) (w.alloc (.cells #[.int .i64 T,.slice (some ⟨b,o,none⟩) n cap,.int .i64 W] 93)) w1:=((HBL.out.alloc (by omega) _).alloc (by simp;omega) _).grown hgrow1 (by simp;omega) (fun k hk=>(hown.lt k hk).1);have cT:w1.cell? ⟨wr.heap.size,3,none⟩=some (.string t):=hgrow1.cell (by simp) (by intro e;have:=(hown.lt _ e.symm).2;simp at this);have HB1:Hid (Below (w.heap.size+1) (w.alloc (.cells #[.int .i64 T,.slice (some ⟨b,o,none⟩) n cap,.int .i64 W] 93)) w1):=hB1;have hsz1:w.heap.size+1<=w1.heap.size:=(by have:=hB1.size;simpa using this);have hown2:=hby1.own;have hl1:(encRs (rs.take k) ++ [u8 a,u8 s,u8 g]).length<=47:=(by rw[List.length_append];simp;omega);clear hown hown1 hgrow1 hby1 hB1 c0 c1 c2 c3;go_wp2_with (at_builtin;refine Lib.wpList_append_own_string _ rfl _ _ 157 9 rfl (w.heap.size+1) 5 i0 underlying157 underlying9 hi hz0 hz1 hz2 _ _ _ rfl hown2 t rfl ?r1 ?r2 ?r3 ?_)
   case r1=>have:=h8.out;unfold maxLen;omega
   case r2=>have:=h8.out;omega
   case r3=>omega
   intro v2 w2 hown3 hgrow2 _;have hby2:BytesAt w2 (w.heap.size+1) v2 (encRs (rs.take k) ++ [u8 a,u8 s,u8 g]++t.data.toList):=BytesAt.snoc (m:=t.size) hown3 (by simp) (by simp) rfl;have hB2:Below (w.heap.size+1) (w.alloc (.cells #[.int .i64 T,.slice (some ⟨b,o,none⟩) n cap,.int .i64 W] 93)) w2:=HB1.out.grown hgrow2 hsz1 (fun k hk=>(hown2.lt k hk).1);rw[<- HE.out] at hby2;have HBY2:Hid (BytesAt w2 (w.heap.size+1) v2 (encRs (rs.take (k+1)))):=hby2;have HB2:Hid (Below (w.heap.size+1) (w.alloc (.cells #[.int .i64 T,.slice (some ⟨b,o,none⟩) n cap,.int .i64 W] 93)) w2):=hB2;clear hown2 hown3 hgrow2 hby2 hB2 cT;go_wp2;go_roundw
   case rel=>exact ⟨k+1,by omega,by go_num,HBY2.out,fun h=>by omega,HB2.out⟩
   case measure=>simp[intOf];omega
  ·obtain rfl:k=n:=(by omega);have hT:Hid (rs.take k=rs):=(by show _ = _;rw[HN.out,List.take_length]);rw[hT.out] at hby
   have hbx0:wr.cell? ⟨w.heap.size,0,none⟩=some (.int .i64 T):=keepCell hbl (by simp) (by simp);have hbx2:wr.cell? ⟨w.heap.size,2,none⟩=some (.int .i64 W):=keepCell hbl (by simp) (by simp);have hsz:w.heap.size+1<=wr.heap.size:=(by have:=hbl.size;simpa using this);have HB0:Hid (Below w.heap.size w wr):=((Below.refl _ w).alloc (Nat.le_refl _) _).trans (hbl.mono (by omega));have HBY:Hid (BytesAt wr (w.heap.size+1) u3 (encRs rs)):=hby
   have HNIL:Hid (k=0->u3 = .slice none 0 0):=hnil;have hown:=hby.own;clear hbl hby hnil;have hl0:Hid ((encRs rs).length=11*k):=(by show _ = _;rw[encRs_len HO.out.tags,HN.out]);have HU:Hid (((u8 W).toNat:Int)=W%256):=u8_toNat _;by_cases h3:T=3
   ·subst h3;have hl1:(encRs rs).length<=44:=(by have:=hl0.out;omega);go_wp2_with (at_builtin;refine wpList_append_own _ rfl _ _ 157 rfl (w.heap.size+1) 5 i0 (.int .u8 0) 1 1 underlying157 hi hz0 hz1 hz2 rfl (by decide) _ _ _ rfl (hown.alloc _) ⟨wr.heap.size,0,none⟩ 1 1 [.int .u8 (W%256)] rfl rfl ?s1 ?s2 ?s3 ?s4 ?s5 ?_)
    case s1=>
     intro j u hj
     match j,hj with
     | 0,hj=>simp at hj;subst hj;simp[Addr.add]
    case s2=>intro u hu;simp at hu;subst hu;rfl
    case s3=>unfold maxLen;omega
    case s4=>omega
    case s5=>simp;omega
    intro v1 w1 hown1 hgrow1 _;have hby1:BytesAt w1 (w.heap.size+1) v1 (encRs rs ++ [u8 W]):=BytesAt.snoc (m:=1) hown1 rfl rfl (by simp[cellsU,HU.out]);have hB1:Below w.heap.size w w1:=(HB0.out.alloc (by omega) _).grown hgrow1 (by simp;omega) (fun k hk=>Nat.le_of_lt (hown.lt k hk).1);have HBY1:Hid (BytesAt w1 (w.heap.size+1) v1 (encRs rs ++ [u8 W])):=hby1;have HB1:Hid (Below w.heap.size w w1):=hB1;clear hown hown1 hgrow1 hby1 hB1;have HE:Hid (body ⟨3,rs,W⟩=encRs rs ++ [u8 W]):=rfl;go_wp2;go_ret;refine ⟨_,rfl,?_,?_,HB1.out⟩
    ·rw[HB.out,HE.out];exact HBY1.out.le (by omega)
    ·intro h;rw[HB.out,HE.out] at h;simp at h
   ·have hT3:(T == 3)=false:=(by simpa using h3);have HE:Hid (body ⟨T,rs,W⟩=encRs rs):=(by show _ = _;simp[body,h3]);clear hown;go_wp2;go_ret;refine ⟨_,rfl,?_,?_,HB0.out⟩
    ·rw[HB.out,HE.out];exact HBY.out.le (by omega)
    ·intro h;rw[HB.out,HE.out] at h;have:=hl0.out;rw[h] at this;exact HNIL.out (by simp at this;omega)
end FrmA
namespace FrmA
open Go.RowKit FrmM
def str (l:List UInt8):ByteArray:=⟨l.toArray⟩
theorem str_size (l:List UInt8):(str l).size=l.length:=by simp[str,ByteArray.size]
theorem str_list (l:List UInt8):(str l).data.toList=l:=rfl
def bytesV (f:Fr):ByteArray:=if fault f=0 then str (enc f) else ⟨#[]⟩
theorem ReadsOn.alloc {w:World} {p:Option Addr} {rs:List Rd} (h:ReadsOn w p rs) (o:Obj):ReadsOn (w.alloc o) p rs:=h.below ((Below.refl _ w).alloc (Nat.le_refl _) o) (Nat.le_refl _)
theorem bytes_bad (f:Fr) (p:Option Addr) (cap:Nat) (w:World) (hr:ReadsOn w p f.rs) (hf:fault f≠0) :
  Calls prog 120 #[.agg #[.int .i64 f.ty,.slice p f.rs.length cap,.int .i64 f.wm]] w fun e w'=>e = .returned (.tuple #[.string ⟨#[]⟩,errV (fault f)])/\Below w.heap.size w w':=by
 have he:=errV_pos hf;have HR:Hid (ReadsOn w p f.rs):=hr;clear hr hf;go_enter func120,ntmps120;go_wp2_with fail;refine (check_any f p cap _ (HR.out.alloc _)).mono ?_;rintro e w1 ⟨rfl,hb1⟩;have HB:Hid (Below w.heap.size w w1):=((Below.refl _ w).alloc (Nat.le_refl _) _).trans (hb1.mono (by simp));rw[he];clear hb1;go_wp2;go_ret2;exact ⟨by rw[he];rfl,HB.out⟩
theorem getD_cells {l:List UInt8} {i:Nat} (h:i<l.length):(l.map fun x=>(x.toNat:Int)).getD i 0=(l[i].toNat:Int):=by rw[List.getD_eq_getElem?_getD,List.getElem?_map,List.getElem?_eq_getElem h];rfl
theorem strOfNums_str (l:List UInt8):strOfNums (l.map fun x=>(x.toNat:Int))=str l:=by
 unfold strOfNums str;congr 2;rw[List.map_map]
 conv=>rhs;rw[<- List.map_id l]
 apply List.map_congr_left;intro x _;simp
theorem conv_bytes {V:World} {l:List UInt8} {g cap n:Nat} (hn:n=l.length) (hc:∀ j x,l[j]?=some x->V.cell? ⟨g,j,none⟩=some (.int .u8 (x.toNat:Int))) :
  (convert 157 9 (.slice (some ⟨g,0,none⟩) n cap)).run prog V = .ok (.string (str l)) V:=by
 subst hn;rw[<- strOfNums_str];exact run_convert_bytes_arg (P:=prog) V 157 5 underlying157 underlying5 g 0 l.length cap _ (by simp) (fun i hi=>by rw[Nat.zero_add,getD_cells hi];exact hc i _ (List.getElem?_eq_getElem hi)) 9 underlying9
theorem own_lit (w:World) (l:List UInt8) (base n:Nat) (hb:base<=w.heap.size) (hl:l.length<=100) (hn:n=l.length) (cur:Array Value) (hc:cur.toList=cellsU l):BytesAt (w.alloc (.cells cur 5)) base (.slice (some ⟨w.heap.size,0,none⟩) n n) l:=by
 subst hn;refine ⟨by rw[cellsU_len];omega,.inr ⟨w.heap.size,l.length,cur,rfl,hb,Go.heap_alloc_new w _,Nat.le_refl _,by unfold maxLen;omega,?_,?_⟩⟩
 ·rw[<- Array.length_toList,hc,cellsU_len];omega
 ·rw[hc,List.take_of_length_le];rw[cellsU_len];omega
theorem bytes_ok (f:Fr) (p:Option Addr) (cap:Nat) (w:World) (hr:ReadsOn w p f.rs) (hok:Ok f) :
  Calls prog 120 #[.agg #[.int .i64 f.ty,.slice p f.rs.length cap,.int .i64 f.wm]] w fun e w'=>e = .returned (.tuple #[.string (str (enc f)),.nilIface])/\Below w.heap.size w w':=by
 have he:errV (fault f) = .nilIface:=by rw[fault_zero.2 hok];rfl
 have HR:Hid (ReadsOn w p f.rs):=hr;have HO:Hid (Ok f):=hok;have hbl:(body f).length<=44:=body_le hok;clear hr hok;obtain ⟨i0,hi,hz0,hz1,hz2⟩:=info_parts info5;go_enter func120,ntmps120;go_wp2_with fail;refine (check_any f p cap _ (HR.out.alloc _)).mono ?_;rintro e w1 ⟨rfl,hb1⟩;rw[he];clear he;have c0:w1.cell? ⟨w.heap.size,0,none⟩=some (.int .i64 f.ty):=keepCell hb1 (by simp) (by simp);have c1:w1.cell? ⟨w.heap.size,1,none⟩=some (.slice p f.rs.length cap):=keepCell hb1 (by simp) (by simp);have c2:w1.cell? ⟨w.heap.size,2,none⟩=some (.int .i64 f.wm):=keepCell hb1 (by simp) (by simp);have HR1:Hid (ReadsOn w1 p f.rs):=(HR.out.alloc _).below hb1 (Nat.le_refl _);have HB1:Hid (Below w.heap.size w w1):=((Below.refl _ w).alloc (Nat.le_refl _) _).trans (hb1.mono (by simp));have hs1:w.heap.size<w1.heap.size:=by have:=hb1.size;simp at this;omega
 clear hb1;go_wp2_with fail;refine (bodyOf_any f p cap _ HR1.out HO.out).mono ?_;rintro e w2 ⟨v,rfl,hby,hnil,hb2⟩;have d0:w2.cell? ⟨w.heap.size,0,none⟩=some (.int .i64 f.ty):=keepCell hb2 hs1 c0;have HB2:Hid (Below w.heap.size w w2):=HB1.out.trans (hb2.mono (by omega));have hs2:w1.heap.size<=w2.heap.size:=hb2.size;have hHd:Hid (head f = [165,u8 (body f).length,u8 f.ty]++body f):=rfl;have hU:Hid ((((u8 (body f).length).toNat:Int)=(body f).length)/\(((u8 f.ty).toNat:Int)=f.ty%256)):=⟨u8_small (by omega) (by omega),u8_toNat _⟩;clear c0 c1 c2 hb2
 have hvl:∃ a c,v = .slice a (body f).length c:=by
  rcases hby.own.2 with ⟨h,h0⟩ | ⟨g,cp,cur,h,_⟩
  ·rw[h,h0];exact ⟨none,0,rfl⟩
  ·exact ⟨_,_,h⟩
 obtain ⟨va,vc,rfl⟩:=hvl;by_cases hb0:body f = []
 case pos=>
  obtain ⟨rfl,rfl⟩:va=none/\vc=0:=by have:=hnil hb0;simp at this;exact ⟨this.1,this.2.2⟩
  have hl0:(body f).length=0:=by rw[hb0];rfl
  rw[hl0];clear hby hnil
  have hby:BytesAt (w2.alloc (.cells #[.int .u8 165,.int .u8 0,.int .u8 (f.ty%256)] 5)) w2.heap.size (.slice (some ⟨w2.heap.size,0,none⟩) 3 3) [165,u8 0,u8 f.ty]:=
   own_lit w2 _ _ 3 (Nat.le_refl _) (by simp) rfl _ (by simp[cellsU,hU.out.2];rfl)
  have hEnc:Hid (enc f = [165,u8 0,u8 f.ty] ++ [clo [165,u8 0,u8 f.ty]]):=by show _ = _;unfold enc;rw[hHd.out,hb0];rfl
  have hown:=hby.own;go_wp2_with fail;refine (closing_any [165,u8 0,u8 f.ty] w2.heap.size 3 _ (by simp) ?_).mono ?_
  ·intro j x hx;have:=hown.cells (g:=w2.heap.size) rfl j (.int .u8 (x.toNat:Int)) (by unfold cellsU;rw[List.getElem?_map,hx];rfl)
   rwa [addr_add] at this
  rintro e w4 ⟨rfl,rfl⟩;generalize clo [165,u8 0,u8 f.ty]=c at *;go_wp2_with (at_builtin;refine wpList_append_own _ rfl _ _ 157 rfl w2.heap.size 5 i0 (.int .u8 0) 1 1 underlying157 hi hz0 hz1 hz2 rfl (by decide) _ _ _ rfl (hown.alloc _) ⟨w2.heap.size+1,0,none⟩ 1 1 [.int .u8 (c.toNat:Int)] rfl rfl ?q1 ?q2 ?q3 ?q4 ?q5 ?_)
  case q1=>
   intro j u hj
   match j,hj with
   | 0,hj=>simp at hj;subst hj;simp[Addr.add]
  case q2=>intro u hu;simp at hu;subst hu;rfl
  case q3=>unfold maxLen;simp
  case q4=>simp
  case q5=>simp;omega
  intro v5 w5 hown5 hgrow5 _;have hby5:BytesAt w5 w2.heap.size v5 ([165,u8 0,u8 f.ty] ++ [c]):=BytesAt.snoc (m:=1) hown5 rfl rfl rfl;have hB5:Below w.heap.size w w5:=((HB2.out.alloc (by omega) _).alloc (by simp;omega) _).grown hgrow5 (by simp;omega) (fun k hk=>by have:=(hown.lt k hk).1;omega);rw[<- hEnc.out] at hby5;obtain ⟨g5,c5,rfl,_,_,hc5⟩:=hby5.form (by rw[hEnc.out];simp);have hcv:=conv_bytes (cap:=c5) rfl hc5;have HB5:Hid (Below w.heap.size w w5):=hB5;clear hown hown5 hgrow5 hby hby5 hB5 hc5;go_wp2;go_ret2;exact ⟨rfl,HB5.out⟩
 case neg=>
  obtain ⟨g,vc',hv,hg1,hg2,hcg⟩:=hby.form hb0;obtain ⟨rfl,rfl⟩:va=some ⟨g,0,none⟩/\vc=vc':=by simp at hv;exact ⟨hv.1,hv.2⟩
  clear hv hnil hby
  have hby:BytesAt (w2.alloc (.cells #[.int .u8 165,.int .u8 (body f).length,.int .u8 (f.ty%256)] 5)) w2.heap.size (.slice (some ⟨w2.heap.size,0,none⟩) 3 3) [165,u8 (body f).length,u8 f.ty]:=
   own_lit w2 _ _ 3 (Nat.le_refl _) (by simp) rfl _ (by simp[cellsU,hU.out.2,hU.out.1])
  have hown:=hby.own;have hBL:Hid (cellsU (body f)=cellsU (body f)):=rfl;have hlen:(cellsU (body f)).length=(body f).length*1:=by rw[cellsU_len];omega
  have hcg':∀ j u,(cellsU (body f))[j]?=some u->(w2.alloc (.cells #[.int .u8 165,.int .u8 (body f).length,.int .u8 (f.ty%256)] 5)).cell? ((⟨g,0,none⟩:Addr).add j)=some u:=by
   intro j u hj;rw[addr_add];unfold cellsU at hj;rw[List.getElem?_map] at hj;cases hx:(body f)[j]? with
   | none=>rw[hx] at hj;cases hj
   | some x=>
    rw[hx] at hj;simp at hj;subst hj;rw[World.cell?_of_block (w:=w2) (Below.heap_alloc w2 _ g hg2)];exact hcg j x hx
  have HC:Hid (∀ j u,(cellsU (body f))[j]?=some u->(w2.alloc (.cells #[.int .u8 165,.int .u8 (body f).length,.int .u8 (f.ty%256)] 5)).cell? ((⟨g,0,none⟩:Addr).add j)=some u):=hcg';have HLE:Hid ((cellsU (body f)).length=(body f).length*1):=hlen;have HONE:Hid (∀ u ∈ cellsU (body f),u.oneCell'=true):=by intro u hu;obtain ⟨x,_,rfl⟩:=List.mem_map.1 hu;rfl
  clear hcg' hcg hlen;go_wp2_with (at_builtin;refine wpList_append_own _ rfl _ _ 157 rfl w2.heap.size 5 i0 (.int .u8 0) 1 1 underlying157 hi hz0 hz1 hz2 rfl (by decide) _ _ _ rfl hown ⟨g,0,none⟩ (body f).length vc (cellsU (body f)) rfl HLE.out HC.out HONE.out ?q3 ?q4 ?q5 ?_)
  case q3=>unfold maxLen;simp;omega
  case q4=>simp;omega
  case q5=>simp
  intro v3 w3 hown3 hgrow3 _;have hby3:BytesAt w3 w2.heap.size v3 (head f):=by rw[hHd.out];exact BytesAt.snoc (m:=(body f).length) hown3 rfl rfl rfl
  have hB3:Below w.heap.size w w3:=(HB2.out.alloc (by omega) _).grown hgrow3 (by simp;omega) (fun k hk=>by have:=(hown.lt k hk).1;omega);have HB3:Hid (Below w.heap.size w w3):=hB3;have hs3:w2.heap.size<=w3.heap.size:=by have:=hgrow3.size;simp at this;omega
  have hhl:Hid ((head f).length=3+(body f).length):=by show _ = _;rw[hHd.out];simp;omega
  have hh0:Hid (head f≠[]):=by show _≠_;rw[hHd.out];simp
  obtain ⟨g3,c3,rfl,_,_,hc3⟩:=hby3.form hh0.out;have HC3:Hid (∀ j x,(head f)[j]?=some x->w3.cell? ⟨g3,j,none⟩=some (.int .u8 (x.toNat:Int))):=hc3;have hown4:=hby3.own;clear hc3 hby3 hown hown3 hgrow3 hB3 hby
  go_wp2_with fail;refine (closing_any (head f) g3 c3 _ (by have:=hhl.out;omega) HC3.out).mono ?_;rintro e w4 ⟨rfl,rfl⟩;have hEnc:Hid (enc f=head f ++ [clo (head f)]):=rfl;generalize clo (head f)=c at *;go_wp2_with (at_builtin;refine wpList_append_own _ rfl _ _ 157 rfl w2.heap.size 5 i0 (.int .u8 0) 1 1 underlying157 hi hz0 hz1 hz2 rfl (by decide) _ _ _ rfl (hown4.alloc _) ⟨w4.heap.size,0,none⟩ 1 1 [.int .u8 (c.toNat:Int)] rfl rfl ?r1 ?r2 ?r3 ?r4 ?r5 ?_)
  case r1=>
   intro j u hj
   match j,hj with
   | 0,hj=>simp at hj;subst hj;simp[Addr.add]
  case r2=>intro u hu;simp at hu;subst hu;rfl
  case r3=>have:=hhl.out;unfold maxLen;omega
  case r4=>have:=hhl.out;omega
  case r5=>simp;omega
  intro v5 w5 hown5 hgrow5 _;have hby5:BytesAt w5 w2.heap.size v5 (head f ++ [c]):=BytesAt.snoc (m:=1) hown5 rfl rfl rfl;have hB5:Below w.heap.size w w5:=(HB3.out.alloc (by omega) _).grown hgrow5 (by simp;omega) (fun k hk=>by have:=(hown4.lt k hk).1;omega);rw[<- hEnc.out] at hby5;obtain ⟨g5,c5,rfl,_,_,hc5⟩:=hby5.form (by rw[hEnc.out];simp);have hcv:=conv_bytes (cap:=c5) rfl hc5;have HB5:Hid (Below w.heap.size w w5):=hB5;clear hown4 hown5 hgrow5 hby5 hB5 hc5;go_wp2;go_ret2;exact ⟨rfl,HB5.out⟩
theorem bytes_any (f:Fr) (p:Option Addr) (cap:Nat) (w:World) (hr:ReadsOn w p f.rs) :
  Calls prog 120 #[.agg #[.int .i64 f.ty,.slice p f.rs.length cap,.int .i64 f.wm]] w fun e w'=>e = .returned (.tuple #[.string (bytesV f),errV (fault f)])/\Below w.heap.size w w':=by
 by_cases hf:fault f=0
 ·have e1:bytesV f=str (enc f):=by unfold bytesV;rw[if_pos hf]
  have e2:errV (fault f) = .nilIface:=by rw[hf];rfl
  rw[e1,e2];exact bytes_ok f p cap w hr (fault_zero.1 hf)
 ·have e1:bytesV f=⟨#[]⟩:=by unfold bytesV;rw[if_neg hf]
  rw[e1];exact bytes_bad f p cap w hr hf
end FrmA
namespace FrmA
open Go.RowKit FrmM
theorem btw_no {n lo hi:Int} (h:btw n lo hi=false):decide (n<lo)=true\/(decide (n<lo)=false/\decide (hi<n)=true):=by
 by_cases h1:n<lo
 ·exact Or.inl (by simpa using h1)
 ·refine Or.inr ⟨by simpa using h1,?_⟩;have:¬ (lo<=n/\n<=hi):=fun h2=>by rw[btw_true.2 h2] at h;cases h
  simp;omega
theorem btw_yes {n lo hi:Int} (h:btw n lo hi=true):decide (n<lo)=false/\decide (hi<n)=false:=by have:=btw_true.1 h;simp;omega
theorem ff_ty (T W:Int) (n:Nat) (p:Option Addr) (cap:Nat) (w:World) (h:btw T 1 3=false) :
  Calls prog 124 #[.agg #[.int .i64 T,.slice p n cap,.int .i64 W]] w fun e w'=>e = .returned (.int .i64 1)/\Below w.heap.size w w':=by
 rcases btw_no h with h1 | ⟨h1,h2⟩
 ·clear h;go_enter func124,ntmps124;go_wp2;go_ret;exact ⟨rfl,(Below.refl _ _).alloc (Nat.le_refl _) _⟩
 ·clear h;go_enter func124,ntmps124;go_wp2;go_ret;exact ⟨rfl,(Below.refl _ _).alloc (Nat.le_refl _) _⟩
theorem ff_shape1 (W:Int) (n:Nat) (p:Option Addr) (cap:Nat) (w:World) (h:W≠0) :
  Calls prog 124 #[.agg #[.int .i64 1,.slice p n cap,.int .i64 W]] w fun e w'=>e = .returned (.int .i64 3)/\Below w.heap.size w w':=by
 have hW:(W == 0)=false:=by simpa using h
 go_enter func124,ntmps124;go_wp2;go_ret;exact ⟨rfl,(Below.refl _ _).alloc (Nat.le_refl _) _⟩
theorem ff_shape2 (W:Int) (p:Option Addr) (cap:Nat) (w:World) (h:W≠0) :
  Calls prog 124 #[.agg #[.int .i64 2,.slice p 0 cap,.int .i64 W]] w fun e w'=>e = .returned (.int .i64 3)/\Below w.heap.size w w':=by
 have hW:(W == 0)=false:=by simpa using h
 go_enter func124,ntmps124;go_wp2;go_ret;exact ⟨rfl,(Below.refl _ _).alloc (Nat.le_refl _) _⟩
theorem ff_shapeN (T W:Int) (n:Nat) (p:Option Addr) (cap:Nat) (w:World) (h:T=2\/T=3) (hn : 0<n) :
  Calls prog 124 #[.agg #[.int .i64 T,.slice p n cap,.int .i64 W]] w fun e w'=>e = .returned (.int .i64 3)/\Below w.heap.size w w':=by
 have hI:decide ((0:Int)<n)=true:=by simp;omega
 rcases h with rfl | rfl
 ·go_enter func124,ntmps124;go_wp2;go_ret;exact ⟨rfl,(Below.refl _ _).alloc (Nat.le_refl _) _⟩
 ·go_enter func124,ntmps124;go_wp2;go_ret;exact ⟨rfl,(Below.refl _ _).alloc (Nat.le_refl _) _⟩
theorem ff_warm (W:Int) (p:Option Addr) (cap:Nat) (w:World) (h:btw W 0 255=false) :
  Calls prog 124 #[.agg #[.int .i64 3,.slice p 0 cap,.int .i64 W]] w fun e w'=>e = .returned (.int .i64 1)/\Below w.heap.size w w':=by
 rcases btw_no h with h1 | ⟨h1,h2⟩
 ·clear h;go_enter func124,ntmps124;go_wp2;go_ret;exact ⟨rfl,(Below.refl _ _).alloc (Nat.le_refl _) _⟩
 ·clear h;go_enter func124,ntmps124;go_wp2;go_ret;exact ⟨rfl,(Below.refl _ _).alloc (Nat.le_refl _) _⟩
theorem ff_many (n:Nat) (p:Option Addr) (cap:Nat) (w:World) (h : 4<n) :
  Calls prog 124 #[.agg #[.int .i64 1,.slice p n cap,.int .i64 0]] w fun e w'=>e = .returned (.int .i64 2)/\Below w.heap.size w w':=by
 have hI:(4:Int)<n:=by omega
 go_enter func124,ntmps124;go_wp2;go_ret;exact ⟨rfl,(Below.refl _ _).alloc (Nat.le_refl _) _⟩
theorem ff_none2 (p:Option Addr) (cap:Nat) (w:World) :
  Calls prog 124 #[.agg #[.int .i64 2,.slice p 0 cap,.int .i64 0]] w fun e w'=>e = .returned (.int .i64 0)/\Below w.heap.size w w':=by
 go_enter func124,ntmps124;go_wp2;go_loopw [3,4] (fun i _ V=>i = .int .i64 0/\V=w.alloc (.cells #[.int .i64 2,.slice p 0 cap,.int .i64 0] 93)) (fun _ _ _=>0)
 case atStart=>exact ⟨rfl,rfl⟩
 case round=>obtain ⟨rfl,rfl⟩:=hrel;go_wp2;go_ret;exact ⟨rfl,(Below.refl _ _).alloc (Nat.le_refl _) _⟩
theorem ff_none3 (W:Int) (p:Option Addr) (cap:Nat) (w:World) (h:btw W 0 255=true) :
  Calls prog 124 #[.agg #[.int .i64 3,.slice p 0 cap,.int .i64 W]] w fun e w'=>e = .returned (.int .i64 0)/\Below w.heap.size w w':=by
 obtain ⟨h1,h2⟩:=btw_yes h;clear h;go_enter func124,ntmps124;go_wp2;go_loopw [3,4] (fun i _ V=>i = .int .i64 0/\V=w.alloc (.cells #[.int .i64 3,.slice p 0 cap,.int .i64 W] 93)) (fun _ _ _=>0)
 case atStart=>exact ⟨rfl,rfl⟩
 case round=>obtain ⟨rfl,rfl⟩:=hrel;go_wp2;go_ret;exact ⟨rfl,(Below.refl _ _).alloc (Nat.le_refl _) _⟩
def RdBad (r:Rd):Prop:=
 decide (r.a<0)=true
 \/ (decide (r.a<0)=false/\decide (3<r.a)=true)
 \/ (decide (r.a<0)=false/\decide (3<r.a)=false/\decide (r.s<0)=true)
 \/ (decide (r.a<0)=false/\decide (3<r.a)=false/\decide (r.s<0)=false/\decide (255<r.s)=true)
 \/ (decide (r.a<0)=false/\decide (3<r.a)=false/\decide (r.s<0)=false/\decide (255<r.s)=false/\decide (r.g<0)=true)
 \/ (decide (r.a<0)=false/\decide (3<r.a)=false/\decide (r.s<0)=false/\decide (255<r.s)=false/\decide (r.g<0)=false/\decide (255<r.g)=true)
 \/ (decide (r.a<0)=false/\decide (3<r.a)=false/\decide (r.s<0)=false/\decide (255<r.s)=false/\decide (r.g<0)=false/\decide (255<r.g)=false/\((r.t.size:Int) != 8)=true)
theorem rdBad {r:Rd} (h:rdOk r=false):RdBad r:=by
 cases h1:btw r.a 0 3 with
 | false=>
  rcases btw_no h1 with h | ⟨h,h'⟩
  ·exact Or.inl h
  ·exact Or.inr (Or.inl ⟨h,h'⟩)
 | true=>
  obtain ⟨a0,a1⟩:=btw_yes h1;cases h2:btw r.s 0 255 with
  | false=>
   rcases btw_no h2 with h | ⟨h,h'⟩
   ·exact Or.inr (Or.inr (Or.inl ⟨a0,a1,h⟩))
   ·exact Or.inr (Or.inr (Or.inr (Or.inl ⟨a0,a1,h,h'⟩)))
  | true=>
   obtain ⟨s0,s1⟩:=btw_yes h2;cases h3:btw r.g 0 255 with
   | false=>
    rcases btw_no h3 with h | ⟨h,h'⟩
    ·exact Or.inr (Or.inr (Or.inr (Or.inr (Or.inl ⟨a0,a1,s0,s1,h⟩))))
    ·exact Or.inr (Or.inr (Or.inr (Or.inr (Or.inr (Or.inl ⟨a0,a1,s0,s1,h,h'⟩)))))
   | true=>
    obtain ⟨g0,g1⟩:=btw_yes h3;refine Or.inr (Or.inr (Or.inr (Or.inr (Or.inr (Or.inr ⟨a0,a1,s0,s1,g0,g1,?_⟩)))));simp[rdOk,h1,h2,h3] at h;simp;omega
theorem rdGood {r:Rd} (h:rdOk r=true):decide (r.a<0)=false/\decide (3<r.a)=false/\decide (r.s<0)=false/\decide (255<r.s)=false/\decide (r.g<0)=false/\decide (255<r.g)=false/\((r.t.size:Int) == 8)=true:=by have:=rdOk_true.1 h;simp;omega
theorem ff_reads (rs:List Rd) (p:Option Addr) (cap:Nat) (w:World) (h:rs.length<=4) (hr:ReadsOn w p rs) :
  Calls prog 124 #[.agg #[.int .i64 1,.slice p rs.length cap,.int .i64 0]] w fun e w'=>e = .returned (.int .i64 ((if rs.all rdOk=true then 0 else 1:Nat):Int))/\Below w.heap.size w w':=by
 have HR:Hid (ReadsOn w p rs):=hr;clear hr;obtain ⟨R,hR⟩:∃ R:Int,R=((if rs.all rdOk=true then 0 else 1:Nat):Int):=⟨_,rfl⟩;have HRR:Hid (R=((if rs.all rdOk=true then 0 else 1:Nat):Int)):=hR;rw[<- hR];clear hR;obtain ⟨n,hn⟩:∃ n,n=rs.length:=⟨_,rfl⟩;rw[<- hn] at h ⊢;have HN:Hid (n=rs.length):=hn;have hI:¬ (4:Int)<n:=by omega
 clear hn;go_enter func124,ntmps124;go_wp2;go_loopw [3,4] (fun i _ V=>∃ k:Nat,k<=n/\i = .int .i64 k/\Below (w.heap.size+1) (w.alloc (.cells #[.int .i64 1,.slice p n cap,.int .i64 0] 93)) V/\(rs.take k).all rdOk=true) (fun i _ _=>n-(intOf i).toNat)
 case atStart=>exact ⟨0,Nat.zero_le _,rfl,Below.refl _ _,rfl⟩
 case round=>
  obtain ⟨k,hk,rfl,hbl,hall⟩:=hrel;have bx1:wr.cell? ⟨w.heap.size,1,none⟩=some (.slice p n cap):=keepCell hbl (by simp) (by simp);by_cases hlt:k<n
  ·have hkI:(k:Int)<n:=(by omega);have hk':k<rs.length:=(by rw[<- HN.out];exact hlt);obtain ⟨b,o,rfl,hb,hc⟩:=HR.out.at_ (by intro e;rw[e] at hk';simp at hk');have hrd:=(hc k _ (List.getElem?_eq_getElem hk')).keep ((hbl.block b (by omega)).trans (Below.heap_alloc w _ b hb));obtain ⟨c0,c1,c2,c3⟩:=hrd;have HB:Hid (Below w.heap.size w wr):=((Below.refl _ w).alloc (Nat.le_refl _) _).trans (hbl.mono (by omega));have HBL:Hid (Below (w.heap.size+1) (w.alloc (.cells #[.int .i64 1,.slice (some ⟨b,o,none⟩) n cap,.int .i64 0] 93)) wr):=hbl;have hsz:w.heap.size+1<=wr.heap.size:=(by have:=hbl.size;simpa using this);have HA:Hid ((rs.take k).all rdOk=true):=hall;have HK:Hid (rs.take (k+1)=rs.take k ++ [rs[k]]):=List.take_succ_eq_append_getElem hk';have HD:Hid (rs.all rdOk=true->rdOk rs[k]=true):=fun h=>List.all_eq_true.1 h _ (List.getElem_mem hk');clear hbl hc hall hb;cases hok:rdOk rs[k]
   ·have hR1:R=1:=(by rw[HRR.out,if_neg (fun h=>by have:=HD.out h;rw[hok] at this;cases this)];rfl);subst hR1;have hbad:=rdBad hok;have hfin:Below w.heap.size w (wr.alloc (.cells #[.int .i64 rs[k].a,.int .i64 rs[k].s,.int .i64 rs[k].g,.string rs[k].t] 90)):=HB.out.alloc (by omega) _;have HF:Hid (Below w.heap.size w (wr.alloc (.cells #[.int .i64 rs[k].a,.int .i64 rs[k].s,.int .i64 rs[k].g,.string rs[k].t] 90))):=hfin;clear hok hfin HD HK;generalize rs[k]=r at *;obtain ⟨a,s,g,t⟩:=r;simp only at *;rcases hbad with h0 | ⟨h0,h1⟩ | ⟨h0,h1,h2⟩ | ⟨h0,h1,h2,h3⟩ | ⟨h0,h1,h2,h3,h4⟩ | ⟨h0,h1,h2,h3,h4,h5⟩ | ⟨h0,h1,h2,h3,h4,h5,h6⟩
    all_goals (go_wp2;go_ret;exact ⟨rfl,HF.out⟩)
   ·obtain ⟨h0,h1,h2,h3,h4,h5,h6⟩:=rdGood hok;have HOK:Hid (rdOk rs[k]=true):=hok;clear hok;generalize rs[k]=r at *;obtain ⟨a,s,g,t⟩:=r;simp only at *;go_wp2;go_roundw
    case rel=>refine ⟨k+1,by omega,by go_num,HBL.out.alloc (by omega) _,?_⟩;rw[HK.out,List.all_append,HA.out];simp[HOK.out]
    case measure=>simp[intOf];omega
  ·obtain rfl:k=n:=(by omega);have HA:Hid ((rs.take k).all rdOk=true):=hall;have HB:Hid (Below w.heap.size w wr):=((Below.refl _ w).alloc (Nat.le_refl _) _).trans (hbl.mono (by omega));clear hbl hall;go_wp2;go_ret;refine ⟨?_,HB.out⟩;have:=HA.out;rw[HN.out,List.take_length] at this;rw[HRR.out,if_pos this];rfl
theorem ff_any (f:Fr) (p:Option Addr) (cap:Nat) (w:World) (hr:ReadsOn w p f.rs) :
  Calls prog 124 #[.agg #[.int .i64 f.ty,.slice p f.rs.length cap,.int .i64 f.wm]] w fun e w'=>e = .returned (.int .i64 (fault f:Int))/\Below w.heap.size w w':=by
 obtain ⟨T,rs,W⟩:=f;simp only at hr ⊢;unfold fault;simp only;cases h1:btw T 1 3 with
 | false=>
  rw[if_pos rfl];exact ff_ty T W rs.length p cap w h1
 | true=>
  rw[if_neg (by simp)];have h1':=btw_true.1 h1;rcases (show T=1\/T=2\/T=3 by omega) with rfl | rfl | rfl
  ·by_cases hW:W=0
   ·subst hW;rw[if_neg (by simp),if_neg (by decide)];by_cases h4 : 4<rs.length
    ·rw[if_pos h4];exact ff_many rs.length p cap w h4
    ·rw[if_neg h4];exact ff_reads rs p cap w (by omega) hr
   ·rw[if_pos (Or.inr ⟨by decide,hW⟩)];exact ff_shape1 W rs.length p cap w hW
  ·by_cases hn : 0<rs.length
   ·rw[if_pos (Or.inl ⟨by decide,hn⟩)];exact ff_shapeN 2 W rs.length p cap w (Or.inl rfl) hn
   ·obtain rfl:rs = []:=List.length_eq_zero_iff.1 (by omega);by_cases hW:W=0
    ·subst hW;rw[if_neg (by simp),if_neg (by decide),if_neg (by simp),if_pos List.all_nil];exact ff_none2 p cap w
    ·rw[if_pos (Or.inr ⟨by decide,hW⟩)];exact ff_shape2 W p cap w hW
  ·by_cases hn : 0<rs.length
   ·rw[if_pos (Or.inl ⟨by decide,hn⟩)];exact ff_shapeN 3 W rs.length p cap w (Or.inr rfl) hn
   ·obtain rfl:rs = []:=List.length_eq_zero_iff.1 (by omega);rw[if_neg (by simp)];cases hW:btw W 0 255 with
    | false=>
     rw[if_pos rfl];exact ff_warm W p cap w hW
    | true=>
     rw[if_neg (by simp),if_neg (by simp),if_pos List.all_nil];exact ff_none3 W p cap w hW
end FrmA
end Go.Proofs.YtmolafjalaeoaaaGreatDoor
