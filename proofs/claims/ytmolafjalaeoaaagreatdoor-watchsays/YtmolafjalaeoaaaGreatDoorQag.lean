/-
  FrmH FrmI FrmJ FrmK
-/
import Derived.Test.YtmolafjalaeoaaaGreatDoorQae
import Derived.Test.YtmolafjalaeoaaaGreatDoorShelfK
import Derived.Deep.RegionHeld3
import Derived.BigRegion
import Derived.Deep.Cut
import Derived.Deep.DrawnRows
set_option maxRecDepth 100000
set_option maxHeartbeats 8000000
namespace Go.Proofs.YtmolafjalaeoaaaGreatDoor
open Tryz
namespace FrmA
open Go.RowKit FrmM
theorem clone_any (s:ByteArray) (w:World) (h:s.size<=100000) :
  Calls prog 74 #[.string s] w fun e w'=>e = .returned (.string s)/\Below w.heap.size w w':=by
 go_enter func74,ntmps74;go_wp2_with fail;refine (stringslite_Clone s w (by omega)).mono ?_;rintro e w' ⟨rfl,hb⟩;have HB:Hid (Below w.heap.size w w'):=hb;clear hb;go_wp2;go_ret;exact ⟨rfl,HB.out⟩
theorem byte_at {s:ByteArray} {i:Nat} (h:i<s.size):s.data.toList.getD i 0=s[i]:=by
 have hl:i<s.data.toList.length:=by simpa using h
 rw[List.getD_eq_getElem?_getD,List.getElem?_eq_getElem hl];rfl
theorem len_list (s:ByteArray):s.data.toList.length=s.size:=by simp
theorem span_any (s:ByteArray) (w:World) (hs:s.size<=100000) :
  Calls prog 118 #[.string s] w fun e w'=>e = .returned (.int .i64 (span s.data.toList:Int))/\w'=w:=by
 obtain ⟨R,hR⟩:∃ R:Int,R=(span s.data.toList:Int):=⟨_,rfl⟩;rw[<- hR];have HR:Hid (R=(span s.data.toList:Int)):=hR;clear hR;by_cases h2:s.size<2
 ·have h2I:(s.size:Int)<2:=by omega
  go_enter func118,ntmps118;go_wp2;go_ret;refine ⟨?_,rfl⟩;rw[HR.out];unfold span;rw[len_list,if_pos (Or.inl h2)];rfl
 ·have h0s : 0<s.size:=by omega
  have h1s : 1<s.size:=by omega
  have h0I:(0:Int)<s.size:=by omega
  have h1I:(1:Int)<s.size:=by omega
  have h2I:decide ((s.size:Int)<2)=false:=by simp;omega
  have HS:Hid (span s.data.toList=if s.data.toList.length<2\/s[0]≠165\/44<s[1].toNat then 0 else 4+s[1].toNat):=by show _ = _;unfold span;rw[byte_at h0s,byte_at h1s]
  by_cases h0:s[0]=165
  ·have h0e:((s[0].toNat:Int) != 165)=false:=(by rw[h0];rfl);by_cases h1 : 44<s[1].toNat
   ·have h1e:(44:Int)<s[1].toNat:=(by omega);clear h0;go_enter func118,ntmps118;go_wp2;go_ret;refine ⟨?_,rfl⟩;rw[HR.out,HS.out,if_pos (Or.inr (Or.inr h1))];rfl
   ·have h1e:decide ((44:Int)<s[1].toNat)=false:=(by simp;omega);have h1b:(s[1].toNat:Int)<=44:=by omega
    have HF:Hid (span s.data.toList=4+s[1].toNat):=by
     show _ = _;rw[HS.out,if_neg];rw[len_list];rintro (h | h | h)
     ·omega
     ·exact h h0
     ·omega
    clear h0;go_enter func118,ntmps118;go_wp2;go_ret;refine ⟨?_,rfl⟩;rw[HR.out,HF.out];show Ending.returned (.int .i64 (3+(s[1].toNat:Int)+1)) = _;congr 2;omega
  ·have h0e:((s[0].toNat:Int) != 165)=true:=(by have:s[0].toNat≠165:=fun h=>h0 (UInt8.toNat_inj.1 h);simp;omega);have H0:Hid (s[0]≠165):=h0;clear h0;go_enter func118,ntmps118;go_wp2;go_ret;refine ⟨?_,rfl⟩;rw[HR.out,HS.out,if_pos (Or.inr (Or.inl H0.out))];rfl
theorem span_le (l:List UInt8):span l<=48:=by unfold span;split<;>omega
theorem begins_one {s:ByteArray} (h1:s.size=1):begins s.data.toList=(s[0]'(by omega) == 165):=by
 have h0 : 0<s.size:=by omega
 have e:span s.data.toList=0:=by unfold span;rw[len_list,if_pos (Or.inl (by omega))]
 unfold begins;rw[e,len_list,byte_at h0];simp[h1]
theorem begins_more {s:ByteArray} (h1:s.size≠1):begins s.data.toList=decide (s.size<span s.data.toList):=by unfold begins;rw[len_list];simp[h1]
theorem isBeginning_any (s:ByteArray) (w:World) (hs:s.size<=100000) (hp : 0<s.size) :
  Calls prog 83 #[.string s] w fun e w'=>e = .returned (.bool (begins s.data.toList))/\w'=w:=by
 obtain ⟨R,hR⟩:∃ R,R=begins s.data.toList:=⟨_,rfl⟩;rw[<- hR];have HR:Hid (R=begins s.data.toList):=hR;clear hR;have hpI:(0:Int)<s.size:=by omega
 have HS48:Hid (span s.data.toList<=48):=span_le _;by_cases h1:s.size=1
 ·have h1I:(s.size:Int)=1:=by omega
  have hB:=begins_one h1;by_cases h0:s[0]=165
  ·have h0e:((s[0].toNat:Int) == 165)=true:=(by rw[h0];rfl);have hR1:R=true:=(by rw[HR.out,hB];simp[h0]);subst hR1;clear h0 hB;go_enter func83,ntmps83;go_wp2;go_ret;exact ⟨rfl,rfl⟩
  ·have h0e:((s[0].toNat:Int) == 165)=false:=(by have:s[0].toNat≠165:=fun h=>h0 (UInt8.toNat_inj.1 h);simp;omega);have hR1:R=false:=(by rw[HR.out,hB];simpa using h0);subst hR1;have e:span s.data.toList=0:=(by unfold span;rw[len_list,if_pos (Or.inl (by omega))]);clear h0 hB;go_enter func83,ntmps83;go_wp2_with (go_at_call 118;refine (span_any _ _ hs).mono ?_;rintro e w' ⟨rfl,rfl⟩);go_ret;exact ⟨rfl,rfl⟩
 ·have h1I:((s.size:Int) == 1)=false:=by simp;omega
  have hB:=begins_more h1;have HB:Hid (begins s.data.toList=decide (s.size<span s.data.toList)):=hB;clear hB;go_enter func83,ntmps83;go_wp2_with (go_at_call 118;refine (span_any _ _ hs).mono ?_;rintro e w' ⟨rfl,rfl⟩);go_ret;refine ⟨?_,rfl⟩;rw[HR.out,HB.out];simp
theorem beginning_any (s:ByteArray) (w:World) (hs:s.size<=100000) (hp : 0<s.size) :
  Calls prog 86 #[.string s] w fun e w'=>e = .returned (.bool (begins s.data.toList))/\w'=w:=by
 obtain ⟨R,hR⟩:∃ R,R=begins s.data.toList:=⟨_,rfl⟩;rw[<- hR];have HR:Hid (R=begins s.data.toList):=hR;clear hR;have hpI:(0:Int)<s.size:=by omega
 by_cases h1:s.size=1
 ·have h1I:((s.size:Int) == 1)=true:=by simp;omega
  have hB:=begins_one h1;have hR1:R=((s[0].toNat:Int) == 165):=by rw[HR.out,hB,Bool.eq_iff_iff];simp;rw[<- UInt8.toNat_inj];simp;omega
  subst hR1;clear hB HR;go_enter func86,ntmps86;go_wp2;go_ret;exact ⟨rfl,rfl⟩
 ·have h1I:((s.size:Int) == 1)=false:=by simp;omega
  have hB:=begins_more h1;have h0s : 0<s.size:=by omega
  have h1s : 1<s.size:=by omega
  have h1s':(1:Int)<s.size:=by omega
  have HS:Hid (span s.data.toList=if s.data.toList.length<2\/s[0]≠165\/44<s[1].toNat then 0 else 4+s[1].toNat):=by show _ = _;unfold span;rw[byte_at h0s,byte_at h1s]
  by_cases h0:s[0]=165
  ·have h0e:((s[0].toNat:Int) == 165)=true:=(by rw[h0];rfl);by_cases h4:s[1].toNat<=44
   ·have h4e:decide ((s[1].toNat:Int)<=44)=true:=(by simp;omega);have h4I:(s[1].toNat:Int)<=44:=by omega
    have hR1:R=decide ((s.size:Int)<4+(s[1].toNat:Int)):=by
     rw[HR.out,hB,HS.out,if_neg,Bool.eq_iff_iff]
     ·simp;omega
     ·rw[len_list];rintro (h | h | h)
      ·omega
      ·exact h h0
      ·omega
    subst hR1;clear hB HR h0 HS h4;go_enter func86,ntmps86;go_wp2;go_ret;exact ⟨rfl,rfl⟩
   ·have h4e:decide ((s[1].toNat:Int)<=44)=false:=(by simp;omega);have hR1:R=false:=(by rw[HR.out,hB,HS.out,if_pos (Or.inr (Or.inr (by omega)))];simp);subst hR1;clear hB HR h0 HS h4;go_enter func86,ntmps86;go_wp2;go_ret;exact ⟨rfl,rfl⟩
  ·have h0e:((s[0].toNat:Int) == 165)=false:=(by have:s[0].toNat≠165:=fun h=>h0 (UInt8.toNat_inj.1 h);simp;omega);have hR1:R=false:=(by rw[HR.out,hB,HS.out,if_pos (Or.inr (Or.inl h0))];simp);subst hR1;clear hB HR h0 HS;go_enter func86,ntmps86;go_wp2;go_ret;exact ⟨rfl,rfl⟩
end FrmA
namespace FrmA
open Go.RowKit FrmM
def rdCells (r:Rd):List Value:=[.int .i64 r.a,.int .i64 r.s,.int .i64 r.g,.string r.t]
structure ReadsOwn (V:World) (base:Nat) (v:Value) (rs:List Rd):Prop where
 own:V.ownsRow base 90 4 v rs.length (rs.flatMap rdCells)
theorem ReadsOwn.nil (V:World) (base:Nat):ReadsOwn V base (.slice none 0 0) []:=⟨World.ownsRow_nil _ _ _ _⟩
theorem flat_at (rs:List Rd):∀ (k:Nat) (r:Rd) (j:Nat),rs[k]?=some r->j<4->(rs.flatMap rdCells)[k*4+j]?=(rdCells r)[j]?:=by
 induction rs with
 | nil=>intro k r j h;simp at h
 | cons x rs ih=>
  intro k r j h hj;have e:(x::rs).flatMap rdCells=rdCells x++rs.flatMap rdCells:=rfl;have hl:(rdCells x).length=4:=rfl;rw[e];cases k with
  | zero=>
   simp at h;subst h;rw[List.getElem?_append_left (by rw[hl];omega)];congr 1;omega
  | succ k=>
   rw[List.getElem?_append_right (by rw[hl];omega),hl,show (k+1)*4+j-4=k*4+j by omega];exact ih k r j (by simpa using h) hj
theorem ReadsOwn.on {V:World} {base:Nat} {v:Value} {rs:List Rd} (h:ReadsOwn V base v rs) (ht:∀ r ∈ rs,r.t.size<=maxLen):∃ p cap,v = .slice p rs.length cap/\ReadsOn V p rs:=by
 by_cases hne:rs = []
 ·subst hne;rcases h.own.2 with ⟨rfl,h0⟩ | ⟨g,cap,cur,hv,_⟩
  ·exact ⟨none,0,rfl,ht,fun hn=>absurd rfl hn⟩
  ·exact ⟨_,cap,hv,ht,fun hn=>absurd rfl hn⟩
 ·obtain ⟨g,cap,rfl,h1,h2⟩:=h.own.form (List.length_pos_iff.2 hne);refine ⟨_,cap,rfl,ht,fun _=>⟨g,0,rfl,h2,fun k r hr=>?_⟩⟩;have hc:∀ j u,j<4->(rdCells r)[j]?=some u->V.cell? ⟨g,0+k*4+j,none⟩=some u:=by intro j u hj hu;have:=h.own.cells (g:=g) rfl (k*4+j) u (by rw[flat_at rs k r j hr hj];exact hu);rw[addr_add] at this;rw[Nat.zero_add];exact this
  exact ⟨hc 0 _ (by omega) rfl,hc 1 _ (by omega) rfl,hc 2 _ (by omega) rfl,hc 3 _ (by omega) rfl⟩
theorem info27:(prog.info? 90).map (fun i=>(i.zero,i.size,i.bytes))=some (some (.agg #[.int .i64 0,.int .i64 0,.int .i64 0,.string ⟨#[]⟩]),4,40):=by kernel_rfl
theorem extract_list (s:ByteArray) (a b:Nat):(s.extract a b).data.toList=(s.data.toList.drop a).take (b-a):=by rw[ByteArray.data_extract,Array.toList_extract,List.extract_eq_take_drop]
theorem extract_str (s:ByteArray) (a b:Nat):s.extract a b=str ((s.data.toList.drop a).take (b-a)):=by rw[<- extract_list,str_self]
theorem ReadsOwn.snoc {V:World} {base:Nat} {v:Value} {rs:List Rd} {r:Rd} {ys:List Value} (h:V.ownsRow base 90 4 v (rs.length+1) (rs.flatMap rdCells++ys)) (hy:ys=rdCells r):ReadsOwn V base v (rs ++ [r]):=by subst hy;refine ⟨?_⟩;rw[List.length_append,List.flatMap_append];simpa using h
theorem wrapU (x:UInt8):IntKind.i64.wrap (x.toNat:Int)=(x.toNat:Int):=by have:=x.toNat_lt;simp[IntKind.wrap,IntKind.bits,IntKind.signed];omega
def strSize:Value->Nat | .string t=>t.size | _=>0
theorem readsOf_any (s0:ByteArray) (w:World) (hs:s0.size<=100) :
  Calls prog 141 #[.string s0] w fun e w'=>∃ v,e = .returned v/\ReadsOwn w' w.heap.size v (gReads s0.data.toList)/\Below w.heap.size w w':=by
 obtain ⟨i0,hi,hz0,hz1,hz2⟩:=info_parts info27;obtain ⟨R,hR⟩:∃ R,R=gReads s0.data.toList:=⟨_,rfl⟩;rw[<- hR];have HR:Hid (R=gReads s0.data.toList):=hR;clear hR;go_enter func141,ntmps141;go_wp2;go_loopw [0,3] (fun u l V=>∃ (k:Nat) (t:ByteArray),11*k<=s0.size/\u = .string t/\t.data.toList=s0.data.toList.drop (11*k)/\ReadsOwn V w.heap.size l ((List.range k).map (rdAt s0.data.toList))/\Below w.heap.size w V) (fun u _ _=>strSize u)
 case atStart=>exact ⟨0,s0,by omega,rfl,rfl,ReadsOwn.nil _ _,Below.refl _ _⟩
 case round=>
  obtain ⟨k,t,hk,rfl,htl,hown0,hbl⟩:=hrel;have hts:t.size=s0.size-11*k:=by have:=congrArg List.length htl;rw[List.length_drop,len_list,len_list] at this;exact this
  have HTS:Hid (t.size=s0.size-11*k):=hts;have h100:t.size<=100:=by omega
  have hk9:k<=9:=by omega
  clear hts;by_cases hlt : 11<=t.size
  case pos=>
   have hI:(11:Int)<=t.size:=(by omega);have i0I:(0:Int)<t.size:=(by omega);have i1I:(1:Int)<t.size:=(by omega);have i2I:(2:Int)<t.size:=(by omega);have HRD:Hid (rdCells (rdAt s0.data.toList k) = [.int .i64 (t[0].toNat:Int),.int .i64 (t[1].toNat:Int),.int .i64 (t[2].toNat:Int),.string (t.extract 3 11)]):=(by show _ = _;unfold rdAt rdOf rdCells;rw[<- htl,byte_at (by omega),byte_at (by omega),byte_at (by omega),extract_str];rfl);have hown:=hown0.own;have HBL:Hid (Below w.heap.size w wr):=hbl;have HTL:Hid (t.data.toList=s0.data.toList.drop (11*k)):=htl;have hsz:w.heap.size<=wr.heap.size:=hbl.size;clear hown0 hbl htl;have j0 : 0<t.size:=(by omega);have j1 : 1<t.size:=(by omega);have j2 : 2<t.size:=(by omega);obtain ⟨O,hO⟩:∃ O:Obj,O = .cells #[.int .i64 (IntKind.i64.wrap (t[0].toNat:Int)),.int .i64 (IntKind.i64.wrap (t[1].toNat:Int)),.int .i64 (IntKind.i64.wrap (t[2].toNat:Int)),.string (t.extract 3 11)] 90:=⟨_,rfl⟩;obtain ⟨ys,hys⟩:∃ ys:List Value,ys = [.int .i64 (IntKind.i64.wrap (t[0].toNat:Int)),.int .i64 (IntKind.i64.wrap (t[1].toNat:Int)),.int .i64 (IntKind.i64.wrap (t[2].toNat:Int)),.string (t.extract 3 11)]:=⟨_,rfl⟩
   have HW:Hid (∀ j u,ys[j]?=some u->((wr.alloc O).drew).cell? ((⟨wr.heap.size,0,none⟩:Addr).add j)=some u):=by
    intro j u hj;subst hys hO;rw[addr_add]
    match j,hj with
    | 0,hj=>simp at hj;subst hj;simp
    | 1,hj=>simp at hj;subst hj;simp
    | 2,hj=>simp at hj;subst hj;simp
    | 3,hj=>simp at hj;subst hj;simp
   have H1:Hid (∀ u ∈ ys,u.oneCell'=true):=by intro u hu;subst hys;simp at hu;rcases hu with rfl | rfl | rfl | rfl<;>rfl
   have HL:Hid (((List.range k).map (rdAt s0.data.toList)).length=k):=(by show _ = _;simp);have HOW:Hid (((wr.alloc O).drew).ownsRow w.heap.size 90 4 u3 ((List.range k).map (rdAt s0.data.toList)).length (((List.range k).map (rdAt s0.data.toList)).flatMap rdCells)):=hown.alloc O;have HYL:Hid (ys.length=1*4):=(by show _ = _;rw[hys];rfl);have HML:Hid (((List.range k).map (rdAt s0.data.toList)).length+1<=maxLen):=(by show _<=_;rw[HL.out];unfold maxLen;omega);have HBY:Hid ((((List.range k).map (rdAt s0.data.toList)).length+1)*40<=140737488355328):=(by show _<=_;rw[HL.out];omega);have HBS:Hid (w.heap.size<=((wr.alloc O).drew).heap.size):=(by show _<=_;simp;omega);have HHS:Hid (((wr.alloc O).drew).heap.size=wr.heap.size+1):=(by show _ = _;simp);have HOO:Hid (O = .cells #[.int .i64 (IntKind.i64.wrap (t[0].toNat:Int)),.int .i64 (IntKind.i64.wrap (t[1].toNat:Int)),.int .i64 (IntKind.i64.wrap (t[2].toNat:Int)),.string (t.extract 3 11)] 90):=hO;have HYY:Hid (ys = [.int .i64 (IntKind.i64.wrap (t[0].toNat:Int)),.int .i64 (IntKind.i64.wrap (t[1].toNat:Int)),.int .i64 (IntKind.i64.wrap (t[2].toNat:Int)),.string (t.extract 3 11)]):=hys;subst hO;clear hys hown;go_upto_region 3 with fail
   go_region_held3 (fun _=>True) (trivial)
    ((refine step_append_lies _ (by rfl) (.tmp 7) (.tmp 20) 91 (by rfl) w.heap.size 90 i0 (.agg #[.int .i64 0,.int .i64 0,.int .i64 0,.string ⟨#[]⟩]) 4 40 underlying91 hi hz0 hz1 hz2 rfl (by omega) u3 _ _ (by rfl) HOW.out ⟨wr.heap.size,0,none⟩ 1 1 ys (by rfl) HYL.out HW.out H1.out (by omega) HML.out HBY.out HBS.out (wr.heap.size+1) HHS.out ?_;intro g cap w1 hown1 hgrow hat hlt1))
   all_goals
    have hrd:ReadsOwn w1 w.heap.size (.slice (some ⟨g,0,none⟩) (((List.range k).map (rdAt s0.data.toList)).length+1) cap) ((List.range (k+1)).map (rdAt s0.data.toList)):=(by rw[List.range_succ,List.map_append];exact ReadsOwn.snoc hown1 (by rw[HYY.out,HRD.out,wrapU,wrapU,wrapU]));have hB':Below w.heap.size w w1:=((HBL.out.alloc hsz _).drew).grown hgrow (by simp;omega) (fun k hk=>(HOW.out.lt k hk).1);have HRO:Hid (ReadsOwn w1 w.heap.size (.slice (some ⟨g,0,none⟩) (((List.range k).map (rdAt s0.data.toList)).length+1) cap) ((List.range (k+1)).map (rdAt s0.data.toList))):=hrd;have HB':Hid (Below w.heap.size w w1):=hB';clear hown1 hgrow hat hrd hB' HOW HW H1 HYL HML HBY HBS HHS HOO HYY HRD;go_wp2;go_roundw
    case rel=>
     have hts:=HTS.out;refine ⟨k+1,t.extract 11 t.size,by omega,rfl,?_,by have h:=HRO.out;rw[HL.out] at h;exact h,HB'.out⟩;rw[extract_list,HTL.out,List.drop_drop,List.take_of_length_le]
     ·congr 1
     ·rw[List.length_drop,len_list];omega
    case measure=>simp[strSize];omega
  case neg=>have hI:¬ (11:Int)<=t.size:=(by omega);have HRO:Hid (ReadsOwn wr w.heap.size u3 ((List.range k).map (rdAt s0.data.toList))):=hown0;have HB':Hid (Below w.heap.size w wr):=hbl;have HK:Hid (R=(List.range k).map (rdAt s0.data.toList)):=(by show _ = _;rw[HR.out];unfold gReads;rw[len_list,show s0.size/11=k by have:=HTS.out;omega]);clear hown0 hbl htl;go_wp2;go_ret;exact ⟨_,rfl,by rw[HK.out];exact HRO.out,HB'.out⟩
end FrmA
namespace FrmA
open Go.RowKit FrmM
theorem ReadsOwn.le {V:World} {base base':Nat} {v:Value} {rs:List Rd} (h:ReadsOwn V base v rs) (hb:base'<=base):ReadsOwn V base' v rs:=
 ⟨h.own.1,h.own.2.elim Or.inl (fun ⟨g,cap,cur,hv,hg,r⟩=>Or.inr ⟨g,cap,cur,hv,Nat.le_trans hb hg,r⟩)⟩
theorem ReadsOwn.set {V:World} {base:Nat} {v:Value} {rs:List Rd} (h:ReadsOwn V base v rs) {a:Addr} (ha:a.block<base) (u:Value):ReadsOwn (V.setCell a u) base v rs:=⟨ownsRow_setCell_below h.own ha u⟩
theorem keepFrozen {B:Nat} {w w':World} {a:Addr} (hb:Below B w w') (ha:a.block<B) (h:w.frozen? a=false):w'.frozen? a=false:=by rw[hb.frozen ha];exact h
theorem twoBlocks {w w1:World} {x0 x1 x2 x3 x4 x5:Value} {t t':TypeId} (hb:Below ((w.alloc (.cells #[x0,x1,x2] t)).alloc (.cells #[x3,x4,x5] t')).heap.size ((w.alloc (.cells #[x0,x1,x2] t)).alloc (.cells #[x3,x4,x5] t')) w1) :
  (w1.cell? ⟨w.heap.size,0,none⟩=some x0/\w1.cell? ⟨w.heap.size,1,none⟩=some x1/\w1.cell? ⟨w.heap.size,2,none⟩=some x2/\w1.cell? ⟨w.heap.size+1,0,none⟩=some x3/\w1.cell? ⟨w.heap.size+1,1,none⟩=some x4/\w1.cell? ⟨w.heap.size+1,2,none⟩=some x5)
  /\ Below w.heap.size w w1
  /\ (w1.frozen? ⟨w.heap.size,0,none⟩=false/\w1.frozen? ⟨w.heap.size,1,none⟩=false/\w1.frozen? ⟨w.heap.size,2,none⟩=false/\w1.frozen? ⟨w.heap.size+1,0,none⟩=false/\w1.frozen? ⟨w.heap.size+1,1,none⟩=false/\w1.frozen? ⟨w.heap.size+1,2,none⟩=false):=by
 refine ⟨⟨?_,?_,?_,?_,?_,?_⟩,(((Below.refl _ w).alloc (Nat.le_refl _) _).alloc (by simp) _).trans (hb.mono (by simp;omega)),?_,?_,?_,?_,?_,?_⟩
 ·exact keepCell hb (by simp;omega) (by go_simp)
 ·exact keepCell hb (by simp;omega) (by go_simp)
 ·exact keepCell hb (by simp;omega) (by go_simp)
 ·exact keepCell hb (by simp) (by go_simp)
 ·exact keepCell hb (by simp) (by go_simp)
 ·exact keepCell hb (by simp) (by go_simp)
 ·exact keepFrozen hb (by simp;omega) (by go_simp)
 ·exact keepFrozen hb (by simp;omega) (by go_simp)
 ·exact keepFrozen hb (by simp;omega) (by go_simp)
 ·exact keepFrozen hb (by simp) (by go_simp)
 ·exact keepFrozen hb (by simp) (by go_simp)
 ·exact keepFrozen hb (by simp) (by go_simp)
theorem guess_any (b:ByteArray) (w:World) (hs:b.size<=100) (h4 : 4<=b.size) :
  Calls prog 119 #[.string b] w fun e w'=>∃ v,e = .returned (.agg #[.int .i64 (guess b.data.toList).ty,v,.int .i64 (guess b.data.toList).wm])/\ReadsOwn w' w.heap.size v (guess b.data.toList).rs/\Below w.heap.size w w':=by
 obtain ⟨G,hG⟩:∃ G,G=guess b.data.toList:=⟨_,rfl⟩;rw[<- hG];have i2 : 2<b.size:=by omega
 have i2I:(2:Int)<b.size:=by omega
 have h4I:(4:Int)<=b.size:=by omega
 have hbd:(b.data.toList.drop 3).take (b.data.toList.length-4)=(b.extract 3 (b.size-1)).data.toList:=by rw[extract_list,len_list,show b.size-4=b.size-1-3 by omega]
 have hGG:G=⟨b[2].toNat,if b[2].toNat=1 then gReads (b.extract 3 (b.size-1)).data.toList else [],if b[2].toNat=3/\(b.extract 3 (b.size-1)).data.toList≠[] then ((b.data.toList.getD 3 0).toNat:Int) else 0⟩:=by rw[hG];unfold guess;rw[byte_at i2,hbd]
 have HG:Hid (G=⟨b[2].toNat,if b[2].toNat=1 then gReads (b.extract 3 (b.size-1)).data.toList else [],if b[2].toNat=3/\(b.extract 3 (b.size-1)).data.toList≠[] then ((b.data.toList.getD 3 0).toNat:Int) else 0⟩):=hGG;have hxs:(b.extract 3 (b.size-1)).size=b.size-4:=by rw[ByteArray.size_extract];omega
 have HXS:Hid ((b.extract 3 (b.size-1)).size=b.size-4):=hxs;have hb2:=b[2].toNat_lt;clear hGG hG hbd hxs;by_cases h1:b[2].toNat=1
 ·have h1I:((b[2].toNat:Int) == 1)=true:=by rw[h1];rfl
  have hG1:G=⟨1,gReads (b.extract 3 (b.size-1)).data.toList,0⟩:=by rw[HG.out];simp[h1]
  subst hG1;clear HG;go_enter func119,ntmps119;go_wp2_with fail;refine (readsOf_any _ _ (by rw[HXS.out];omega)).mono ?_;rintro e w1 ⟨v,rfl,hro,hb1⟩;obtain ⟨hz,hb0,hz1⟩:=twoBlocks hb1;have HRO:Hid (ReadsOwn w1 (w.heap.size+2) v (gReads (b.extract 3 (b.size-1)).data.toList)):=hro.le (by simp);have HB:Hid (Below w.heap.size w w1):=hb0;obtain ⟨z0,z1,z2,f0,f1,f2⟩:=hz;obtain ⟨y0,y1,y2,g0,g1,g2⟩:=hz1;have hv:v.oneCell'=true:=by rcases hro.own.2 with ⟨rfl,_⟩ | ⟨g,cap,cur,rfl,_⟩<;>rfl
  have hvs:∃ p n c,v = .slice p n c:=by
   rcases hro.own.2 with ⟨rfl,_⟩ | ⟨g,cap,cur,rfl,_⟩
   ·exact ⟨_,_,_,rfl⟩
   ·exact ⟨_,_,_,rfl⟩
  obtain ⟨vp,vn,vc,rfl⟩:=hvs;clear hro hb1 hb0;go_wp2;refine bodyPost_ret (v:=.agg #[.int .i64 1,.slice vp vn vc,.int .i64 0]) (by simp[results,results119,go_sem,z0,z1,z2]) rfl ⟨_,rfl,?_,?_⟩
  ·exact ((((HRO.out.set (by show w.heap.size+1 < _;omega) _).set (by show w.heap.size < _;omega) _).set (by show w.heap.size < _;omega) _).set (by show w.heap.size < _;omega) _).le (by omega)
  ·exact (((HB.out.setCell (by show w.heap.size<=w.heap.size+1;omega) _).setCell (Nat.le_refl _) _).setCell (Nat.le_refl _) _).setCell (Nat.le_refl _) _
 ·have h1I:((b[2].toNat:Int) == 1)=false:=by simp;omega
  have H1:Hid (b[2].toNat≠1):=h1;by_cases h3:b[2].toNat=3
  ·have h3I:((b[2].toNat:Int) == 3)=true:=(by rw[h3];rfl);clear h1;by_cases h0:b.size=4
   ·have hxe:b.extract 3 (b.size-1)=⟨#[]⟩:=(by have:=HXS.out;rw[h0] at this ⊢;apply ByteArray.ext;apply Array.eq_empty_of_size_eq_zero;exact this);have hG1:G=⟨3,[],0⟩:=(by rw[HG.out,hxe];simp[h3]);subst hG1;have hxl:(b.extract 3 (b.size-1)).toList.isEmpty=true:=(by rw[hxe,ByteArray.toList_eq];rfl);clear HG hxe;go_enter func119,ntmps119;go_wp2;refine bodyPost_ret (v:=.agg #[.int .i64 3,.slice none 0 0,.int .i64 0]) (by simp[results,results119,go_sem]) rfl ⟨_,rfl,ReadsOwn.nil _ _,?_⟩;exact ((Below.refl _ w).alloc (Nat.le_refl _) _).alloc (by simp) _
   ·have hxp:(b.extract 3 (b.size-1)).data.toList≠[]:=(by intro e;have:=congrArg List.length e;rw[len_list,HXS.out] at this;simp at this;omega);have hx0 : 0<(b.extract 3 (b.size-1)).size:=(by rw[HXS.out];omega);have hx0I:(0:Int)<(b.extract 3 (b.size-1)).size:=(by omega);have hb3:b.data.toList.getD 3 0=(b.extract 3 (b.size-1))[0]:=(by rw[<- byte_at hx0,extract_list,List.getD_eq_getElem?_getD,List.getD_eq_getElem?_getD,List.getElem?_take_of_lt (by omega),List.getElem?_drop]);have hG1:G=⟨3,[],((b.extract 3 (b.size-1))[0].toNat:Int)⟩:=(by rw[HG.out,hb3,if_neg H1.out,if_pos ⟨h3,hxp⟩,h3];rfl);subst hG1;have hxl:(b.extract 3 (b.size-1)).toList.isEmpty=false:=(by rw[ByteArray.toList_eq];simpa using hxp);clear HG hxp hb3;generalize hX:b.extract 3 (b.size-1)=X at *;have hX0:=X[0].toNat_lt;go_enter func119,ntmps119;go_wp2;refine bodyPost_ret (v:=.agg #[.int .i64 3,.slice none 0 0,.int .i64 (X[0].toNat:Int)]) (by simp[results,results119,go_sem]) rfl ⟨_,rfl,ReadsOwn.nil _ _,?_⟩;exact ((Below.refl _ w).alloc (Nat.le_refl _) _).alloc (by simp) _
  ·have h3I:((b[2].toNat:Int) == 3)=false:=(by simp;omega);have hG1:G=⟨b[2].toNat,[],0⟩:=(by rw[HG.out];simp[h1,h3]);subst hG1;clear HG h1 h3;go_enter func119,ntmps119;go_wp2;refine bodyPost_ret (v:=.agg #[.int .i64 b[2].toNat,.slice none 0 0,.int .i64 0]) (by simp[results,results119,go_sem]) rfl ⟨_,rfl,ReadsOwn.nil _ _,?_⟩;exact ((Below.refl _ w).alloc (Nat.le_refl _) _).alloc (by simp) _
end FrmA
namespace FrmA
open Go.RowKit FrmM
def zeroFr:Fr:=⟨0,[],0⟩
def frontF (S:List UInt8):Fr:=match front S with | some f=>f | none=>zeroFr
def frontN (S:List UInt8):Nat:=match front S with | some f=>(enc f).length | none=>0
theorem gReads_tags (l:List UInt8):∀ r ∈ gReads l,r.t.size<=maxLen:=by
 intro r hr;unfold gReads at hr;obtain ⟨k,_,rfl⟩:=List.mem_map.1 hr;unfold rdAt rdOf;have:((⟨(((l.drop (11*k)).drop 3).take 8).toArray⟩:ByteArray)).size<=8:=by show (((l.drop (11*k)).drop 3).take 8).toArray.size<=8;simp;omega
 unfold maxLen;simp only at *;omega
theorem guess_tags (l:List UInt8):∀ r ∈ (guess l).rs,r.t.size<=maxLen:=by
 intro r hr;unfold guess at hr;simp only at hr;split at hr
 ·exact gReads_tags _ r hr
 ·cases hr
structure Zero3 (w:World) (r:Nat):Prop where
 z0:w.cell? ⟨r,0,none⟩=some (.int .i64 0)
 z1:w.cell? ⟨r,1,none⟩=some (.slice none 0 0)
 z2:w.cell? ⟨r,2,none⟩=some (.int .i64 0)
 y0:w.frozen? ⟨r,0,none⟩=false
 y1:w.frozen? ⟨r,1,none⟩=false
 y2:w.frozen? ⟨r,2,none⟩=false
theorem Zero3.keep {B r:Nat} {w w':World} (h:Zero3 w r) (hb:Below B w w') (hr:r<B):Zero3 w' r:=
 ⟨keepCell hb hr h.z0,keepCell hb hr h.z1,keepCell hb hr h.z2,keepFrozen hb hr h.y0,keepFrozen hb hr h.y1,keepFrozen hb hr h.y2⟩
theorem zero3 {w w1:World} {t:TypeId} (hb:Below (w.alloc (.cells #[.int .i64 0,.slice none 0 0,.int .i64 0] t)).heap.size (w.alloc (.cells #[.int .i64 0,.slice none 0 0,.int .i64 0] t)) w1):Zero3 w1 w.heap.size:=
 Zero3.keep (w:=w.alloc (.cells #[.int .i64 0,.slice none 0 0,.int .i64 0] t)) ⟨by go_simp,by go_simp,by go_simp,by go_simp,by go_simp,by go_simp⟩ hb (by simp)
theorem own_keepBelow {B:Nat} {w w':World} {base:Nat} {e:TypeId} {size:Nat} {v:Value} {n:Nat} {xs:List Value} (h:w.ownsRow base e size v n xs) (hb:Below B w w') (hB:w.heap.size<=B):w'.ownsRow base e size v n xs:=by
 obtain ⟨h1,h2⟩:=h;refine ⟨h1,?_⟩;rcases h2 with h2 | ⟨g,cap,cur,hv,hg,hh,r⟩
 ·exact Or.inl h2
 ·refine Or.inr ⟨g,cap,cur,hv,hg,?_,r⟩
  have hlt:g<w.heap.size:=by
   rcases Nat.lt_or_ge g w.heap.size with h | h
   ·exact h
   ·rw[Array.getElem?_eq_none h] at hh;cases hh
  rw[hb.block g (by omega)];exact hh
theorem front_any (s:ByteArray) (w:World) (hs:s.size<=100000) :
  Calls prog 82 #[.string s] w fun e w'=>∃ v,e = .returned (.tuple #[.agg #[.int .i64 (frontF s.data.toList).ty,v,.int .i64 (frontF s.data.toList).wm],.int .i64 (frontN s.data.toList:Int)])/\ReadsOwn w' w.heap.size v (frontF s.data.toList).rs/\Below w.heap.size w w':=by
 obtain ⟨F,hF⟩:∃ F,F=frontF s.data.toList:=⟨_,rfl⟩;obtain ⟨N,hN⟩:∃ N,N=frontN s.data.toList:=⟨_,rfl⟩;obtain ⟨n,hn⟩:∃ n,n=span s.data.toList:=⟨_,rfl⟩;have hn48:n<=48:=by rw[hn];exact span_le _
 have HF:Hid (F=frontF s.data.toList):=hF;have HN:Hid (N=frontN s.data.toList):=hN;have Hn:Hid (n=span s.data.toList):=hn;rw[<- hF,<- hN];clear hF hN hn;by_cases hA:n=0\/s.size<n
 ·have hfr:front s.data.toList=none:=by unfold front;rw[if_pos];rw[len_list,<- Hn.out];exact hA
  obtain rfl:F=zeroFr:=by rw[HF.out];unfold frontF;rw[hfr]
  obtain rfl:N=0:=by rw[HN.out];unfold frontN;rw[hfr]
  have HA:Hid (n=0\/s.size<n):=hA;by_cases h0:n=0
  ·subst h0;clear hA;go_enter func82,ntmps82;go_wp2_with fail;refine (span_any _ _ hs).mono ?_;rintro e w1 ⟨rfl,rfl⟩;rw[<- Hn.out];go_wp2;refine bodyPost_ret (v:=.tuple #[.agg #[.int .i64 0,.slice none 0 0,.int .i64 0],.int .i64 0]) (by simp[results,results82,go_sem]) rfl ⟨_,rfl,ReadsOwn.nil _ _,?_⟩;exact (Below.refl _ w).alloc (Nat.le_refl _) _
  ·have hlt:s.size<n:=(by omega);have h0I:((n:Int) == 0)=false:=(by simp;omega);have hltI:(s.size:Int)<n:=(by omega);clear hA h0;go_enter func82,ntmps82;go_wp2_with fail;refine (span_any _ _ hs).mono ?_;rintro e w1 ⟨rfl,rfl⟩;rw[<- Hn.out];go_wp2;refine bodyPost_ret (v:=.tuple #[.agg #[.int .i64 0,.slice none 0 0,.int .i64 0],.int .i64 0]) (by simp[results,results82,go_sem]) rfl ⟨_,rfl,ReadsOwn.nil _ _,?_⟩;exact (Below.refl _ w).alloc (Nat.le_refl _) _
 ·have h0:n≠0:=fun h=>hA (Or.inl h);have hge:n<=s.size:=Nat.le_of_not_lt fun h=>hA (Or.inr h);have h0I:((n:Int) == 0)=false:=by simp;omega
  have hgeI:¬ (s.size:Int)<n:=by omega
  have hgeI2:(n:Int)<=s.size:=by omega
  have hgeD:decide ((s.size:Int)<n)=false:=by simp;omega
  have h4 : 4<=n:=by have:=Hn.out;unfold span at this;split at this<;>omega
  obtain ⟨B,hB⟩:∃ B,B=s.extract 0 n:=⟨_,rfl⟩;have hBs:B.size=n:=by rw[hB,ByteArray.size_extract];omega
  have hBl:B.data.toList=s.data.toList.take n:=by rw[hB,extract_list];rfl
  have HBl:Hid (B.data.toList=s.data.toList.take n):=hBl;have HBe:Hid (B=s.extract 0 n):=hB;have HBs:Hid (B.size=n):=hBs;have HFR:Hid (front s.data.toList=if fault (guess B.data.toList)=0/\enc (guess B.data.toList)=B.data.toList then some (guess B.data.toList) else none):=by show _ = _;unfold front;rw[if_neg,<- Hn.out,<- HBl.out];rw[len_list,<- Hn.out];exact hA
  clear hA hB hBs hBl;go_enter func82,ntmps82;go_wp2_with fail;refine (span_any _ _ hs).mono ?_;rintro e w1 ⟨rfl,rfl⟩;rw[<- Hn.out];go_wp2_with fail;rw[<- HBe.out];refine (clone_any B _ (by rw[HBs.out];omega)).mono ?_;rintro e w2 ⟨rfl,hb2⟩;have HZ2:Hid (Zero3 w2 w.heap.size):=zero3 hb2;have HB2:Hid (Below w.heap.size w w2):=((Below.refl _ w).alloc (Nat.le_refl _) _).trans (hb2.mono (by simp));have hs2:w.heap.size<w2.heap.size:=by have:=hb2.size;simp at this;omega
  clear hb2;go_wp2_with fail;refine (guess_any B _ (by rw[HBs.out];omega) (by rw[HBs.out];omega)).mono ?_;rintro e w3 ⟨v,rfl,hro,hb3⟩;obtain ⟨p,cap,rfl,hron⟩:=hro.on (guess_tags _);have HZ3:Hid (Zero3 w3 w.heap.size):=HZ2.out.keep hb3 hs2;have HB3:Hid (Below w.heap.size w w3):=HB2.out.trans (hb3.mono (by omega));have hs3:w.heap.size<w3.heap.size:=by have:=hb3.size;omega
  obtain ⟨G,hG⟩:∃ G,G=guess B.data.toList:=⟨_,rfl⟩;rw[<- hG] at hro hron ⊢;have HG:Hid (G=guess B.data.toList):=hG;have HRO:Hid (ReadsOwn w3 w2.heap.size (.slice p G.rs.length cap) G.rs):=hro;have HRN:Hid (ReadsOn w3 p G.rs):=hron;clear hG hro hron hb3;have HFG:Hid (front s.data.toList=if fault G=0/\enc G=B.data.toList then some G else none):=by show _ = _;rw[HG.out];exact HFR.out
  go_wp2_with fail;refine (bytes_any G p cap _ (HRN.out.alloc _)).mono ?_;rintro e w4 ⟨rfl,hb4⟩;have d0:w4.cell? ⟨w3.heap.size,0,none⟩=some (.int .i64 G.ty):=keepCell hb4 (by simp) (by go_simp);have d1:w4.cell? ⟨w3.heap.size,1,none⟩=some (.slice p G.rs.length cap):=keepCell hb4 (by simp) (by go_simp);have d2:w4.cell? ⟨w3.heap.size,2,none⟩=some (.int .i64 G.wm):=keepCell hb4 (by simp) (by go_simp);have hz4:Zero3 w4 w.heap.size:=(HZ3.out.keep ((Below.refl _ w3).alloc (Nat.le_refl _) (.cells #[.int .i64 G.ty,.slice p G.rs.length cap,.int .i64 G.wm] 93)) hs3).keep hb4 (by simp;omega);obtain ⟨z0,z1,z2,y0,y1,y2⟩:=hz4;have HB4:Hid (Below w.heap.size w w4):=(HB3.out.alloc (by omega) _).trans (hb4.mono (by simp;omega));have HRO4:Hid (ReadsOwn w4 w2.heap.size (.slice p G.rs.length cap) G.rs):=⟨own_keepBelow (HRO.out.own.alloc (.cells #[.int .i64 G.ty,.slice p G.rs.length cap,.int .i64 G.wm] 93)) hb4 (Nat.le_refl _)⟩;clear hb4;by_cases hf:fault G=0
  ·have he:errV (fault G) = .nilIface:=(by rw[hf];rfl);have hbv:bytesV G=str (enc G):=(by unfold bytesV;rw[if_pos hf]);rw[he,hbv];clear he hbv;by_cases hq:enc G=B.data.toList
   ·have hq1:((str (enc G)).toList == B.toList)=true:=(by rw[ByteArray.toList_eq,ByteArray.toList_eq,str_list,hq];simp);have hq2:((str (enc G)).toList != B.toList)=false:=(by rw[bne,hq1];rfl);have hfs:front s.data.toList=some G:=(by rw[HFG.out,if_pos ⟨hf,hq⟩]);obtain rfl:F=G:=(by rw[HF.out];unfold frontF;rw[hfs]);have hNn:N=n:=(by rw[HN.out];unfold frontN;rw[hfs];show (enc F).length=n;rw[hq,len_list,HBs.out]);subst hNn;clear hq hfs hf;go_wp2;refine bodyPost_ret (v:=.tuple #[.agg #[.int .i64 F.ty,.slice p F.rs.length cap,.int .i64 F.wm],.int .i64 N]) (by simp[results,results82,go_sem,z0,z1,z2]) rfl ⟨_,rfl,?_,?_⟩
    ·exact (((HRO4.out.set (by show w.heap.size < _;omega) _).set (by show w.heap.size < _;omega) _).set (by show w.heap.size < _;omega) _).le (by omega)
    ·exact ((HB4.out.setCell (Nat.le_refl _) _).setCell (Nat.le_refl _) _).setCell (Nat.le_refl _) _
   ·have hq1:((str (enc G)).toList == B.toList)=false:=(by rw[ByteArray.toList_eq,ByteArray.toList_eq,str_list];simpa using hq);have hq2:((str (enc G)).toList != B.toList)=true:=(by rw[bne,hq1];rfl);have hfs:front s.data.toList=none:=(by rw[HFG.out,if_neg (fun h=>hq h.2)]);obtain rfl:F=zeroFr:=(by rw[HF.out];unfold frontF;rw[hfs]);obtain rfl:N=0:=(by rw[HN.out];unfold frontN;rw[hfs]);clear hq hfs hf;go_wp2;refine bodyPost_ret (v:=.tuple #[.agg #[.int .i64 0,.slice none 0 0,.int .i64 0],.int .i64 0]) (by simp[results,results82,go_sem,z0,z1,z2]) rfl ⟨_,rfl,ReadsOwn.nil _ _,?_⟩;exact ((HB4.out.setCell (Nat.le_refl _) _).setCell (Nat.le_refl _) _).setCell (Nat.le_refl _) _
  ·rw[errV_pos hf];have hfs:front s.data.toList=none:=(by rw[HFG.out,if_neg (fun h=>hf h.1)]);obtain rfl:F=zeroFr:=(by rw[HF.out];unfold frontF;rw[hfs]);obtain rfl:N=0:=(by rw[HN.out];unfold frontN;rw[hfs]);clear hfs hf;generalize bytesV G=bv at *;go_wp2;refine bodyPost_ret (v:=.tuple #[.agg #[.int .i64 0,.slice none 0 0,.int .i64 0],.int .i64 0]) (by simp[results,results82,go_sem,z0,z1,z2]) rfl ⟨_,rfl,ReadsOwn.nil _ _,?_⟩;exact ((HB4.out.setCell (Nat.le_refl _) _).setCell (Nat.le_refl _) _).setCell (Nat.le_refl _) _
end FrmA
end Go.Proofs.YtmolafjalaeoaaaGreatDoor
