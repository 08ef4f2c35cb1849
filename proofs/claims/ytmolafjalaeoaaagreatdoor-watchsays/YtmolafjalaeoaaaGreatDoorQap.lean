/-
  RuA RuC TkI TkJ TkK
-/
import Derived.Test.YtmolafjalaeoaaaGreatDoorQao
import Derived.Test.YtmolafjalaeoaaaGreatDoorQak
set_option maxRecDepth 100000
set_option maxHeartbeats 8000000
namespace Go.Proofs.YtmolafjalaeoaaaGreatDoor
open Tryz
namespace RuA
open Go.RowKit RuM
theorem between_any (n lo hi:Int) (w:World) :
  Calls prog 101 #[.int .i64 n,.int .i64 lo,.int .i64 hi] w fun e w'=>e = .returned (.bool (btw n lo hi))/\w'=w:=by
 by_cases h1:lo<=n
 ·by_cases h2:n<=hi
  ·have hb:btw n lo hi=true:=(by simp[btw,h1,h2]);rw[hb];clear hb;go_enter func101,ntmps101;go_wp2;go_ret;exact ⟨rfl,rfl⟩
  ·have hb:btw n lo hi=false:=(by simp[btw];omega);rw[hb];clear hb;go_enter func101,ntmps101;go_wp2;go_ret;exact ⟨by simp,rfl⟩
 ·have hb:btw n lo hi=false:=by simp[btw];omega
  rw[hb];clear hb;have h1':decide (lo<=n)=false:=by simpa using h1
  go_enter func101,ntmps101;go_wp2;go_ret;exact ⟨rfl,rfl⟩
def let_ (s:ByteArray) (k:Nat):Prop:=∀ c ∈ s.data.toList.take k,lettr c
theorem let_snoc {s:ByteArray} {k:Nat} (hk:k<s.size):let_ s (k+1)↔let_ s k/\lettr s[k]:=by
 unfold let_;have hl:k<s.data.toList.length:=by simpa using hk
 rw[List.take_succ_eq_append_getElem hl];constructor
 ·intro h;exact ⟨fun c hc=>h c (List.mem_append_left _ hc),h _ (List.mem_append_right _ (by simp;rfl))⟩
 ·rintro ⟨h1,h2⟩ c hc;rcases List.mem_append.1 hc with hc | hc
  ·exact h1 c hc
  ·simp only[List.mem_singleton] at hc;rw[hc];exact h2
theorem let_all {s:ByteArray}:let_ s s.size↔∀ c ∈ s.data.toList,lettr c:=by unfold let_;rw[List.take_of_length_le (by simp)]
theorem size_list (s:ByteArray):s.data.toList.length=s.size:=by simp
theorem let_mono {s:ByteArray} {k:Nat} (hk:k<s.size) (h:¬ lettr s[k]):¬ ∀ c ∈ s.data.toList,lettr c:=by
 intro hh;refine h (hh _ ?_);have hl:k<s.data.toList.length:=by simpa using hk
 exact List.getElem_mem hl
theorem isName_any (s:ByteArray) (w:World) (hs:s.size<=9223372036854775807) {b:Bool} (hb:b=true↔nameOk s.data.toList) :
  Calls prog 100 #[.string s] w fun e w'=>e = .returned (.bool b)/\w'=w:=by
 have HB:Hid (b=true↔nameOk s.data.toList):=hb;clear hb;by_cases h1:btw (s.size:Int) 1 12=true
 case neg=>
  have h1:btw (s.size:Int) 1 12=false:=by simpa using h1
  go_enter func100,ntmps100;go_wp2_with (first | (go_at_call 101;refine (between_any _ _ _ _).mono ?_;rintro e w' ⟨rfl,rfl⟩;rw[h1]));go_ret;have h3:=btw_false.1 h1;have h4:¬ nameOk s.data.toList:=by unfold nameOk;rw[size_list];omega
  have h5:b=false:=by rw[<- Bool.not_eq_true,HB.out];exact h4
  rw[h5];exact ⟨rfl,rfl⟩
 have h2:=btw_true.1 h1;have hs12:s.size<=12:=by omega
 have hs1 : 1<=s.size:=by omega
 go_enter func100,ntmps100;go_wp2_with (first | (go_at_call 101;refine (between_any _ _ _ _).mono ?_;rintro e w' ⟨rfl,rfl⟩;rw[h1]));go_loop [3,10] (fun _ i=>∃ k:Nat,k<=s.size/\i = .int .i64 k/\let_ s k) (fun _ i=>s.size-(intOf i).toNat)
 case atStart=>exact ⟨0,Nat.zero_le _,rfl,fun c hc=>by simp at hc⟩
 case round=>
  obtain ⟨k,hk,rfl,hlet⟩:=hrel;have HL:Hid (let_ s k):=hlet;clear hlet;by_cases hlt:k<s.size
  case neg=>
   obtain rfl:k=s.size:=(by omega);go_wp2;go_ret
   have h5:b=true:=HB.out.2 (by
    unfold nameOk;rw[size_list];exact ⟨hs1,hs12,let_all.1 HL.out⟩)
   rw[h5];exact ⟨rfl,rfl⟩
  case pos=>
   have hkI:(k:Int)<s.size:=(by omega);have hb:=s[k].toNat_lt;by_cases c1:s[k].toNat<97
   ·have c1I:(s[k].toNat:Int)<97:=(by omega);have c1D:decide ((s[k].toNat:Int)<97)=true:=(by simpa using c1I);have HX:Hid (¬ ∀ c ∈ s.data.toList,lettr c):=let_mono hlt (fun h=>by unfold lettr at h;omega);go_wp2;go_ret;have h5:b=false:=(by rw[<- Bool.not_eq_true,HB.out];exact fun h=>HX.out h.2.2);rw[h5];exact ⟨rfl,rfl⟩
   have c1I:¬ (s[k].toNat:Int)<97:=(by omega);have c1D:decide ((s[k].toNat:Int)<97)=false:=(by simpa using c1I);by_cases c2 : 122<s[k].toNat
   ·have c2I : 122<(s[k].toNat:Int):=(by omega);have c2D:decide (122<(s[k].toNat:Int))=true:=(by simpa using c2I);have HX:Hid (¬ ∀ c ∈ s.data.toList,lettr c):=let_mono hlt (fun h=>by unfold lettr at h;omega);go_wp2;go_ret;have h5:b=false:=(by rw[<- Bool.not_eq_true,HB.out];exact fun h=>HX.out h.2.2);rw[h5];exact ⟨rfl,rfl⟩
   have c2I:¬ 122<(s[k].toNat:Int):=(by omega);have c2D:decide (122<(s[k].toNat:Int))=false:=(by simpa using c2I);have HL2:Hid (let_ s (k+1)):=(let_snoc hlt).2 ⟨HL.out,by unfold lettr;omega⟩;go_wp2;go_round
   case rel=>exact ⟨k+1,by omega,by go_num,HL2.out⟩
   case measure=>simp[intOf];omega
def rV (r:Rl):Value:=.agg #[.string r.nm,.int .i64 r.k,.int .i64 r.f,.int .i64 r.t,.int .i64 r.wo,.int .i64 r.wi]
def errV (n:Nat):Value:=if n=0 then .nilIface else .iface 105 (.int .i64 (n:Int))
theorem bnd_iff (r:Rl):r.bnd↔btw r.k 0 3=true/\btw r.f 0 7=true/\btw r.t 0 7=true/\btw r.wo (-1) 7=true/\btw r.wi 1 50=true:=by simp only[btw_true];exact Iff.rfl
theorem check_any (r:Rl) (w:World) (hs:r.nm.size<=9223372036854775807) {n:Nat} (hn:r.flt n) :
  Calls prog 71 #[rV r] w fun e w'=>e = .returned (errV n)/\Below w.heap.size w w':=by
 have hbnd:=bnd_iff r;obtain ⟨nm,K,F,T,O,I⟩:=r;simp only at hs hbnd;unfold rV;simp only;have HN:Hid (∀ V (b:Bool),(b=true↔nameOk nm.data.toList)->Calls prog 100 #[.string nm] V fun e w'=>e = .returned (.bool b)/\w'=V):=fun V b hb=>isName_any nm V hs hb;by_cases hnm:nameOk nm.data.toList
 case neg=>have hn4:n=4:=flt_uniq hn (Or.inl ⟨hnm,rfl⟩);subst hn4;have HN1:Hid (∀ V,Calls prog 100 #[.string nm] V fun e w'=>e = .returned (.bool false)/\w'=V):=fun V=>HN.out V false ⟨fun h=>Bool.noConfusion h,fun h=>absurd h hnm⟩;clear hn hbnd HN hnm;go_enter func71,ntmps71;go_wp2_with (first | (go_at_call 100;refine (HN1.out _).mono ?_;rintro e w' ⟨rfl,rfl⟩));go_ret;exact ⟨rfl,(Below.refl _ _).alloc (Nat.le_refl _) _⟩
 have HN1:Hid (∀ V,Calls prog 100 #[.string nm] V fun e w'=>e = .returned (.bool true)/\w'=V):=fun V=>HN.out V true ⟨fun _=>hnm,fun _=>rfl⟩;have HF1:Hid (¬ (Rl.mk nm K F T O I).bnd->n=1):=fun h=>flt_uniq hn (Or.inr (Or.inl ⟨hnm,h,rfl⟩));have HF3:Hid ((Rl.mk nm K F T O I).bnd->¬ (F≠T/\F≠O/\T≠O)->n=3):=fun h h'=>flt_uniq hn (Or.inr (Or.inr (Or.inl ⟨hnm,h,h',rfl⟩)));have HF0:Hid ((Rl.mk nm K F T O I).bnd->(F≠T/\F≠O/\T≠O)->n=0):=fun h h'=>flt_uniq hn (Or.inr (Or.inr (Or.inr ⟨⟨hnm,h,h'⟩,rfl⟩)));clear hn HN hnm;by_cases h0:btw K 0 3=true
 case neg=>
  have hn1:n=1:=HF1.out (fun h=>h0 (hbnd.1 h).1);subst hn1;have h0:btw K 0 3=false:=by simpa using h0
  clear HF1 HF3 HF0 hbnd;go_enter func71,ntmps71;go_wp2_with (first | (go_at_call 100;refine (HN1.out _).mono ?_;rintro e w' ⟨rfl,rfl⟩) | (go_at_call 101;refine (between_any _ _ _ _).mono ?_;rintro e w' ⟨rfl,rfl⟩));go_ret;exact ⟨rfl,(Below.refl _ _).alloc (Nat.le_refl _) _⟩
 by_cases h1:btw F 0 7=true
 case neg=>
  have hn1:n=1:=HF1.out (fun h=>h1 (hbnd.1 h).2.1);subst hn1;have h1:btw F 0 7=false:=by simpa using h1
  clear HF1 HF3 HF0 hbnd;go_enter func71,ntmps71;go_wp2_with (first | (go_at_call 100;refine (HN1.out _).mono ?_;rintro e w' ⟨rfl,rfl⟩) | (go_at_call 101;refine (between_any _ _ _ _).mono ?_;rintro e w' ⟨rfl,rfl⟩));go_ret;exact ⟨rfl,(Below.refl _ _).alloc (Nat.le_refl _) _⟩
 by_cases h2:btw T 0 7=true
 case neg=>
  have hn1:n=1:=HF1.out (fun h=>h2 (hbnd.1 h).2.2.1);subst hn1;have h2:btw T 0 7=false:=by simpa using h2
  clear HF1 HF3 HF0 hbnd;go_enter func71,ntmps71;go_wp2_with (first | (go_at_call 100;refine (HN1.out _).mono ?_;rintro e w' ⟨rfl,rfl⟩) | (go_at_call 101;refine (between_any _ _ _ _).mono ?_;rintro e w' ⟨rfl,rfl⟩));go_ret;exact ⟨rfl,(Below.refl _ _).alloc (Nat.le_refl _) _⟩
 by_cases h3:btw O (-1) 7=true
 case neg=>
  have hn1:n=1:=HF1.out (fun h=>h3 (hbnd.1 h).2.2.2.1);subst hn1;have h3:btw O (-1) 7=false:=by simpa using h3
  clear HF1 HF3 HF0 hbnd;go_enter func71,ntmps71;go_wp2_with (first | (go_at_call 100;refine (HN1.out _).mono ?_;rintro e w' ⟨rfl,rfl⟩) | (go_at_call 101;refine (between_any _ _ _ _).mono ?_;rintro e w' ⟨rfl,rfl⟩));go_ret;exact ⟨rfl,(Below.refl _ _).alloc (Nat.le_refl _) _⟩
 by_cases h4:btw I 1 50=true
 case neg=>
  have hn1:n=1:=HF1.out (fun h=>h4 (hbnd.1 h).2.2.2.2);subst hn1;have h4:btw I 1 50=false:=by simpa using h4
  clear HF1 HF3 HF0 hbnd;go_enter func71,ntmps71;go_wp2_with (first | (go_at_call 100;refine (HN1.out _).mono ?_;rintro e w' ⟨rfl,rfl⟩) | (go_at_call 101;refine (between_any _ _ _ _).mono ?_;rintro e w' ⟨rfl,rfl⟩));go_ret;exact ⟨rfl,(Below.refl _ _).alloc (Nat.le_refl _) _⟩
 have hB:=hbnd.2 ⟨h0,h1,h2,h3,h4⟩;have HG3:Hid (¬ (F≠T/\F≠O/\T≠O)->n=3):=HF3.out hB;have HG0:Hid ((F≠T/\F≠O/\T≠O)->n=0):=HF0.out hB;clear hB HF1 HF3 HF0 hbnd;by_cases e0:F=T
 case pos=>
  have hn3:n=3:=HG3.out (fun h=>absurd e0 h.1);subst hn3;have e0':(F == T)=true:=by simpa using e0
  clear HG3 HG0 e0;go_enter func71,ntmps71;go_wp2_with (first | (go_at_call 100;refine (HN1.out _).mono ?_;rintro e w' ⟨rfl,rfl⟩) | (go_at_call 101;refine (between_any _ _ _ _).mono ?_;rintro e w' ⟨rfl,rfl⟩));go_ret;exact ⟨rfl,(Below.refl _ _).alloc (Nat.le_refl _) _⟩
 have e0':(F == T)=false:=by simpa using e0
 by_cases e1:F=O
 case pos=>
  have hn3:n=3:=HG3.out (fun h=>absurd e1 h.2.1);subst hn3;have e1':(F == O)=true:=by simpa using e1
  clear HG3 HG0 e1;go_enter func71,ntmps71;go_wp2_with (first | (go_at_call 100;refine (HN1.out _).mono ?_;rintro e w' ⟨rfl,rfl⟩) | (go_at_call 101;refine (between_any _ _ _ _).mono ?_;rintro e w' ⟨rfl,rfl⟩));go_ret;exact ⟨rfl,(Below.refl _ _).alloc (Nat.le_refl _) _⟩
 have e1':(F == O)=false:=by simpa using e1
 by_cases e2:T=O
 case pos=>
  have hn3:n=3:=HG3.out (fun h=>absurd e2 h.2.2);subst hn3;have e2':(T == O)=true:=by simpa using e2
  clear HG3 HG0 e2;go_enter func71,ntmps71;go_wp2_with (first | (go_at_call 100;refine (HN1.out _).mono ?_;rintro e w' ⟨rfl,rfl⟩) | (go_at_call 101;refine (between_any _ _ _ _).mono ?_;rintro e w' ⟨rfl,rfl⟩));go_ret;exact ⟨rfl,(Below.refl _ _).alloc (Nat.le_refl _) _⟩
 have e2':(T == O)=false:=by simpa using e2
 have hn0:n=0:=HG0.out ⟨e0,e1,e2⟩;subst hn0;clear HG3 HG0;go_enter func71,ntmps71;go_wp2_with (first | (go_at_call 100;refine (HN1.out _).mono ?_;rintro e w' ⟨rfl,rfl⟩) | (go_at_call 101;refine (between_any _ _ _ _).mono ?_;rintro e w' ⟨rfl,rfl⟩));go_ret;exact ⟨rfl,(Below.refl _ _).alloc (Nat.le_refl _) _⟩
end RuA
namespace RuA
open Go.RowKit RuM
structure Cells6 (V:World) (r:Nat) (a b c d e f:Value):Prop where
 c0:V.cell? ⟨r,0,none⟩=some a
 c1:V.cell? ⟨r,1,none⟩=some b
 c2:V.cell? ⟨r,2,none⟩=some c
 c3:V.cell? ⟨r,3,none⟩=some d
 c4:V.cell? ⟨r,4,none⟩=some e
 c5:V.cell? ⟨r,5,none⟩=some f
 fz:∀ i:Nat,V.frozen? ⟨r,i,none⟩=false
 lt:r<V.heap.size
theorem froz_block {V V':World} {r:Nat} (h:V'.heap[r]?=V.heap[r]?) (i:Nat):V'.frozen? ⟨r,i,none⟩=V.frozen? ⟨r,i,none⟩:=by unfold World.frozen?;simp only[h]
theorem Cells6.move {V V':World} {r:Nat} {a b c d e f:Value} (h:Cells6 V r a b c d e f) (hb:V'.heap[r]?=V.heap[r]?) (hs:V.heap.size<=V'.heap.size):Cells6 V' r a b c d e f where
 c0:=by rw[World.cell?_of_block hb];exact h.c0
 c1:=by rw[World.cell?_of_block hb];exact h.c1
 c2:=by rw[World.cell?_of_block hb];exact h.c2
 c3:=by rw[World.cell?_of_block hb];exact h.c3
 c4:=by rw[World.cell?_of_block hb];exact h.c4
 c5:=by rw[World.cell?_of_block hb];exact h.c5
 fz:=fun i=>by rw[froz_block hb];exact h.fz i
 lt:=Nat.lt_of_lt_of_le h.lt hs
end RuA
namespace TkA
open Go.RowKit TkM TkW Go.Maps
structure EsOn (w:World) (a:Option Addr) (E:List (List Sg)):Prop where
 at_:E≠[]->∃ b o,a=some ⟨b,o,none⟩/\b<w.heap.size/\∀ k l,E[k]?=some l->∃ p cap,w.cell? ⟨b,o+k,none⟩=some (.slice p l.length cap)/\SgsOn w p l
theorem EsOn.below {w w':World} {a:Option Addr} {E:List (List Sg)} (h:EsOn w a E) (hb:Below w.heap.size w w'):EsOn w' a E where
 at_:=fun hne=>by obtain ⟨b,o,rfl,hlt,hc⟩:=h.at_ hne;refine ⟨b,o,rfl,Nat.lt_of_lt_of_le hlt hb.size,fun k l hl=>?_⟩;obtain ⟨p,cap,h1,h2⟩:=hc k l hl;exact ⟨p,cap,by rw[hb.cell hlt];exact h1,h2.below hb⟩
def goodL (l:List Sg):Bool:=decide (l.length<=6000)&&l.all (fun x=>decide (x.g.size<=20))
def light (E:List (List Sg)):Bool:=decide (E.length<=100)&&E.all goodL
theorem goodL_iff {l:List Sg}:goodL l=true↔l.length<=6000/\∀ x,x ∈ l->x.g.size<=20:=by simp[goodL]
theorem light_iff {E:List (List Sg)}:light E=true↔E.length<=100/\∀ l,l ∈ E->goodL l=true:=by simp[light]
end TkA
namespace TkA
open Go.RowKit TkM TkW Go.Maps
theorem sbeq_iff (a b:ByteArray):(a.toList == b.toList)=true↔a=b:=by rw[beq_iff_eq,ByteArray.toList_eq,ByteArray.toList_eq];exact ⟨fun h=>bytes_ext h,fun h=>by rw[h]⟩
theorem sbeq_true {a b:ByteArray} (h:a=b):(a.toList == b.toList)=true:=(sbeq_iff a b).2 h
theorem sbeq_false {a b:ByteArray} (h:¬ a=b):(a.toList == b.toList)=false:=by
 cases h':(a.toList == b.toList)
 ·rfl
 ·exact absurd ((sbeq_iff a b).1 h') h
structure RfV (w:World) (rb:Nat) (W need:Nat) (p:Option Addr) (cap:Nat) (E:List (List Sg)):Prop where
 c0:w.cell? ⟨rb,0,none⟩=some (.int .i64 (W:Int))
 c1:w.cell? ⟨rb,1,none⟩=some (.int .i64 (need:Int))
 c2:w.cell? ⟨rb,2,none⟩=some (.slice p E.length cap)
 on:EsOn w p E
 lt:rb<w.heap.size
 good:light E=true
 ok:∀ l,l ∈ E->l.all okS=true
theorem RfV.below {w w':World} {rb W need:Nat} {p:Option Addr} {cap:Nat} {E:List (List Sg)} (h:RfV w rb W need p cap E) (hb:Below w.heap.size w w'):RfV w' rb W need p cap E where
 c0:=by rw[hb.cell h.lt];exact h.c0
 c1:=by rw[hb.cell h.lt];exact h.c1
 c2:=by rw[hb.cell h.lt];exact h.c2
 on:=h.on.below hb
 lt:=Nat.lt_of_lt_of_le h.lt hb.size
 good:=h.good
 ok:=h.ok
section
variable {w : World} {rb W need : Nat} {p : Option Addr} {cap : Nat} {E : List (List Sg)}
theorem told_take {g:ByteArray} {E:List (List Sg)} {k:Nat} (hk:k<E.length):told g (E.take (k+1))=(told g (E.take k)||seenG g E[k]):=by unfold told;rw[List.take_add_one,List.getElem?_eq_getElem hk,List.any_append];simp
theorem seen_take {g:ByteArray} {l:List Sg} {k:Nat} (hk:k<l.length):seenG g (l.take (k+1))=(seenG g (l.take k)||decide (l[k].g=g)):=by rw[List.take_add_one,List.getElem?_eq_getElem hk];exact seen_snoc g _ _
theorem told_any (g:ByteArray) (d:RfV w rb W need p cap E) :
  Calls prog 92 #[.pointer (some ⟨rb,0,none⟩),.string g,.int .i64 (E.length:Int)] w fun e w'=>e = .returned (.bool (told g E))/\w'=w:=by
 obtain ⟨N,hN⟩:∃ N,N=E.length:=⟨_,rfl⟩;obtain ⟨r,hr⟩:∃ r,r=told g E:=⟨_,rfl⟩;have HN:Hid (N=E.length):=hN;have HR:Hid (r=told g E):=hr;have HE:Hid (EsOn w p E):=d.on;have c2:=d.c2;obtain ⟨hn25,hgl⟩:=light_iff.1 d.good;have HGL:Hid (∀ l,l ∈ E->goodL l=true):=hgl;rw[<- hN] at hn25 c2 ⊢;rw[<- hr];clear hN hr d hgl;go_enter func92,ntmps92;go_wp2;go_loopw [7,8] (fun i _ V=>∃ k:Nat,k<=N/\i = .int .i64 (k:Int)/\V=w/\told g (E.take k)=false) (fun i _ _=>N-(intOf i).toNat)
 case atStart=>exact ⟨0,Nat.zero_le _,rfl,rfl,rfl⟩
 case round=>
  obtain ⟨k,hk,rfl,rfl,hall⟩:=hrel;by_cases hlt:k<N
  case neg=>have hkk:k=N:=(by omega);subst hkk;have hrt:r=false:=(by rw[HR.out];rw[HN.out,List.take_length] at hall;exact hall);have hII:¬ (k:Int)<k:=(by omega);clear hall hlt;go_wp2;go_ret;exact ⟨rfl,rfl⟩
  case pos=>
   have hkI:(k:Int)<N:=(by omega);have hkI2:(k:Int)<=N:=(by omega);have hk':k<E.length:=(by rw[<- HN.out];exact hlt);obtain ⟨b,o,rfl,hbl,hc⟩:=HE.out.at_ (by intro e;rw[e] at hk';simp at hk');obtain ⟨q,cp,c0,hs⟩:=hc k _ (List.getElem?_eq_getElem hk');have hmem:=List.getElem_mem hk';obtain ⟨hl25,hl20⟩:=goodL_iff.1 (HGL.out _ hmem);have HA:Hid (seenG g E[k]=false->told g (E.take (k+1))=false):=fun h=>(by rw[told_take hk',hall,h];rfl);have HF:Hid (seenG g E[k]=true->r=true):=fun h=>(by rw[HR.out];exact List.any_eq_true.2 ⟨_,hmem,h⟩);generalize E[k]=l at *;obtain ⟨m,hm⟩:∃ m,m=l.length:=⟨_,rfl⟩;have HM:Hid (m=l.length):=hm;rw[<- hm] at c0 hl25;have HS:Hid (SgsOn wr q l):=hs;have HB2:Hid (∀ x,x ∈ l->x.g.size<=20):=hl20;clear hc hmem hall hm hs hl20;go_wp2;go_loopw [8] (fun i V=>∃ j:Nat,j<=m/\i = .int .i64 (j:Int)/\V=wr/\seenG g (l.take j)=false) (fun i _=>m-(intOf i).toNat)
   case atStart=>exact ⟨0,Nat.zero_le _,rfl,rfl,rfl⟩
   case round=>
    obtain ⟨j,hj,rfl,rfl,hal⟩:=hrel;by_cases hlj:j<m
    case neg=>have hjj:j=m:=(by omega);subst hjj;have hII:¬ (j:Int)<j:=(by omega);have HG:Hid (seenG g l=false):=(by rw[HM.out,List.take_length] at hal;exact hal);clear hal hlj;go_wp2;refine ⟨⟨k+1,by omega,by go_num,trivial,HA.out HG.out⟩,by simp[intOf];omega⟩
    case pos=>
     have hjI:(j:Int)<m:=(by omega);have hj':j<l.length:=(by rw[<- HM.out];exact hlj);obtain ⟨b',o',rfl,hbl',hc'⟩:=HS.out.at_ (by intro e;rw[e] at hj';simp at hj');have a3:=(hc' j _ (List.getElem?_eq_getElem hj')).c3;have hm2:=List.getElem_mem hj';have hgb:=HB2.out _ hm2;have HA2:Hid (¬ l[j].g=g->seenG g (l.take (j+1))=false):=fun h=>(by rw[seen_take hj',hal];simp[h]);have HF2:Hid (l[j].g=g->r=true):=fun h=>HF.out (seen_iff.2 ⟨_,hm2,h⟩);generalize l[j]=x at *;obtain ⟨xp,xs,xt,xg⟩:=x;simp only at a3 hgb;clear hc' hm2 hal;by_cases hq:xg=g
     ·have hqb:=sbeq_true hq;have HRT:Hid (r=true):=HF2.out hq;go_wp2;go_ret;exact ⟨congrArg (fun x=>Ending.returned (.bool x)) HRT.out.symm,rfl⟩
     ·have hqb:=sbeq_false hq;go_wp2;go_roundw
      case rel=>exact ⟨j+1,by omega,by go_num,trivial,HA2.out hq⟩
      case measure=>simp[intOf];omega
end
end TkA
namespace TkA
open Go.RowKit TkM TkW Go.Maps
theorem epOf_at {E:List (List Sg)} {e:Nat} (h:e<E.length):epOf E e=E[e]:=by unfold epOf;rw[List.getD_eq_getElem?_getD,List.getElem?_eq_getElem h];rfl
theorem seenAt_take {g:ByteArray} {p:Int} {l:List Sg} {k:Nat} (hk:k<l.length):seenAt g p (l.take (k+1))=(seenAt g p (l.take k)||at1 g p l[k]):=by rw[List.take_add_one,List.getElem?_eq_getElem hk];exact seenAt_snoc g p _ _
theorem sumAt_take {g:ByteArray} {p:Int} {l:List Sg} {k:Nat} (hk:k<l.length):sumAt g p (l.take (k+1))=sumAt g p (l.take k)+(if at1 g p l[k]=true then l[k].s else 0):=by rw[List.take_add_one,List.getElem?_eq_getElem hk];exact sumAt_snoc g p _ _
section
variable {w : World} {rb W need : Nat} {p : Option Addr} {cap : Nat} {E : List (List Sg)}
theorem RfV.sok (d:RfV w rb W need p cap E):∀ e x,x ∈ epOf E e->0<=x.s/\x.s<=255:=fun e x hx=>by
 by_cases h:e<E.length
 ·exact (okS_iff.1 (List.all_eq_true.1 (d.ok _ (epOf_mem h)) x hx)).2
 ·rw[epOf_past E (by omega)] at hx;simp at hx
theorem RfV.len (d:RfV w rb W need p cap E):∀ e,(epOf E e).length<=6000:=fun e=>by
 by_cases h:e<E.length
 ·exact (goodL_iff.1 ((light_iff.1 d.good).2 _ (epOf_mem h))).1
 ·rw[epOf_past E (by omega)];simp
theorem counts_any (g:ByteArray) (pl e:Nat) (d:RfV w rb W need p cap E) (he:e<E.length) (hW:W<=8) :
  Calls prog 148 #[.pointer (some ⟨rb,0,none⟩),.string g,.int .i64 (pl:Int),.int .i64 (e:Int)] w fun x w'=>x = .returned (.tuple #[.int .i64 (cW g (epOf E) W e pl:Int),.int .i64 (sW g (epOf E) W e pl)])/\Below w.heap.size w w':=by
 have HSM:Hid (∀ L k,0<=sm g (pl:Int) (epOf E) L k/\sm g (pl:Int) (epOf E) L k<=1530000*(k:Int)):=fun L k=>sm_bound g (pl:Int) (epOf E) L d.len d.sok k
 have HSB:Hid (∀ e k,0<=sumAt g (pl:Int) ((epOf E e).take k)/\sumAt g (pl:Int) ((epOf E e).take k)<=1530000):=fun e k=>by
  have h1:=sumAt_bound g (pl:Int) ((epOf E e).take k) (fun x hx=>d.sok e x (List.mem_of_mem_take hx));have h2:=d.len e;have h3:((epOf E e).take k).length<=6000:=by rw[List.length_take];omega
  omega
 have HOK:Hid (∀ e x,x ∈ epOf E e->0<=x.s/\x.s<=255):=d.sok;have HD:Hid (RfV w rb W need p cap E):=d;obtain ⟨hn25,_⟩:=light_iff.1 d.good;obtain ⟨N,hN⟩:∃ N,N=E.length:=⟨_,rfl⟩;have HN:Hid (N=E.length):=hN;rw[<- hN] at he hn25;have c0:=d.c0;have hWI:(W:Int)<=8:=by omega
 have heI:(e:Int)<=100:=by omega
 have hml:=@max_lo W e;obtain ⟨L,hL⟩:∃ L,L=lo W e:=⟨_,rfl⟩;have hL1:L<=e+1:=by rw[hL];unfold lo;omega
 have hL8:e+1-L<=8:=by rw[hL];unfold lo;omega
 have HC:Hid (cW g (epOf E) W e pl=cnt g (pl:Int) (epOf E) L (e+1-L)/\sW g (epOf E) W e pl=sm g (pl:Int) (epOf E) L (e+1-L)):=by rw[hL];exact ⟨rfl,rfl⟩
 rw[<- hL] at hml;clear hL d hN;go_enter func148,ntmps148;go_wp2;clear c0 hml;go_loopw [10,11,12,13,14,15] (fun a b c _ _ _ V=>∃ j:Nat,j<=e+1-L/\c = .int .i64 ((L+j:Nat):Int)/\a = .int .i64 (cnt g (pl:Int) (epOf E) L j:Int)/\b = .int .i64 (sm g (pl:Int) (epOf E) L j)/\Below w.heap.size w V) (fun _ _ c _ _ _ _=>e+1-(intOf c).toNat)
 case atStart=>exact ⟨0,Nat.zero_le _,rfl,rfl,rfl,Below.refl _ _⟩
 case round=>
  obtain ⟨j,hj,rfl,rfl,rfl,hbl⟩:=hrel;by_cases hlt:L+j<=e
  case neg=>have hjj:j=e+1-L:=(by omega);have hI:¬ ((L+j:Nat):Int)<=e:=(by omega);have HB:Hid (Below w.heap.size w wr):=hbl;subst hjj;obtain ⟨cc,hcc⟩:∃ cc,cc=cnt g (pl:Int) (epOf E) L (e+1-L):=⟨_,rfl⟩;obtain ⟨sc,hsc⟩:∃ sc,sc=sm g (pl:Int) (epOf E) L (e+1-L):=⟨_,rfl⟩;have HC2:Hid (cc=cW g (epOf E) W e pl/\sc=sW g (epOf E) W e pl):=(by show _/\_;rw[HC.out.1,HC.out.2];exact ⟨hcc,hsc⟩);rw[<- hcc,<- hsc];clear hbl hcc hsc;go_wp2;go_ret2;exact ⟨by rw[<- HC2.out.1,<- HC2.out.2];rfl,HB.out⟩
  case pos=>
   have hI:((L+j:Nat):Int)<=e:=(by omega);obtain ⟨K,hK⟩:∃ K,K=L+j:=⟨_,rfl⟩;rw[<- hK] at hI ⊢;have HK:Hid (K=L+j):=hK;have hK9:(K:Int)<=100:=(by omega);have hKN:(K:Int)<N:=(by omega);have hj':j<e+1-L:=(by omega);have hKE:K<E.length:=(by rw[<- HN.out];omega);clear hK hlt hj;have HB:Hid (Below w.heap.size w wr):=hbl;have hd:=HD.out.below hbl;obtain ⟨b,o,rfl,hb,hc⟩:=hd.on.at_ (by intro e;rw[e] at hKE;simp at hKE);obtain ⟨q,cp,k0,hs⟩:=hc K _ (List.getElem?_eq_getElem hKE);rw[<- epOf_at hKE] at k0 hs;obtain ⟨l,hl⟩:∃ l,l=epOf E K:=⟨_,rfl⟩;rw[<- hl] at k0 hs;obtain ⟨m,hm⟩:∃ m,m=l.length:=⟨_,rfl⟩;rw[<- hm] at k0;have hm25:m<=6000:=(by rw[hm,hl];exact hd.len K);have HM:Hid (m=l.length):=hm;have HL:Hid (l=epOf E K):=hl;have HS:Hid (SgsOn wr q l):=hs;obtain ⟨cc,hcc⟩:∃ cc,cc=cnt g (pl:Int) (epOf E) L j:=⟨_,rfl⟩;obtain ⟨sc,hsc⟩:∃ sc,sc=sm g (pl:Int) (epOf E) L j:=⟨_,rfl⟩;have hcc8:(cc:Int)<=8:=(by have:=cnt_le g (pl:Int) (epOf E) L j;omega);have hsc0 : 0<=sc:=(by rw[hsc];exact (HSM.out L j).1);have hsc1:sc<=12240000:=(by have:=(HSM.out L j).2;omega);have HCC:Hid (cc=cnt g (pl:Int) (epOf E) L j/\sc=sm g (pl:Int) (epOf E) L j):=⟨hcc,hsc⟩;rw[<- hcc,<- hsc];have k2:=hd.c2;rw[<- HN.out] at k2;have hrb:=hd.lt;have HK0:Hid (∀ V,Below wr.heap.size wr V->V.cell? ⟨b,o+K,none⟩=some (.slice q m cp)/\V.cell? ⟨rb,2,none⟩=some (.slice (some ⟨b,o,none⟩) N cap)):=fun V hV=>⟨by rw[hV.cell hb];exact k0,by rw[hV.cell hrb];exact k2⟩;clear hc hd hbl hs hl hm hcc hsc k0 k2;obtain ⟨V1,hV1⟩:∃ V1,V1=wr:=⟨_,rfl⟩;rw[<- hV1] at HB HS HK0 hb hrb ⊢;clear hV1;go_wp2;go_loopw [11,13,14,15] (fun a s i _ V=>∃ (k:Nat) (sb:Bool) (sv:Int),k<=m/\i = .int .i64 (k:Int)/\s = .bool sb/\a = .int .i64 sv/\sb=seenAt g (pl:Int) (l.take k)/\sv=sc+sumAt g (pl:Int) (l.take k)/\Below V1.heap.size V1 V) (fun _ _ i _ _=>m-(intOf i).toNat)
   case atStart=>exact ⟨0,false,sc,Nat.zero_le _,rfl,rfl,rfl,rfl,by simp[sumAt],Below.refl _ _⟩
   case round=>
    obtain ⟨k,sb,sv,hk,rfl,rfl,rfl,hsb,hsv,hbl⟩:=hrel;obtain ⟨k0,k2⟩:=HK0.out wr hbl;by_cases hlk:k<m
    case neg=>
     have hkk:k=m:=(by omega);subst hkk;have hII:¬ (k:Int)<k:=(by omega);rw[HM.out,List.take_length] at hsb hsv;have HBW:Hid (Below w.heap.size w wr):=HB.out.trans (hbl.mono HB.out.size);cases sb with
     | false=>
      have HREL:Hid ((cc:Int)=(cnt g (pl:Int) (epOf E) L (j+1):Int)/\sv=sm g (pl:Int) (epOf E) L (j+1)):=(by show _/\_;rw[cntS,smS,<- HK.out,<- HL.out,<- hsb,hsv,HCC.out.1,HCC.out.2];simp);clear hsb hsv hbl hlk;go_wp2;exact ⟨⟨j+1,by omega,by rw[HK.out];congr 1,by rw[HREL.out.1],by rw[HREL.out.2],HBW.out⟩,by simp[intOf];omega⟩
     | true=>
      have HREL:Hid ((cc:Int)+1=(cnt g (pl:Int) (epOf E) L (j+1):Int)/\sv=sm g (pl:Int) (epOf E) L (j+1)):=(by show _/\_;rw[cntS,smS,<- HK.out,<- HL.out,<- hsb,hsv,HCC.out.1,HCC.out.2];simp);clear hsb hsv hbl hlk;go_wp2;exact ⟨⟨j+1,by omega,by rw[HK.out];congr 1,by rw[HREL.out.1],by rw[HREL.out.2],HBW.out⟩,by simp[intOf];omega⟩
    case pos=>
     have hkI:(k:Int)<m:=(by omega);have hk':k<l.length:=(by rw[<- HM.out];exact hlk);obtain ⟨b',o',rfl,hb',hc'⟩:=HS.out.at_ (by intro e;rw[e] at hk';simp at hk');obtain ⟨a0,a1,a2,a3⟩:=(hc' k _ (List.getElem?_eq_getElem hk')).keep (hbl.block b' hb');have hxs:=HOK.out K l[k] (by rw[<- HL.out];exact List.getElem_mem hk');have hsvb : 0<=sv/\sv<=14000000:=(by have:=HSB.out K k;rw[<- HL.out] at this;omega);have hS1:∀ b,at1 g (pl:Int) l[k]=b->seenAt g (pl:Int) (l.take (k+1))=(sb||b):=fun b h=>(by rw[seenAt_take hk',h,hsb]);have hS2:∀ b,at1 g (pl:Int) l[k]=b->sc+sumAt g (pl:Int) (l.take (k+1))=sv+(if b=true then l[k].s else 0):=fun b h=>(by rw[sumAt_take hk',h,hsv];omega);have HS1:Hid (∀ b,at1 g (pl:Int) l[k]=b->seenAt g (pl:Int) (l.take (k+1))=(sb||b)):=hS1;have HS2:Hid (∀ b,at1 g (pl:Int) l[k]=b->sc+sumAt g (pl:Int) (l.take (k+1))=sv+(if b=true then l[k].s else 0)):=hS2;clear hS1 hS2 hc' hsb hsv;generalize l[k]=x at *;obtain ⟨xp,xs,xt,xg⟩:=x;simp only at a0 a1 a2 a3 hxs HS2;obtain ⟨hxs0,hxs1⟩:=hxs;obtain ⟨hsv0,hsv1⟩:=hsvb;have HBL:Hid (Below V1.heap.size V1 wr):=hbl;clear hbl;by_cases hq:xg=g
     ·have hqb:=sbeq_true hq;by_cases hp:xp=(pl:Int)
      ·have hpb:(xp == (pl:Int))=true:=(by simpa using hp);have ha:at1 g (pl:Int) ⟨xp,xs,xt,xg⟩=true:=at1_iff.2 ⟨hq,hp⟩;have HR:Hid (seenAt g (pl:Int) (l.take (k+1))=true/\sc+sumAt g (pl:Int) (l.take (k+1))=sv+xs):=⟨by rw[HS1.out _ ha];simp,by rw[HS2.out _ ha];simp⟩;clear ha hp hq;go_wp2;go_roundw
       case rel=>exact ⟨k+1,true,sv+xs,by omega,by go_num,rfl,by go_num,HR.out.1.symm,HR.out.2.symm,HBL.out.alloc HBL.out.size _⟩
       case measure=>simp[intOf];omega
      ·have hpb:(xp == (pl:Int))=false:=(by simpa using hp);have ha:at1 g (pl:Int) ⟨xp,xs,xt,xg⟩=false:=(by simp[at1,hp]);have HR:Hid (seenAt g (pl:Int) (l.take (k+1))=sb/\sc+sumAt g (pl:Int) (l.take (k+1))=sv):=⟨by rw[HS1.out _ ha];simp,by rw[HS2.out _ ha];simp⟩;clear ha hp hq;go_wp2;go_roundw
       case rel=>exact ⟨k+1,sb,sv,by omega,by go_num,rfl,rfl,HR.out.1.symm,HR.out.2.symm,HBL.out.alloc HBL.out.size _⟩
       case measure=>simp[intOf];omega
     ·have hqb:=sbeq_false hq;have ha:at1 g (pl:Int) ⟨xp,xs,xt,xg⟩=false:=(by simp[at1,hq]);have HR:Hid (seenAt g (pl:Int) (l.take (k+1))=sb/\sc+sumAt g (pl:Int) (l.take (k+1))=sv):=⟨by rw[HS1.out _ ha];simp,by rw[HS2.out _ ha];simp⟩;clear ha hq;go_wp2;go_roundw
      case rel=>exact ⟨k+1,sb,sv,by omega,by go_num,rfl,rfl,HR.out.1.symm,HR.out.2.symm,HBL.out.alloc HBL.out.size _⟩
      case measure=>simp[intOf];omega
end
end TkA
end Go.Proofs.YtmolafjalaeoaaaGreatDoor
