/-
  RuP RuQ WaM WaN
-/
import Derived.Test.YtmolafjalaeoaaaGreatDoorQaq
import Derived.Test.YtmolafjalaeoaaaGreatDoorQal
set_option maxRecDepth 100000
set_option maxHeartbeats 8000000
namespace Go.Proofs.YtmolafjalaeoaaaGreatDoor
open Tryz
namespace HlA
open Go.RowKit
def ofK (s:ByteArray) (k:Int):Bool:=decide (0<InA.knd s)&&(k == 0||(InA.knd s:Int) == k)
theorem isOfKind_any (s:ByteArray) (k:Int) (w:World) (hT:TagA.Tabs w) (hs:s.size<=100000) :
  Calls prog 114 #[.string s,.int .i64 k] w fun e w'=>e = .returned (.bool (ofK s k))/\Below w.heap.size w w':=by
 have HP:Hid (Calls prog 24 #[.string s] w fun e w'=>e = .returned (TagA.parseV s)/\Below w.heap.size w w'):=TagA.parse_any s w hT (by unfold maxLen;omega);unfold ofK;rcases InA.parse_knd s with ⟨h0,F,P,C,R,S,hv⟩ | ⟨h0,hv⟩
 ·rw[hv] at HP;have hd:decide (0<InA.knd s)=true:=by simpa using h0
  rw[hd];unfold TagA.tagV at HP;generalize InA.knd s=n at *;clear hv hd;simp only[Bool.true_and];by_cases hk:k=0
  ·subst hk;simp only[beq_self_eq_true,Bool.true_or];go_enter func114,ntmps114;go_wp2_with fail;refine Calls.mono HP.out ?_;rintro e w1 ⟨rfl,hb⟩;have HB:Hid (∀ o,Below w.heap.size w (w1.alloc o)):=fun o=>hb.alloc hb.size o;clear hb;go_wp2;go_ret;exact ⟨rfl,HB.out _⟩
  ·have hk':(k == 0)=false:=(by simpa using hk);rw[hk'];simp only[Bool.false_or];go_enter func114,ntmps114;go_wp2_with fail;refine Calls.mono HP.out ?_;rintro e w1 ⟨rfl,hb⟩;have HB:Hid (∀ o,Below w.heap.size w (w1.alloc o)):=fun o=>hb.alloc hb.size o;clear hb;go_wp2;go_ret;exact ⟨rfl,HB.out _⟩
 ·rw[hv] at HP;unfold TagA.noTag at HP;rw[h0];clear hv h0;simp only[Nat.lt_irrefl,decide_false,Bool.false_and];go_enter func114,ntmps114;go_wp2_with fail;refine Calls.mono HP.out ?_;rintro e w1 ⟨rfl,hb⟩;have HB:Hid (∀ o,Below w.heap.size w (w1.alloc o)):=fun o=>hb.alloc hb.size o;clear hb;go_wp2;go_ret;exact ⟨rfl,HB.out _⟩
section
open TkM TkW TkA
variable {w : World} {tb : Nat} {who : Nat → Nat × ByteArray × Nat} {W need n r : Nat} {ep : Nat → List Sg}
def wasB (n:Nat) (t:Bool) (p e v:Int):Bool:=decide ((wv n t e v).2=0)&&(p != -1)&&((wv n t e v).1 == p)
theorem wasAt_any (g:ByteArray) (p e:Int) {t:Bool} (d:TrAt w tb who W need n r ep) (hW:W<=8) (hn:n<=1000) (hg:g.size<=100000) (ht:t=true↔∃ e,seenG g (ep e)=true) :
  Calls prog 116 #[.pointer (some ⟨tb,0,none⟩),.string g,.int .i64 p,.int .i64 e] w fun x w'=>x = .returned (.bool (wasB n t p e (whr g ep W need e.toNat)))/\Below w.heap.size w w':=by
 have HC:Hid (Calls prog 65 #[.pointer (some ⟨tb,0,none⟩),.string g,.int .i64 e] w fun x w'=>x = .returned (.tuple #[.int .i64 (wv n t e (whr g ep W need e.toNat)).1,errV (wv n t e (whr g ep W need e.toNat)).2])/\Below w.heap.size w w'):=where_any g e d hW hn hg ht;clear d ht;unfold wasB;generalize wv n t e (whr g ep W need e.toNat)=a at *;obtain ⟨q,k⟩:=a;simp only at *;by_cases hk:k=0
 ·subst hk;rw[show errV 0 = .nilIface from rfl] at HC;by_cases hp:p = -1
  ·subst hp;simp only[decide_true,bne_self_eq_false,Bool.and_false,Bool.false_and];go_enter func116,ntmps116;go_wp2_with fail;refine Calls.mono HC.out ?_;rintro x w1 ⟨rfl,hb1⟩;have HB1:Hid (Below w.heap.size w w1):=hb1;clear hb1;go_wp2;go_ret;exact ⟨rfl,HB1.out⟩
  ·have hp':(p != -1)=true:=(by simpa using hp);rw[hp'];simp only[decide_true,Bool.true_and];go_enter func116,ntmps116;go_wp2_with fail;refine Calls.mono HC.out ?_;rintro x w1 ⟨rfl,hb1⟩;have HB1:Hid (Below w.heap.size w w1):=hb1;clear hb1;go_wp2;go_ret;exact ⟨rfl,HB1.out⟩
 ·rw[errV_pos hk] at HC;have hk':decide (k=0)=false:=by simpa using hk
  rw[hk'];simp only[Bool.false_and];clear hk';go_enter func116,ntmps116;go_wp2_with fail;refine Calls.mono HC.out ?_;rintro x w1 ⟨rfl,hb1⟩;have HB1:Hid (Below w.heap.size w w1):=hb1;clear hb1;go_wp2;go_ret;exact ⟨rfl,HB1.out⟩
end
end HlA
namespace HlA
open Go.RowKit TkM TkW TkA RuM
def cm (g:ByteArray) (ep:Nat->List Sg) (W need n:Nat) (t:Bool) (p e:Int):Bool:=comesB n t p e (fun e=>whr g ep W need e.toNat)
def ws (g:ByteArray) (ep:Nat->List Sg) (W need n:Nat) (t:Bool) (p e:Int):Bool:=wasB n t p e (whr g ep W need e.toNat)
def HoldsP (g:ByteArray) (ep:Nat->List Sg) (W need n:Nat) (t:Bool) (r:Rl) (e:Int):Prop:=
 r.ok/\ofK g r.k=true/\cm g ep W need n t r.t e=true/\RuN.Back (cm g ep W need n t r.f) (ws g ep W need n t r.wo) (max 0 (e-r.wi)) e
structure HS (w V:World) (tb:Nat) (who:Nat->Nat×ByteArray×Nat) (W need n q:Nat) (ep:Nat->List Sg) (r:Rl):Prop where
 bl:Below w.heap.size w V
 d:TrAt V tb who W need n q ep
 T:TagA.Tabs V
 box:RuA.Cells6 V w.heap.size (.string r.nm) (.int .i64 r.k) (.int .i64 r.f) (.int .i64 r.t) (.int .i64 r.wo) (.int .i64 r.wi)
section
variable {w : World} {tb : Nat} {who : Nat → Nat × ByteArray × Nat} {W need n q : Nat} {ep : Nat → List Sg}
theorem HS.keep {V V':World} {r:Rl} (h:HS w V tb who W need n q ep r) (hb:Below V.heap.size V V'):HS w V' tb who W need n q ep r:=
 ⟨h.bl.trans (hb.mono h.bl.size),h.d.below hb,h.T.below hb h.T.size,h.box.move (hb.block _ h.box.lt) hb.size⟩
theorem hs_new (r:Rl) (d:TrAt w tb who W need n q ep) (hT:TagA.Tabs w):HS w (w.alloc (.cells #[.string r.nm,.int .i64 r.k,.int .i64 r.f,.int .i64 r.t,.int .i64 r.wo,.int .i64 r.wi] 32)) tb who W need n q ep r:=by
 have hB:Below w.heap.size w (w.alloc (.cells #[.string r.nm,.int .i64 r.k,.int .i64 r.f,.int .i64 r.t,.int .i64 r.wo,.int .i64 r.wi] 32)):=(Below.refl _ w).alloc (Nat.le_refl _) _;refine ⟨hB,d.below hB,hT.below hB hT.size,⟨?_,?_,?_,?_,?_,?_,?_,?_⟩⟩
 all_goals first | go_simp | (intro i;go_simp)
theorem holds_any (r:Rl) (g:ByteArray) (e:Int) {t b:Bool} (d:TrAt w tb who W need n q ep) (hT:TagA.Tabs w) (hW:W<=8) (hn:n<=1000) (hg:g.size<=100000) (ht:t=true↔∃ e,seenG g (ep e)=true) (he0 : -1<=e) (he1:e<=1000) (hnm:r.nm.size<=9223372036854775807)
  (hb:b=true↔HoldsP g ep W need n t r e) :
  Calls prog 79 #[.pointer (some ⟨tb,0,none⟩),RuA.rV r,.string g,.int .i64 e] w fun x w'=>x = .returned (.bool b)/\Below w.heap.size w w':=by
 have HB:Hid (b=true↔HoldsP g ep W need n t r e):=hb;have HN:Hid (∃ m,r.flt m):=flt_ex r;have HC:Hid (∀ (V:World) (p x:Int),TrAt V tb who W need n q ep->-1000<=x->x<=1000->Calls prog 115 #[.pointer (some ⟨tb,0,none⟩),.string g,.int .i64 p,.int .i64 x] V fun y w'=>y = .returned (.bool (cm g ep W need n t p x))/\Below V.heap.size V w'):=fun V p x hV h0 h1=>comes_any g p x hV hW (by omega) hg ht h0 h1;have HWA:Hid (∀ (V:World) (p x:Int),TrAt V tb who W need n q ep->Calls prog 116 #[.pointer (some ⟨tb,0,none⟩),.string g,.int .i64 p,.int .i64 x] V fun y w'=>y = .returned (.bool (ws g ep W need n t p x))/\Below V.heap.size V w'):=fun V p x hV=>wasAt_any g p x hV hW (by omega) hg ht;have HK:Hid (∀ (V:World) (k:Int),TagA.Tabs V->Calls prog 114 #[.string g,.int .i64 k] V fun y w'=>y = .returned (.bool (ofK g k))/\Below V.heap.size V w'):=fun V k hV=>isOfKind_any g k V hV hg;have HH:Hid _:=hs_new r d hT;have HCK:Hid (∀ (V:World) (m:Nat),r.flt m->Calls prog 71 #[RuA.rV r] V fun y w'=>y = .returned (RuA.errV m)/\Below V.heap.size V w'):=fun V m hm=>RuA.check_any r V hnm hm;clear hb d hT ht hnm;unfold RuA.rV at HCK ⊢;by_cases hok:r.ok
 case neg=>
  have hbf:b=false:=by rw[<- Bool.not_eq_true,HB.out];exact fun h=>hok h.1
  subst hbf;obtain ⟨m,hm⟩:=HN.out;have hm0:m≠0:=fun h=>hok ((flt_ok hm).1 h);have HX:Hid (∀ V:World,Calls prog 71 #[.agg #[.string r.nm,.int .i64 r.k,.int .i64 r.f,.int .i64 r.t,.int .i64 r.wo,.int .i64 r.wi]] V fun y w'=>y = .returned (.iface 105 (.int .i64 (m:Int)))/\Below V.heap.size V w'):=fun V=>by have h:=HCK.out V m hm;rw[show RuA.errV m = .iface 105 (.int .i64 (m:Int)) from if_neg hm0] at h;exact h
  clear hok hm hm0 HN HCK;go_enter func79,ntmps79;go_wp2_with fail;refine (HX.out _).mono ?_;rintro y V1 ⟨rfl,hb1⟩;have HB1:Hid (Below w.heap.size w V1):=(HH.out.keep hb1).bl;clear hb1;go_wp2;go_ret;exact ⟨rfl,HB1.out⟩
 have HX:Hid (∀ V:World,Calls prog 71 #[.agg #[.string r.nm,.int .i64 r.k,.int .i64 r.f,.int .i64 r.t,.int .i64 r.wo,.int .i64 r.wi]] V fun y w'=>y = .returned .nilIface/\Below V.heap.size V w'):=fun V=>HCK.out V 0 (Or.inr (Or.inr (Or.inr ⟨hok,rfl⟩)));have hF:=hok.2.1.2.1;have hI:=hok.2.1.2.2.2.2;have HOK:Hid r.ok:=hok;clear hok HN HCK;go_enter func79,ntmps79;go_wp2_with fail;refine (HX.out _).mono ?_;rintro y V1 ⟨rfl,hb1⟩;have HH1:Hid _:=HH.out.keep hb1;clear hb1 HH HX;have c1:=HH1.out.box.c1;go_wp2_with fail;refine (HK.out _ r.k HH1.out.T).mono ?_;rintro y V2 ⟨rfl,hb2⟩;have HH2:Hid _:=HH1.out.keep hb2;clear hb2 HH1 c1 HK;cases hkd:ofK g r.k with
 | false=>
  have hbf:b=false:=by rw[<- Bool.not_eq_true,HB.out];exact fun h=>by have h2:=h.2.1;rw[hkd] at h2;exact Bool.noConfusion h2
  subst hbf;go_wp2;go_ret;exact ⟨rfl,HH2.out.bl⟩
 | true=>
  have c3:=HH2.out.box.c3;go_wp2_with fail;refine (HC.out _ r.t e HH2.out.d (by omega) (by omega)).mono ?_;rintro y V3 ⟨rfl,hb3⟩;have HH3:Hid _:=HH2.out.keep hb3;clear hb3 HH2 c3;cases hct:cm g ep W need n t r.t e with
  | false=>
   have hbf:b=false:=(by rw[<- Bool.not_eq_true,HB.out];exact fun h=>by have h2:=h.2.2.1;rw[hct] at h2;exact Bool.noConfusion h2);subst hbf;go_wp2;go_ret;exact ⟨rfl,HH3.out.bl⟩
  | true=>
   have HBK:Hid (b=true↔RuN.Back (cm g ep W need n t r.f) (ws g ep W need n t r.wo) (max 0 (e-r.wi)) e):=⟨fun h=>(HB.out.1 h).2.2.2,fun h=>HB.out.2 ⟨HOK.out,hkd,hct,h⟩⟩;have w1:IntKind.i64.wrap (e-1)=e-1:=(by simp[IntKind.wrap,IntKind.bits,IntKind.signed];omega);have w2:IntKind.i64.wrap (e-r.wi)=e-r.wi:=(by simp[IntKind.wrap,IntKind.bits,IntKind.signed];omega);clear hkd hct HB HOK;go_wp2;go_loopw [9] (fun i V=>∃ x:Int,-1000<=x/\x<e/\i = .int .i64 x/\RuN.Down (cm g ep W need n t r.f) (ws g ep W need n t r.wo) e x/\HS w V tb who W need n q ep r) (fun i _=>((intOf i)+1000).toNat)
   case atStart=>exact ⟨e-1,by omega,by omega,rfl,RuN.down_start _ _ _,HH3.out⟩
   case round=>
    obtain ⟨x,hx0,hx1,rfl,hdn,hhs⟩:=hrel;have HDN:Hid (RuN.Down (cm g ep W need n t r.f) (ws g ep W need n t r.wo) e x):=hdn;have HHS:Hid (HS w wr tb who W need n q ep r):=hhs;have c5:=hhs.box.c5;have c2:=hhs.box.c2;clear hdn hhs HH3;by_cases hlo:max 0 (e-r.wi)<=x
    case neg=>have hl1:decide (max 0 (e-r.wi)<=x)=false:=(by simpa using hlo);have hbf:b=false:=(by rw[<- Bool.not_eq_true,HBK.out];exact RuN.down_end HDN.out (by omega));subst hbf;go_wp2;go_ret;exact ⟨rfl,HHS.out.bl⟩
    case pos=>
     have hl1:decide (max 0 (e-r.wi)<=x)=true:=(by simpa using hlo);go_wp2_with fail;refine (HC.out _ r.f x HHS.out.d (by omega) (by omega)).mono ?_;rintro y V4 ⟨rfl,hb4⟩;have HH4:Hid (HS w V4 tb who W need n q ep r):=HHS.out.keep hb4;clear hb4 HHS c5 c2;cases hcf:cm g ep W need n t r.f x with
     | true=>
      have hbt:b=true:=HBK.out.2 (RuN.down_yes HDN.out hlo hx1 hcf);subst hbt;go_wp2;go_ret;exact ⟨rfl,HH4.out.bl⟩
     | false=>
      have c4:=HH4.out.box.c4;go_wp2_with fail;refine (HWA.out _ r.wo x HH4.out.d).mono ?_;rintro y V5 ⟨rfl,hb5⟩;have HH5:Hid (HS w V5 tb who W need n q ep r):=HH4.out.keep hb5;clear hb5 HH4 c4;cases hwf:ws g ep W need n t r.wo x with
      | true=>
       have hbf:b=false:=(by rw[<- Bool.not_eq_true,HBK.out];exact RuN.down_no HDN.out hx1 hcf hwf);subst hbf;go_wp2;go_ret;exact ⟨rfl,HH5.out.bl⟩
      | false=>
       have HDN2:Hid (RuN.Down (cm g ep W need n t r.f) (ws g ep W need n t r.wo) e (x-1)):=RuN.down_step HDN.out hcf hwf;have w3:IntKind.i64.wrap (x-1)=x-1:=(by simp[IntKind.wrap,IntKind.bits,IntKind.signed];omega);clear hcf hwf HDN;go_wp2;go_roundw
       case rel=>exact ⟨x-1,by omega,by omega,rfl,HDN2.out,HH5.out⟩
       case measure=>simp[intOf];omega
end
end HlA
namespace WaM
open TkM (Sg seenG epOf whr)
open RuM (Rl)
structure Cf where
 len:Nat
 late:Nat
 W:Nat
 need:Nat
 span:Nat
 score:Nat
 pl:Nat->Nat->Int
structure Cf.Ok (c:Cf):Prop where
 l0 : 1<=c.len
 l1:c.len<=50
 t1:c.late<=50
 w0 : 1<=c.W
 w1:c.W<=8
 n0 : 1<=c.need
 n1:c.need<=c.W
 s0 : 1<=c.span
 s1:c.span<=8
 c0 : 1<=c.score
 c1:c.score<=c.span
 pl:∀ r a,r<4->a<4->-1<=c.pl r a/\c.pl r a<=7
structure St where
 rest:Nat->List UInt8
 lost:Nat->Nat
 warm:Nat->Int
 all:List Sg
 now:Nat
 bad:Nat
 nowh:Nat
 late:Nat
 full:Nat
def St.zero:St:=⟨fun _=>[],fun _=>0,fun _=>-1,[],0,0,0,0,0⟩
def upd {α:Type} (f:Nat->α) (k:Nat) (v : α) (i:Nat) : α:=if i=k then v else f i
theorem upd_same {α:Type} (f:Nat->α) (k:Nat) (v : α):upd f k v k=v:=by simp[upd]
theorem upd_other {α:Type} (f:Nat->α) {k i:Nat} (v : α) (h:i≠k):upd f k v i=f i:=by simp[upd,h]
def hasT (l:List ByteArray) (g:ByteArray):Bool:=l.any (fun h=>decide (h=g))
theorem hasT_iff {l:List ByteArray} {g:ByteArray}:hasT l g=true↔g ∈ l:=by simp[hasT]
def addT (l:List ByteArray) (g:ByteArray):List ByteArray:=if hasT l g=true then l else l ++ [g]
def kn (l:List Sg):List ByteArray:=l.foldl (fun t x=>addT t x.g) []
theorem kn_snoc (l:List Sg) (x:Sg):kn (l ++ [x])=addT (kn l) x.g:=by unfold kn;rw[List.foldl_append];rfl
theorem addT_mem (l:List ByteArray) (g h:ByteArray):h ∈ addT l g↔h ∈ l\/h=g:=by
 unfold addT;split
 ·rename_i hg;rw[hasT_iff] at hg;constructor
  ·exact Or.inl
  ·rintro (h1 | rfl)
   ·exact h1
   ·exact hg
 ·simp
theorem addT_nodup {l:List ByteArray} (h:l.Nodup) (g:ByteArray):(addT l g).Nodup:=by
 unfold addT;split
 ·exact h
 ·rename_i hg;rw[hasT_iff] at hg;rw[List.nodup_append];refine ⟨h,by simp,fun a ha b hb=>?_⟩;simp at hb;subst hb;intro e;subst e;exact hg ha
theorem foldT_mem (xs:List Sg):∀ (l:List ByteArray) (h:ByteArray),h ∈ xs.foldl (fun t x=>addT t x.g) l↔h ∈ l\/∃ x,x ∈ xs/\x.g=h:=by
 induction xs with
 | nil=>intro l h;simp
 | cons y xs ih=>
  intro l h;rw[List.foldl_cons,ih,addT_mem];constructor
  ·rintro ((h1 | h1) | ⟨x,h1,h2⟩)
   ·exact Or.inl h1
   ·exact Or.inr ⟨y,by simp,h1.symm⟩
   ·exact Or.inr ⟨x,by simp[h1],h2⟩
  ·rintro (h1 | ⟨x,h1,h2⟩)
   ·exact Or.inl (Or.inl h1)
   ·rcases List.mem_cons.1 h1 with rfl | h1
    ·exact Or.inl (Or.inr h2.symm)
    ·exact Or.inr ⟨x,h1,h2⟩
theorem foldT_nodup (xs:List Sg):∀ (l:List ByteArray),l.Nodup->(xs.foldl (fun t x=>addT t x.g) l).Nodup:=by
 induction xs with
 | nil=>intro l h;exact h
 | cons y xs ih=>intro l h;exact ih _ (addT_nodup h _)
theorem kn_mem (l:List Sg) (g:ByteArray):g ∈ kn l↔∃ x,x ∈ l/\x.g=g:=by unfold kn;rw[foldT_mem];simp
theorem kn_nodup (l:List Sg):(kn l).Nodup:=foldT_nodup l [] List.nodup_nil
def sight (c:Cf) (r:Nat) (s:St) (x:FrmM.Rd):Sg:=⟨c.pl r x.a.toNat,x.s,(s.now:Int)-x.g,x.t⟩
def St.read (c:Cf) (r:Nat) (s:St) (x:FrmM.Rd):St:=
 if InA.knd x.t=0 then { s with bad:=s.bad+1 }
 else if c.pl r x.a.toNat = -1 then { s with nowh:=s.nowh+1 }
 else if hasT (kn s.all) x.t=false/\12<=(kn s.all).length then { s with full:=s.full+1 }
 else if EpM.addF c.len c.late s.now (sight c r s x)≠0 then { s with late:=s.late+1 }
 else { s with all:=s.all ++ [sight c r s x] }
def St.heat (r:Nat) (s:St) (f:FrmM.Fr):St:=if f.ty=3 then { s with warm:=upd s.warm r f.wm } else s
def St.hear (c:Cf) (r:Nat) (s:St) (f:FrmM.Fr):St:=f.rs.foldl (St.read c r) (s.heat r f)
def St.line (r:Nat) (s:St) (R:List UInt8) (n:Nat):St:={ s with rest:=upd s.rest r R,lost:=upd s.lost r n }
def St.feed (c:Cf) (r:Nat) (s:St) (b:List UInt8):St:=
 (FrmM.feed (s.rest r++b)).1.foldl (St.hear c r) (s.line r (FrmM.feed (s.rest r++b)).2.2 (s.lost r+(FrmM.feed (s.rest r++b)).2.1))
def St.tick (s:St) (n:Nat):St:={ s with now:=s.now+n }
def St.cl (c:Cf) (s:St):Nat:=EpM.closedN c.len c.late s.now
theorem read_line (c:Cf) (r r':Nat) (s:St) (x:FrmM.Rd) (R:List UInt8) (n:Nat):(s.line r' R n).read c r x=(s.read c r x).line r' R n:=by
 unfold St.read St.line sight;simp only
 repeat' split
 all_goals rfl
theorem reads_line (c:Cf) (r r':Nat) (R:List UInt8) (n:Nat):∀ (l:List FrmM.Rd) (s:St),l.foldl (St.read c r) (s.line r' R n)=(l.foldl (St.read c r) s).line r' R n
 | [],s=>rfl
 | x::l,s=>by rw[List.foldl_cons,List.foldl_cons,read_line,reads_line c r r' R n l]
theorem heat_line (r r':Nat) (s:St) (f:FrmM.Fr) (R:List UInt8) (n:Nat):(s.line r' R n).heat r f=(s.heat r f).line r' R n:=by unfold St.heat;split<;>rfl
theorem hear_line (c:Cf) (r r':Nat) (s:St) (f:FrmM.Fr) (R:List UInt8) (n:Nat):(s.line r' R n).hear c r f=(s.hear c r f).line r' R n:=by unfold St.hear;rw[heat_line,reads_line]
theorem hears_line (c:Cf) (r r':Nat) (R:List UInt8) (n:Nat):∀ (l:List FrmM.Fr) (s:St),l.foldl (St.hear c r) (s.line r' R n)=(l.foldl (St.hear c r) s).line r' R n
 | [],s=>rfl
 | x::l,s=>by rw[List.foldl_cons,List.foldl_cons,hear_line,hears_line c r r' R n l]
theorem read_rest (c:Cf) (r:Nat) (s:St) (x:FrmM.Rd):(s.read c r x).rest=s.rest/\(s.read c r x).lost=s.lost/\(s.read c r x).now=s.now/\(s.read c r x).warm=s.warm:=by
 unfold St.read
 repeat' split
 all_goals exact ⟨rfl,rfl,rfl,rfl⟩
theorem reads_rest (c:Cf) (r:Nat):∀ (l:List FrmM.Rd) (s:St),(l.foldl (St.read c r) s).rest=s.rest/\(l.foldl (St.read c r) s).lost=s.lost/\(l.foldl (St.read c r) s).now=s.now/\(l.foldl (St.read c r) s).warm=s.warm
 | [],s=>⟨rfl,rfl,rfl,rfl⟩
 | x::l,s=>by obtain ⟨h1,h2,h3,h4⟩:=reads_rest c r l (s.read c r x);obtain ⟨k1,k2,k3,k4⟩:=read_rest c r s x;rw[List.foldl_cons];exact ⟨h1.trans k1,h2.trans k2,h3.trans k3,h4.trans k4⟩
theorem hear_rest (c:Cf) (r:Nat) (s:St) (f:FrmM.Fr):(s.hear c r f).rest=s.rest/\(s.hear c r f).lost=s.lost/\(s.hear c r f).now=s.now:=by
 unfold St.hear;obtain ⟨h1,h2,h3,_⟩:=reads_rest c r f.rs (s.heat r f);have:(s.heat r f).rest=s.rest/\(s.heat r f).lost=s.lost/\(s.heat r f).now=s.now:=by unfold St.heat;split<;>exact ⟨rfl,rfl,rfl⟩
 exact ⟨h1.trans this.1,h2.trans this.2.1,h3.trans this.2.2⟩
theorem hears_rest (c:Cf) (r:Nat):∀ (l:List FrmM.Fr) (s:St),(l.foldl (St.hear c r) s).rest=s.rest/\(l.foldl (St.hear c r) s).lost=s.lost/\(l.foldl (St.hear c r) s).now=s.now
 | [],s=>⟨rfl,rfl,rfl⟩
 | x::l,s=>by obtain ⟨h1,h2,h3⟩:=hears_rest c r l (s.hear c r x);obtain ⟨k1,k2,k3⟩:=hear_rest c r s x;rw[List.foldl_cons];exact ⟨h1.trans k1,h2.trans k2,h3.trans k3⟩
theorem feed_now (c:Cf) (r:Nat) (s:St) (b:List UInt8):(s.feed c r b).now=s.now:=(hears_rest c r _ _).2.2
def St.cnt (s:St):Nat:=s.all.length+s.bad+s.nowh+s.late+s.full
theorem read_cnt (c:Cf) (r:Nat) (s:St) (x:FrmM.Rd):(s.read c r x).cnt=s.cnt+1:=by
 unfold St.read St.cnt
 repeat' split
 all_goals simp;omega
theorem reads_cnt (c:Cf) (r:Nat):∀ (l:List FrmM.Rd) (s:St),(l.foldl (St.read c r) s).cnt=s.cnt+l.length
 | [],s=>rfl
 | x::l,s=>by rw[List.foldl_cons,reads_cnt c r l,read_cnt,List.length_cons];omega
theorem hear_cnt (c:Cf) (r:Nat) (s:St) (f:FrmM.Fr):(s.hear c r f).cnt=s.cnt+f.rs.length:=by unfold St.hear;rw[reads_cnt];congr 1;unfold St.heat;split<;>rfl
def rdsN (l:List FrmM.Fr):Nat:=(l.map (fun f=>f.rs.length)).sum
theorem hears_cnt (c:Cf) (r:Nat):∀ (l:List FrmM.Fr) (s:St),(l.foldl (St.hear c r) s).cnt=s.cnt+rdsN l
 | [],s=>rfl
 | x::l,s=>by
  rw[List.foldl_cons,hears_cnt c r l,hear_cnt];have:rdsN (x::l)=x.rs.length+rdsN l:=by simp[rdsN]
  omega
theorem rdsN_le:∀ (l:List FrmM.Fr),(∀ f ∈ l,FrmM.Ok f)->rdsN l<=FrmM.bytesOfAll l
 | [],_=>Nat.le_refl _
 | x::l,h=>by
  have h1:=rdsN_le l (fun f hf=>h f (by simp[hf]));have h2:=FrmM.enc_len x;have h3:=FrmM.body_len (h x (by simp));have e1:rdsN (x::l)=x.rs.length+rdsN l:=by simp[rdsN]
  have e2:FrmM.bytesOfAll (x::l)=(FrmM.enc x).length+FrmM.bytesOfAll l:=by simp[FrmM.bytesOfAll]
  omega
def St.sum (s:St):Nat:=s.cnt+((s.rest 0).length+(s.rest 1).length+(s.rest 2).length+(s.rest 3).length)+(s.lost 0+s.lost 1+s.lost 2+s.lost 3)
theorem sum_rest {s:St} {r:Nat} (h:r<4):s.cnt+(s.rest r).length+s.lost r<=s.sum:=by
 unfold St.sum
 match r,h with
 | 0,_=>omega
 | 1,_=>omega
 | 2,_=>omega
 | 3,_=>omega
theorem feed_sum (c:Cf) (r:Nat) (s:St) (b:List UInt8) (hr:r<4):(s.feed c r b).sum<=s.sum+b.length:=by
 have h1:=FrmM.feed_sum (s.rest r++b);have h2:=rdsN_le _ (FrmM.feed_ok (s.rest r++b));have h3:=hears_cnt c r (FrmM.feed (s.rest r++b)).1 (s.line r (FrmM.feed (s.rest r++b)).2.2 (s.lost r+(FrmM.feed (s.rest r++b)).2.1));obtain ⟨k1,k2,_⟩:=hears_rest c r (FrmM.feed (s.rest r++b)).1 (s.line r (FrmM.feed (s.rest r++b)).2.2 (s.lost r+(FrmM.feed (s.rest r++b)).2.1));have h4:(s.line r (FrmM.feed (s.rest r++b)).2.2 (s.lost r+(FrmM.feed (s.rest r++b)).2.1)).cnt=s.cnt:=rfl;rw[List.length_append] at h1;unfold St.sum St.feed;rw[k1,k2,h3,h4];unfold St.line upd;simp only
 match r,hr with
 | 0,_=>simp;omega
 | 1,_=>simp;omega
 | 2,_=>simp;omega
 | 3,_=>simp;omega
end WaM
namespace WaM
open TkM (Sg seenG epOf whr)
open RuM (Rl)
def Ep (c:Cf) (s:St) (k:Nat):List (List Sg):=(List.range k).map (fun j=>EpM.sorted (EpM.grp c.len s.all j))
theorem Ep_len (c:Cf) (s:St) (k:Nat):(Ep c s k).length=k:=by simp[Ep]
theorem Ep_snoc (c:Cf) (s:St) (k:Nat):Ep c s (k+1)=Ep c s k ++ [EpM.sorted (EpM.grp c.len s.all k)]:=by unfold Ep;rw[List.range_succ,List.map_append];rfl
theorem epOf_Ep (c:Cf) (s:St) (k j:Nat):epOf (Ep c s k) j=if j<k then EpM.sorted (EpM.grp c.len s.all j) else []:=by
 unfold epOf Ep;by_cases h:j<k
 ·rw[if_pos h,List.getD_eq_getElem?_getD,List.getElem?_map,List.getElem?_range h];rfl
 ·rw[if_neg h,List.getD_eq_getElem?_getD,List.getElem?_eq_none (by simp;omega)];rfl
theorem Ep_take (c:Cf) (s:St) {k m:Nat} (h:k<=m):(Ep c s m).take k=Ep c s k:=by unfold Ep;rw[<- List.map_take,List.take_range,Nat.min_eq_left h]
theorem Ep_snocSight (c:Cf) (s:St) (x:Sg) (k:Nat) (h:k<=EpM.epo c.len x):Ep c { s with all:=s.all ++ [x] } k=Ep c s k:=by unfold Ep;refine List.map_congr_left fun j hj=>?_;have:j<k:=List.mem_range.1 hj;simp only;rw[EpM.grp_snoc_other _ _ (by omega)]
theorem cnt_split (n:Nat) (k:Nat):∀ l:List Sg,(l.filter (fun x=>decide (EpM.epo n x<k+1))).length=(l.filter (fun x=>decide (EpM.epo n x<k))).length+(l.filter (fun x=>decide (EpM.epo n x=k))).length
 | []=>rfl
 | x::l=>by
  have ih:=cnt_split n k l;rcases Nat.lt_trichotomy (EpM.epo n x) k with h | h | h
  ·have h1:EpM.epo n x<k+1:=(by omega);have h2:¬ EpM.epo n x=k:=(by omega);simp[h,h1,h2,ih];omega
  ·have h1:EpM.epo n x<k+1:=(by omega);have h2:¬ EpM.epo n x<k:=(by omega);simp[h,ih];omega
  ·have h1:¬ EpM.epo n x<k+1:=(by omega);have h2:¬ EpM.epo n x=k:=(by omega);have h3:¬ EpM.epo n x<k:=(by omega);simp[h1,h2,h3,ih]
theorem Ep_flatten (c:Cf) (s:St) (k:Nat):(Ep c s k).flatten.length=(s.all.filter (fun x=>decide (EpM.epo c.len x<k))).length:=by
 induction k with
 | zero=>
  have e:s.all.filter (fun x=>decide (EpM.epo c.len x<0)) = []:=List.filter_eq_nil_iff.2 (fun x _=>by simp);rw[e];rfl
 | succ k ih=>
  rw[Ep_snoc,List.flatten_append,List.length_append,ih,cnt_split];simp[EpM.sorted_length,EpM.grp]
theorem Ep_flat (c:Cf) (s:St) (k:Nat):(Ep c s k).flatten.length<=s.all.length:=by rw[Ep_flatten];exact List.length_filter_le _ _
def leT (a b:ByteArray):Bool:=decide (Lib.compareBytes a.data.toList b.data.toList<=0)
theorem leT_trans (a b c:ByteArray) (h1:leT a b=true) (h2:leT b c=true):leT a c=true:=by unfold leT at *;simp only[decide_eq_true_eq] at *;exact EpM.good_bytes.tr _ _ _ h1 h2
theorem leT_total (a b:ByteArray):(leT a b||leT b a)=true:=by unfold leT;have:=EpM.good_bytes.neg a.data.toList b.data.toList;simp only[Bool.or_eq_true,decide_eq_true_eq];omega
theorem leT_lt {a b:ByteArray} (h:leT a b=true) (hn:a≠b):a.toList<b.toList:=by unfold leT at h;simp only[decide_eq_true_eq] at h;have h1:=EpM.bytes_le h;rw[ByteArray.toList_eq,ByteArray.toList_eq];refine InM.lt_tri (fun h2=>?_) (fun e=>hn (ByteArray.ext (Array.toList_inj.1 e.symm)));have h3:=List.le_of_lt h2;have:=List.le_antisymm h1 h3;exact hn (ByteArray.ext (Array.toList_inj.1 this))
def tagsL (E:List (List Sg)):List ByteArray:=(kn E.flatten).mergeSort leT
theorem told_flat {E:List (List Sg)} {g:ByteArray}:g ∈ kn E.flatten↔TkM.told g E=true:=by
 rw[kn_mem];unfold TkM.told;simp only[List.any_eq_true,TkM.seen_iff,List.mem_flatten];constructor
 ·rintro ⟨x,⟨l,h1,h2⟩,h3⟩;exact ⟨l,h1,x,h2,h3⟩
 ·rintro ⟨l,h1,x,h2,h3⟩;exact ⟨x,⟨l,h1,h2⟩,h3⟩
theorem tagsL_mem {E:List (List Sg)} {g:ByteArray}:g ∈ tagsL E↔TkM.told g E=true:=by unfold tagsL;rw[List.mem_mergeSort,told_flat]
theorem tagsL_srt (E:List (List Sg)):(tagsL E).Pairwise (fun a b=>a.toList<b.toList):=by have h1:(tagsL E).Pairwise (fun a b=>leT a b=true):=List.pairwise_mergeSort leT_trans leT_total _;have h2:(tagsL E).Nodup:=(List.mergeSort_perm _ _).nodup_iff.2 (kn_nodup _);exact List.Pairwise.imp₂ (fun a b h h'=>leT_lt h h') h1 h2
theorem srt_nodup {L:List ByteArray} (h:L.Pairwise (fun a b=>a.toList<b.toList)):L.Nodup:=
 List.Pairwise.imp (fun hab e=>by rw[e] at hab;exact List.lt_irrefl _ hab) h
theorem srt_uniq {L L':List ByteArray} (h:L.Pairwise (fun a b=>a.toList<b.toList)) (h':L'.Pairwise (fun a b=>a.toList<b.toList)) (hm:∀ g,g ∈ L↔g ∈ L'):L=L':=by
 refine List.Perm.eq_of_pairwise (le:=fun a b:ByteArray=>a.toList<b.toList) (fun a b _ _ h1 h2=>?_) h h' ?_
 ·exact absurd (List.lt_trans h1 h2) (List.lt_irrefl _)
 ·exact (List.perm_ext_iff_of_nodup (srt_nodup h) (srt_nodup h')).2 hm
theorem tagsL_is {E:List (List Sg)} {L:List ByteArray} (h:L.Pairwise (fun a b=>a.toList<b.toList)) (hm:∀ g,g ∈ L↔TkM.told g E=true):L=tagsL E:=
 srt_uniq h (tagsL_srt E) (fun g=>by rw[hm,tagsL_mem])
def hb (g:ByteArray) (ep:Nat->List Sg) (W need:Nat) (r:Rl) (e:Nat):Bool:=
 HlA.ofK g r.k&&HlA.cm g ep W need (e+1) true r.t (e:Int)&&(List.range e).any (fun y=>decide ((e:Int)-r.wi<=(y:Int))&&HlA.cm g ep W need (e+1) true r.f (y:Int)&&(List.range e).all (fun x=>!decide (y<x) || !HlA.ws g ep W need (e+1) true r.wo (x:Int)))
theorem hb_iff {g:ByteArray} {ep:Nat->List Sg} {W need:Nat} {r:Rl} {e:Nat} (ho:r.ok):hb g ep W need r e=true↔HlA.HoldsP g ep W need (e+1) true r (e:Int):=by
 unfold hb HlA.HoldsP RuN.Back;simp only[Bool.and_eq_true,List.any_eq_true,List.mem_range,decide_eq_true_eq,List.all_eq_true,Bool.or_eq_true,Bool.not_eq_true',decide_eq_false_iff_not];constructor
 ·rintro ⟨⟨h1,h2⟩,y,hy,⟨h3,h4⟩,h5⟩;refine ⟨ho,h1,h2,(y:Int),by omega,by omega,h4,fun x hx1 hx2=>?_⟩;obtain ⟨z,rfl⟩:∃ z:Nat,x=(z:Int):=⟨x.toNat,by omega⟩;rcases h5 z (by omega) with h | h
  ·omega
  ·exact h
 ·rintro ⟨_,h1,h2,y,hy1,hy2,h3,h4⟩;obtain ⟨z,rfl⟩:∃ z:Nat,y=(z:Int):=⟨y.toNat,by omega⟩;refine ⟨⟨h1,h2⟩,z,by omega,⟨by omega,h3⟩,fun x hx=>?_⟩;by_cases hzx:z<x
  ·exact Or.inr (h4 (x:Int) (by omega) (by omega))
  ·exact Or.inl hzx
structure Al where
 rule:Nat
 ep:Nat
 g:ByteArray
def alR (W need:Nat) (ep:Nat->List Sg) (L:List ByteArray) (e:Nat) (r:Rl) (i:Nat):List Al:=(L.filter (fun g=>hb g ep W need r e)).map (fun g=>⟨i,e,g⟩)
def alsFrom (W need:Nat) (ep:Nat->List Sg) (L:List ByteArray) (e:Nat):List Rl->Nat->List Al
 | [],_=>[]
 | r::rs,i=>alR W need ep L e r i++alsFrom W need ep L e rs (i+1)
def als (W need:Nat) (ep:Nat->List Sg) (L:List ByteArray) (e:Nat) (rs:List Rl):List Al:=alsFrom W need ep L e rs 0
theorem alsFrom_snoc (W need:Nat) (ep:Nat->List Sg) (L:List ByteArray) (e:Nat) (r:Rl):∀ (rs:List Rl) (i:Nat),alsFrom W need ep L e (rs ++ [r]) i=alsFrom W need ep L e rs i++alR W need ep L e r (i+rs.length)
 | [],i=>by simp[alsFrom]
 | x::rs,i=>by show alR W need ep L e x i++alsFrom W need ep L e (rs ++ [r]) (i+1) = _;rw[alsFrom_snoc W need ep L e r rs (i+1)];simp only[alsFrom,List.append_assoc,List.length_cons];congr 3;omega
theorem als_snoc (W need:Nat) (ep:Nat->List Sg) (L:List ByteArray) (e:Nat) (r:Rl) (rs:List Rl):als W need ep L e (rs ++ [r])=als W need ep L e rs++alR W need ep L e r rs.length:=by unfold als;rw[alsFrom_snoc,Nat.zero_add]
theorem alR_snoc (W need:Nat) (ep:Nat->List Sg) (L:List ByteArray) (g:ByteArray) (e:Nat) (r:Rl) (i:Nat):alR W need ep (L ++ [g]) e r i=alR W need ep L e r i++(if hb g ep W need r e=true then [⟨i,e,g⟩] else []):=by
 unfold alR;rw[List.filter_append,List.map_append];congr 1;by_cases h:hb g ep W need r e=true
 ·simp[h]
 ·simp[h]
def alE (c:Cf) (rs:List Rl) (s:St) (e:Nat):List Al:=als c.W c.need (epOf (Ep c s (e+1))) (tagsL (Ep c s (e+1))) e rs
def alerts (c:Cf) (rs:List Rl) (s:St) (k:Nat):List Al:=(List.range k).flatMap (alE c rs s)
theorem alerts_snoc (c:Cf) (rs:List Rl) (s:St) (k:Nat):alerts c rs s (k+1)=alerts c rs s k++alE c rs s k:=by unfold alerts;rw[List.range_succ,List.flatMap_append,List.flatMap_singleton]
theorem alerts_zero (c:Cf) (rs:List Rl) (s:St):alerts c rs s 0 = []:=rfl
theorem alerts_congr (c:Cf) (rs:List Rl) (s s':St) (k:Nat) (h:∀ j,j<=k->Ep c s j=Ep c s' j):alerts c rs s k=alerts c rs s' k:=by
 induction k with
 | zero=>rw[alerts_zero,alerts_zero]
 | succ k ih=>
  have e:alE c rs s k=alE c rs s' k:=by unfold alE;rw[h (k+1) (Nat.le_refl _)]
  rw[alerts_snoc c rs s k,alerts_snoc c rs s' k,ih (fun j hj=>h j (Nat.le_succ_of_le hj)),e]
theorem alR_len (W need:Nat) (ep:Nat->List Sg) (L:List ByteArray) (e:Nat) (r:Rl) (i:Nat):(alR W need ep L e r i).length<=L.length:=by unfold alR;rw[List.length_map];exact List.length_filter_le _ _
theorem alsFrom_len (W need:Nat) (ep:Nat->List Sg) (L:List ByteArray) (e:Nat):∀ (rs:List Rl) (i:Nat),(alsFrom W need ep L e rs i).length<=rs.length*L.length
 | [],_=>by simp[alsFrom]
 | r::rs,i=>by have h1:=alR_len W need ep L e r i;have h2:=alsFrom_len W need ep L e rs (i+1);simp only[alsFrom,List.length_append,List.length_cons,Nat.add_mul,Nat.one_mul];omega
theorem tags_sub {c:Cf} {s:St} {k:Nat} {g:ByteArray} (h:g ∈ tagsL (Ep c s k)):g ∈ kn s.all:=by rw[tagsL_mem] at h;unfold TkM.told at h;simp only[List.any_eq_true,TkM.seen_iff] at h;obtain ⟨l,h1,x,h2,h3⟩:=h;rw[kn_mem];unfold Ep at h1;obtain ⟨j,_,rfl⟩:=List.mem_map.1 h1;rw[EpM.sorted_mem] at h2;exact ⟨x,(List.mem_filter.1 h2).1,h3⟩
theorem tags_len (c:Cf) (s:St) (k:Nat):(tagsL (Ep c s k)).length<=(kn s.all).length:=
 (srt_nodup (tagsL_srt _)).length_le_of_subset (fun _ h=>tags_sub h)
theorem alerts_len (c:Cf) (rs:List Rl) (s:St) (k m:Nat) (hm:(kn s.all).length<=m):(alerts c rs s k).length<=k*(rs.length*m):=by
 induction k with
 | zero=>simp[alerts]
 | succ k ih=>
  rw[alerts_snoc,List.length_append,Nat.add_mul,Nat.one_mul];have h1:(alE c rs s k).length<=rs.length*(tagsL (Ep c s (k+1))).length:=alsFrom_len _ _ _ _ _ _ _;have h2:rs.length*(tagsL (Ep c s (k+1))).length<=rs.length*m:=Nat.mul_le_mul_left _ (Nat.le_trans (tags_len c s (k+1)) hm);omega
end WaM
end Go.Proofs.YtmolafjalaeoaaaGreatDoor
