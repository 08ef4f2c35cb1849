/-
  WaC WaD WaS FrmQ
-/
import Derived.Test.YtmolafjalaeoaaaGreatDoorQau
set_option maxRecDepth 100000
set_option maxHeartbeats 8000000
namespace Go.Proofs.YtmolafjalaeoaaaGreatDoor
open Tryz
namespace WaB
open Go.RowKit TkW WaM WaW Go.Maps
open TkM (Sg epOf told whr)
open TkA (wv)
open RuM (Rl)
section
variable {w : World} {wb : Nat} {ow : Nat → Nat} {c : Cf} {rs : List Rl} {s : St} {k : Nat}
theorem now_any (h:WaK w wb ow c rs s k) :
  Calls prog 30 #[.pointer (some ⟨wb,0,none⟩)] w fun e w'=>e = .returned (.int .i64 (s.now:Int))/\w'=w:=by
 obtain ⟨p,h⟩:=h.out;have c29:=h.c29;have HD:Hid (EpW.DeskAt w p.db (fun b=>ow b=3) c.len c.late s.now s.all (EpM.closedN c.len c.late s.now)):=h.desk;clear h;go_enter func30,ntmps30;go_wp2_with fail;refine (EpA.now_any HD.out).mono ?_;rintro e w' ⟨rfl,rfl⟩;go_wp2;go_ret;exact ⟨rfl,rfl⟩
theorem epochs_any (h:WaK w wb ow c rs s k) :
  Calls prog 25 #[.pointer (some ⟨wb,0,none⟩)] w fun e w'=>e = .returned (.int .i64 (s.cl c:Int))/\∃ q,w'=w.drewN q:=by
 obtain ⟨p,h⟩:=h.out;have c29:=h.c29;have HD:Hid (EpW.DeskAt w p.db (fun b=>ow b=3) c.len c.late s.now s.all (EpM.closedN c.len c.late s.now)):=h.desk;have h0:=h.cok.l0;have h1:=h.cok.l1;have h2:=h.cok.t1;have h3:=h.tim;clear h;go_enter func25,ntmps25;go_wp2_with fail;refine (EpA.closed_any HD.out (by omega) h1 h2 h3).mono ?_;rintro e w' ⟨rfl,q,rfl⟩;go_wp2;go_ret;exact ⟨rfl,q,rfl⟩
theorem told_seen {E:List (List Sg)} {g:ByteArray}:told g E=true↔∃ e,TkM.seenG g (epOf E e)=true:=TkM.told_iff
theorem where_any (g:ByteArray) (e:Int) (h:WaK w wb ow c rs s k) (hg:g.size<=100000) :
  Calls prog 29 #[.pointer (some ⟨wb,0,none⟩),.string g,.int .i64 e] w fun x w'=>x = .returned (.tuple #[.int .i64 (wv k (told g (Ep c s k)) e (whr g (epOf (Ep c s k)) c.W c.need e.toNat)).1,TkA.errV (wv k (told g (Ep c s k)) e (whr g (epOf (Ep c s k)) c.W c.need e.toNat)).2])/\Below w.heap.size w w':=by
 obtain ⟨p,h⟩:=h.out;have c30:=h.c30;obtain ⟨who,ht,_⟩:=h.trk;have hk:k<=1000:=Nat.le_trans h.cls (Nat.le_trans EpM.closedN_le h.tim);have HC:Hid (Calls prog 65 #[.pointer (some ⟨p.tb,0,none⟩),.string g,.int .i64 e] w fun x w'=>x = .returned (.tuple #[.int .i64 (wv k (told g (Ep c s k)) e (whr g (epOf (Ep c s k)) c.W c.need e.toNat)).1,TkA.errV (wv k (told g (Ep c s k)) e (whr g (epOf (Ep c s k)) c.W c.need e.toNat)).2])/\Below w.heap.size w w'):=TkA.where_any g e ht h.cok.w1 hk hg told_seen;generalize (wv k (told g (Ep c s k)) e (whr g (epOf (Ep c s k)) c.W c.need e.toNat))=v at *;clear h ht;go_enter func29,ntmps29;go_wp2_with fail;refine Calls.mono HC.out ?_;rintro e w' ⟨rfl,hb⟩;have HB:Hid (Below w.heap.size w w'):=hb;clear hb;go_wp2;go_ret2;exact ⟨rfl,HB.out⟩
def IsPar (c:Cf) (s:St) (k:Nat) (g:ByteArray) (e:Nat) (q:ByteArray):Prop:=∃ f,InM.Prs InA.knd (epOf (Ep c s k)) c.W c.need c.span c.score f k/\q=f e g
def PaV (c:Cf) (s:St) (k:Nat) (g:ByteArray) (e:Int) (q:ByteArray):Prop:=
 if (wv k (told g (Ep c s k)) e (whr g (epOf (Ep c s k)) c.W c.need e.toNat)).2=0 then IsPar c s k g e.toNat q else q=⟨#[]⟩
theorem parEx (h:WaK w wb ow c rs s k) (g:ByteArray) (e:Int):∃ q,PaV c s k g e q:=by
 obtain ⟨p,h⟩:=h.out;obtain ⟨F,f,_,hP,_⟩:=h.ins;unfold PaV;by_cases h0:(wv k (told g (Ep c s k)) e (whr g (epOf (Ep c s k)) c.W c.need e.toNat)).2=0
 ·exact ⟨f e.toNat g,by rw[if_pos h0];exact ⟨f,hP,rfl⟩⟩
 ·exact ⟨⟨#[]⟩,by rw[if_neg h0]⟩
theorem isPar_uniq {g:ByteArray} {e:Nat} {q q':ByteArray} (he:e<k) (h:IsPar c s k g e q) (h':IsPar c s k g e q'):q=q':=by obtain ⟨f,h1,rfl⟩:=h;obtain ⟨f',h2,rfl⟩:=h';exact InM.Prs.unique h1 g (fun e he=>h2 e g he) e he
theorem parent_any (g:ByteArray) (e:Int) {q:ByteArray} (h:WaK w wb ow c rs s k) (hg:g.size<=100000) (hq:PaV c s k g e q) :
  Calls prog 55 #[.pointer (some ⟨wb,0,none⟩),.string g,.int .i64 e] w fun x w'=>x = .returned (.tuple #[.string q,TkA.errV (wv k (told g (Ep c s k)) e (whr g (epOf (Ep c s k)) c.W c.need e.toNat)).2])/\Below w.heap.size w w':=by
 have HW:Hid (Calls prog 29 #[.pointer (some ⟨wb,0,none⟩),.string g,.int .i64 e] w fun x w'=>x = .returned (.tuple #[.int .i64 (wv k (told g (Ep c s k)) e (whr g (epOf (Ep c s k)) c.W c.need e.toNat)).1,TkA.errV (wv k (told g (Ep c s k)) e (whr g (epOf (Ep c s k)) c.W c.need e.toNat)).2])/\Below w.heap.size w w'):=where_any g e h hg;have HH:Hid (WaK w wb ow c rs s k):=h;by_cases h0:(wv k (told g (Ep c s k)) e (whr g (epOf (Ep c s k)) c.W c.need e.toNat)).2=0
 ·unfold PaV at hq;rw[if_pos h0] at hq
  have he : 0<=e/\e<(k:Int):=by
   unfold wv at h0;split at h0
   ·assumption
   ·simp at h0
  obtain ⟨m,rfl⟩:∃ m:Nat,e=(m:Int):=⟨e.toNat,by omega⟩;rw[Int.toNat_natCast] at hq;have HQ:Hid (IsPar c s k g m q):=hq;rw[h0] at HW ⊢;generalize (wv k (told g (Ep c s k)) (m:Int) (whr g (epOf (Ep c s k)) c.W c.need (m:Int).toNat)).1=v at *;have e0:TkA.errV 0 = .nilIface:=rfl;rw[e0] at HW ⊢;have hmk:m<k:=by omega
  clear h0 he h hq e0;go_enter func55,ntmps55;go_wp2_with fail;refine Calls.mono HW.out ?_;rintro e w1 ⟨rfl,hb⟩;obtain ⟨p,h1⟩:=(HH.out.below hb).out;have c31:=h1.c31;obtain ⟨F,f,hI,hP,_⟩:=h1.ins;have hk:k<=1000:=Nat.le_trans h1.cls (Nat.le_trans EpM.closedN_le h1.tim);have hfq:f m g=q:=isPar_uniq hmk ⟨f,hP,rfl⟩ HQ.out;have HC:Hid (Calls prog 94 #[.pointer (some ⟨p.xb,0,none⟩),.string g,.int .i64 (m:Int)] w1 fun x w'=>x = .returned (.tuple #[.string q,.nilIface])/\w'=w1):=hfq ▸ InA.parent_in g m hI hk hmk hg;have HB:Hid (Below w.heap.size w w1):=hb;clear h1 hI hP hb hfq;go_wp2_with fail;refine Calls.mono HC.out ?_;rintro e w2 ⟨rfl,rfl⟩;go_wp2;go_ret2;exact ⟨rfl,HB.out⟩
 ·unfold PaV at hq;rw[if_neg h0] at hq;subst hq;generalize (wv k (told g (Ep c s k)) e (whr g (epOf (Ep c s k)) c.W c.need e.toNat))=v at *;obtain ⟨v1,v2⟩:=v;simp only at h0 HW ⊢;have e0:TkA.errV v2 = .iface 105 (.int .i64 (v2:Int)):=by unfold TkA.errV;rw[if_neg h0]
  rw[e0] at HW ⊢;clear h0 e0 h;go_enter func55,ntmps55;go_wp2_with fail;refine Calls.mono HW.out ?_;rintro e w1 ⟨rfl,hb⟩;have HB:Hid (Below w.heap.size w w1):=hb;clear hb;go_wp2;go_ret2;exact ⟨rfl,HB.out⟩
theorem warm_bad (r:Int) (hr:btw r 0 3=false) :
  Calls prog 53 #[.pointer (some ⟨wb,0,none⟩),.int .i64 r] w fun e w'=>e = .returned (.tuple #[.int .i64 0,.iface 105 (.int .i64 1)])/\w'=w:=by
 go_enter func53,ntmps53;go_wp2_with fail;refine (isReader_is hr _).mono ?_;rintro e w' ⟨rfl,rfl⟩;go_wp2;go_ret2;exact ⟨rfl,rfl⟩
theorem warm_ok (r:Nat) (h:WaK w wb ow c rs s k) (hr:r<4) :
  Calls prog 53 #[.pointer (some ⟨wb,0,none⟩),.int .i64 (r:Int)] w fun e w'=>e = .returned (.tuple #[.int .i64 (s.warm r),.nilIface])/\w'=w:=by
 obtain ⟨p,h⟩:=h.out;have hb:btw (r:Int) 0 3=true:=by simp[btw];omega
 have cw:w.cell? ⟨wb,r*7+6,none⟩=some (.int .i64 (s.warm r)):=by rw[h.cell (r*7+6) (by omega)];unfold cv;rw[if_pos (by omega),show (r*7+6)%7=6 by omega,show (r*7+6)/7=r by omega];rfl
 have hrI:(r:Int)<4:=by omega
 clear h;go_enter func53,ntmps53;go_wp2_with fail;refine (isReader_is hb _).mono ?_;rintro e w' ⟨rfl,rfl⟩;go_wp2;go_ret2;exact ⟨rfl,rfl⟩
end
end WaB
namespace WaB
open Go.RowKit TkW WaM WaW Go.Maps
open TkM (Sg epOf told whr)
open RuM (Rl)
theorem info86:(prog.info? 86).map (fun i=>(i.zero,i.size,i.bytes))=some (some (.agg #[.int .i64 0,.int .i64 0,.string ⟨#[]⟩]),3,32):=by kernel_rfl
theorem eqA_some (a:Addr) (n cap:Nat) (w:World):(binOp BinOp.eql 77 (.slice (some a) n cap) (.slice none 0 0)).run prog w = .ok (.bool false) w:=by kernel_rfl
theorem eqA_none (w:World):(binOp BinOp.eql 77 (.slice none 0 0) (.slice none 0 0)).run prog w = .ok (.bool true) w:=by kernel_rfl
theorem cloneA_any (A:List Al) (v:Value) (w:World) (h:w.ownsRow 0 86 3 v A.length (acs A)) (hn:A = []->v = .slice none 0 0) (hA:A.length<=100000) :
  Calls prog 57 #[v] w fun e w'=>∃ u,e = .returned u/\w'.ownsRow w.heap.size 86 3 u A.length (acs A)/\Below w.heap.size w w':=by
 obtain ⟨i0,hi,hz0,hz1,hz2⟩:=info_parts info86;have hown:=h;rcases h.2 with ⟨rfl,h0⟩ | ⟨g,cap,cur,rfl,h1⟩
 ·have hx:A = []:=List.length_eq_zero_iff.1 h0;subst hx;clear hown h hn;have he:=eqA_none w;go_enter func57,ntmps57;go_wp2;go_ret;exact ⟨_,rfl,World.ownsRow_nil _ _ _ _,Below.refl _ _⟩
 ·have hpos : 0<A.length:=by refine List.length_pos_iff.2 (fun e=>?_);have:=hn e;simp at this
  have he:=eqA_some ⟨g,0,none⟩ A.length cap w;have HOW:Hid (w.ownsRow 0 86 3 (.slice (some ⟨g,0,none⟩) A.length cap) A.length (acs A)):=hown;have HM:Hid ((w.alloc (.cells #[] 86)).ownsRow w.heap.size 86 3 (.slice (some ⟨w.heap.size,0,none⟩) 0 0) 0 []):=World.ownsRow_made w #[] 0 (Nat.le_refl _) (by decide) rfl;have HL:=acs_len A;clear h1 h hown hn;go_enter func57,ntmps57;go_wp2_with (at_builtin;refine wpList_append_lies _ rfl _ _ 77 rfl w.heap.size 86 i0 (.agg #[.int .i64 0,.int .i64 0,.string ⟨#[]⟩]) 3 32 underlying77 hi hz0 hz1 hz2 rfl (by decide) _ _ _ rfl HM.out ⟨g,0,none⟩ A.length cap (acs A) rfl HL ?q1 (acs_one A) hpos ?q3 ?q4 ?q5 (w.heap.size+1) ?q6 ?_)
  case q1=>intro j u hj;have hc:=HOW.out.cells rfl j u hj;rw[addr_add] at hc ⊢;rw[((Below.refl w.heap.size w).alloc (Nat.le_refl _) _).cell (p:=⟨g,j,none⟩) (show g < _ from own_lt HOW.out rfl)];exact hc
  case q3=>unfold maxLen;omega
  case q4=>omega
  case q5=>simp
  case q6=>simp
  intro g2 cap2 w3 hown3 hgrow3 hat3 hlt3;have hb:Below w.heap.size w w3:=((Below.refl w.heap.size w).alloc (Nat.le_refl _) _).grown hgrow3 (by simp) (fun k hk=>by simp[Value.ownBlock] at hk;omega);have HB:Hid (Below w.heap.size w w3):=hb;have HO3:Hid (w3.ownsRow w.heap.size 86 3 (.slice (some ⟨g2,0,none⟩) A.length cap2) A.length (acs A)):=hown3;clear hown3 hgrow3 hat3 hlt3 hb;go_wp2;go_ret;exact ⟨_,rfl,HO3.out,HB.out⟩
section
variable {w : World} {wb : Nat} {ow : Nat → Nat} {c : Cf} {rs : List Rl} {s : St} {k : Nat}
theorem Wa.alen {p:Pt} (h:Wa w wb ow c rs s k p):(alerts c rs s k).length<=72000:=by
 refine Nat.le_trans (alerts_len c rs s k 12 h.few) ?_;have h1:k<=1000:=Nat.le_trans h.cls (Nat.le_trans EpM.closedN_le h.tim);have h2:=h.rok.1
 calc k*(rs.length*12)<=1000*(6*12):=Nat.mul_le_mul h1 (Nat.mul_le_mul h2 (Nat.le_refl _))
  _=72000:=rfl
theorem alerts_any (h:WaK w wb ow c rs s k) :
  Calls prog 23 #[.pointer (some ⟨wb,0,none⟩)] w fun e w'=>∃ u,e = .returned u/\w'.ownsRow w.heap.size 86 3 u (alerts c rs s k).length (acs (alerts c rs s k))/\Below w.heap.size w w':=by
 obtain ⟨p,h⟩:=h.out;have c33:=h.c33;have HC:Hid (Calls prog 57 #[p.av] w fun e w'=>∃ u,e = .returned u/\w'.ownsRow w.heap.size 86 3 u (alerts c rs s k).length (acs (alerts c rs s k))/\Below w.heap.size w w'):=cloneA_any _ p.av w h.alr h.anil (by have:=Wa.alen h;omega);clear h;generalize alerts c rs s k=A at *;go_enter func23,ntmps23;go_wp2_with fail;refine Calls.mono HC.out ?_;rintro e w1 ⟨u,rfl,ho,hb⟩;have HO:Hid (w1.ownsRow w.heap.size 86 3 u A.length (acs A)):=ho;have HB:Hid (Below w.heap.size w w1):=hb;clear ho hb;go_wp2;go_ret;exact ⟨u,rfl,HO.out,HB.out⟩
end
end WaB
namespace WaB
open Go.RowKit TkW WaM WaW Go.Maps
open RuM (Rl)
def Fit (rs:List Rl) (j:Nat):Prop:=∀ r,rs[j]?=some r->r.ok/\∀ x,x ∈ rs.take j->x.nm≠r.nm
def Ck (rs:List Rl) (n:Nat):Prop:=
 (6<rs.length/\n=2)\/(rs.length<=6/\(((∀ j,j<rs.length->Fit rs j)/\n=0)\/∃ j r,rs[j]?=some r/\(∀ i,i<j->Fit rs i)/\((¬ r.ok/\r.flt n/\n≠0)\/(r.ok/\(∃ x,x ∈ rs.take j/\x.nm=r.nm)/\n=7))))
theorem flt_ex (r:Rl):∃ n,r.flt n:=by
 unfold RuM.Rl.flt RuM.Rl.ok;by_cases h1:r.named
 ·by_cases h2:r.bnd
  ·by_cases h3:r.apart
   ·exact ⟨0,Or.inr (Or.inr (Or.inr ⟨⟨h1,h2,h3⟩,rfl⟩))⟩
   ·exact ⟨3,Or.inr (Or.inr (Or.inl ⟨h1,h2,h3,rfl⟩))⟩
  ·exact ⟨1,Or.inr (Or.inl ⟨h1,h2,rfl⟩)⟩
 ·exact ⟨4,Or.inl ⟨h1,rfl⟩⟩
theorem fit_clash {rs:List Rl} {j n:Nat} {r:Rl} (hj:rs[j]?=some r) (h:Fit rs j) (hb:(¬ r.ok/\r.flt n/\n≠0)\/(r.ok/\(∃ x,x ∈ rs.take j/\x.nm=r.nm)/\n=7)):False:=by
 obtain ⟨h1,h2⟩:=h r hj;rcases hb with ⟨h3,_⟩ | ⟨_,⟨x,h3,h4⟩,_⟩
 ·exact h3 h1
 ·exact h2 x h3 h4
theorem Ck.uniq {rs:List Rl} {n m:Nat} (h:Ck rs n) (h':Ck rs m):n=m:=by
 rcases h with ⟨h1,h2⟩ | ⟨h1,h2⟩<;>rcases h' with ⟨k1,k2⟩ | ⟨k1,k2⟩
 ·omega
 ·omega
 ·omega
 ·rcases h2 with ⟨h2,h3⟩ | ⟨j,r,hj,hi,hb⟩<;>rcases k2 with ⟨k2,k3⟩ | ⟨j',r',hj',hi',hb'⟩
  ·omega
  ·exact (fit_clash hj' (h2 j' (List.getElem?_eq_some_iff.1 hj').1) hb').elim
  ·exact (fit_clash hj (k2 j (List.getElem?_eq_some_iff.1 hj).1) hb).elim
  ·rcases Nat.lt_trichotomy j j' with hl | hl | hl
   ·exact (fit_clash hj (hi' j hl) hb).elim
   ·subst hl;rw[hj] at hj';cases hj';rcases hb with ⟨a1,a2,a3⟩ | ⟨a1,a2,a3⟩<;>rcases hb' with ⟨b1,b2,b3⟩ | ⟨b1,b2,b3⟩
    ·exact RuM.flt_uniq a2 b2
    ·exact absurd b1 a1
    ·exact absurd a1 b1
    ·omega
   ·exact (fit_clash hj' (hi j' hl) hb').elim
theorem Ck.ex (rs:List Rl):∃ n,Ck rs n:=by
 by_cases h6 : 6<rs.length
 ·exact ⟨2,Or.inl ⟨h6,rfl⟩⟩
 ·have key:∀ m,(∀ j,j<m->Fit rs j)\/∃ n j r,rs[j]?=some r/\(∀ i,i<j->Fit rs i)/\((¬ r.ok/\r.flt n/\n≠0)\/(r.ok/\(∃ x,x ∈ rs.take j/\x.nm=r.nm)/\n=7)):=by
   intro m
   induction m with
   | zero=>exact Or.inl (fun j hj=>by omega)
   | succ m ih=>
    rcases ih with ih | ih
    ·cases hm:rs[m]? with
     | none=>
      refine Or.inl (fun j hj=>?_);by_cases hjm:j=m
      ·intro r hr;rw[hjm,hm] at hr;cases hr
      ·exact ih j (by omega)
     | some r=>
      obtain ⟨n,hn⟩:=flt_ex r;by_cases hok:r.ok
      ·by_cases hx:∃ x,x ∈ rs.take m/\x.nm=r.nm
       ·exact Or.inr ⟨7,m,r,hm,ih,Or.inr ⟨hok,hx,rfl⟩⟩
       ·refine Or.inl (fun j hj=>?_);by_cases hjm:j=m
        ·intro r' hr';rw[hjm,hm] at hr';cases hr';exact ⟨hok,fun x h1 h2=>hx ⟨x,by rw[<- hjm];exact h1,h2⟩⟩
        ·exact ih j (by omega)
      ·exact Or.inr ⟨n,m,r,hm,ih,Or.inl ⟨hok,hn,fun e=>hok ((RuM.flt_ok hn).1 e)⟩⟩
    ·exact Or.inr ih
  rcases key rs.length with h | ⟨n,j,r,h1,h2,h3⟩
  ·exact ⟨0,Or.inr ⟨by omega,Or.inl ⟨h,rfl⟩⟩⟩
  ·exact ⟨n,Or.inr ⟨by omega,Or.inr ⟨j,r,h1,h2,h3⟩⟩⟩
theorem Ck.zero {rs:List Rl} (h:Ck rs 0):rs.length<=6/\(∀ r,r ∈ rs->r.ok):=by
 rcases h with ⟨_,h⟩ | ⟨h1,⟨h2,_⟩ | ⟨j,r,hj,hi,⟨_,_,h3⟩ | ⟨_,_,h3⟩⟩⟩
 ·omega
 ·refine ⟨h1,fun r hr=>?_⟩;obtain ⟨j,hj⟩:=List.mem_iff_getElem?.1 hr;exact (h2 j (List.getElem?_eq_some_iff.1 hj).1 r hj).1
 ·exact absurd rfl h3
 ·omega
theorem checkRules_is (rs:List Rl) (q:Option Addr) (cap:Nat) {n:Nat} (hn:Ck rs n) (w:World) (h:RsOn w q rs) (hs:∀ r,r ∈ rs->r.nm.size<=9223372036854775807) (hc:rs.length<=cap) (hl:rs.length<=9223372036854775807) :
  Calls prog 35 #[.slice q rs.length cap] w fun e w'=>e = .returned (RuA.errV n)/\Below w.heap.size w w':=by
 have HN:Hid (Ck rs n):=hn;have HR:Hid (RsOn w q rs):=h;have HS:Hid (∀ r,r ∈ rs->r.nm.size<=9223372036854775807):=hs;obtain ⟨N,hNN⟩:∃ N,N=rs.length:=⟨_,rfl⟩;have HNN:Hid (N=rs.length):=hNN;by_cases h6 : 6<rs.length
 case pos=>
  have e2:n=2:=Ck.uniq hn (Or.inl ⟨h6,rfl⟩);subst e2;rw[<- hNN] at h6 hl ⊢;have hI:(6:Int)<N:=by omega
  clear hn h hs hNN;go_enter func35,ntmps35;go_wp2;go_ret;exact ⟨rfl,Below.refl _ _⟩
 case neg=>
  rw[<- hNN] at h6 hc ⊢;have hI:¬ (6:Int)<N:=by omega
  clear hn h hs hNN;go_enter func35,ntmps35;go_wp2;go_loopw [3,4,5,12] (fun _ _ _ i V=>∃ j:Nat,j<=N/\i = .int .i64 (j:Int)/\(∀ i,i<j->Fit rs i)/\Below w.heap.size w V) (fun _ _ _ i _=>N-(intOf i).toNat)
  case atStart=>exact ⟨0,by omega,rfl,fun i hi=>by omega,Below.refl _ _⟩
  case round=>
   obtain ⟨j,hj,rfl,hfit,hbl⟩:=hrel;have HFIT:Hid (∀ i,i<j->Fit rs i):=hfit;have HBL:Hid (Below w.heap.size w wr):=hbl;by_cases hlt:j<N
   case neg=>have hII:¬ (j:Int)<N:=(by omega);have e0:n=0:=Ck.uniq HN.out (Or.inr ⟨by have:=HNN.out;omega,Or.inl ⟨fun i hi=>HFIT.out i (by have:=HNN.out;omega),rfl⟩⟩);subst e0;clear hfit hbl;go_wp2;go_ret;exact ⟨rfl,HBL.out⟩
   case pos=>
    have hII:(j:Int)<N:=(by omega);have hj':j<rs.length:=(by rw[<- HNN.out];exact hlt);have hne:rs≠[]:=fun e=>(by rw[e] at hj';simp at hj');obtain ⟨g,o,rfl,hg,hc'⟩:=(HR.out.below hbl).at_ hne;have hrj:=List.getElem?_eq_getElem hj';obtain ⟨k0,k1,k2,k3,k4,k5⟩:=hc' j _ hrj;have hsz:=HS.out _ (List.getElem_mem hj');have HRJ:Hid (rs[j]?=some rs[j]):=hrj;have HTL:Hid ((rs.take j).length=j):=(by show _ = _;rw[List.length_take];omega);generalize rs[j]=r at *;have hTab:∀ o,Below w.heap.size w (wr.alloc o):=fun o=>hbl.alloc hbl.size o;have HBA:Hid (∀ o,Below w.heap.size w (wr.alloc o)):=hTab;obtain ⟨m,hm⟩:=flt_ex r;have HM:Hid (r.flt m):=hm;have HCK:Hid (∀ V,Calls prog 71 #[RuA.rV r] V fun e w'=>e = .returned (RuA.errV m)/\Below V.heap.size V w'):=fun V=>RuA.check_any r V hsz hm;clear hfit hbl hc' hrj hTab hm;by_cases hok:r.ok
    case neg=>have hmn:m≠0:=fun e=>hok ((RuM.flt_ok HM.out).1 e);have enm:n=m:=Ck.uniq HN.out (Or.inr ⟨by have:=HNN.out;omega,Or.inr ⟨j,r,HRJ.out,HFIT.out,Or.inl ⟨hok,HM.out,hmn⟩⟩⟩);subst enm;have ee:RuA.errV n = .iface 105 (.int .i64 (n:Int)):=(by unfold RuA.errV;rw[if_neg hmn]);rw[ee] at HCK;have HEE:Hid (RuA.errV n = .iface 105 (.int .i64 (n:Int))):=ee;obtain ⟨rn,rk,rf,rt,rw_,ri⟩:=r;unfold RuA.rV at HCK;simp only at k0 k1 k2 k3 k4 k5 HCK;clear hok hmn ee;go_wp2_with fail;refine (HCK.out _).mono ?_;rintro e w2 ⟨rfl,hb2⟩;have HB2:Hid (Below w.heap.size w w2):=(HBA.out _).trans (hb2.mono (HBA.out _).size);clear hb2;go_wp2;go_ret;exact ⟨by rw[HEE.out];rfl,HB2.out⟩
    case pos=>
     have hm0:m=0:=(RuM.flt_ok HM.out).2 hok;subst hm0;have ee:RuA.errV 0 = .nilIface:=rfl;rw[ee] at HCK;have HOK:Hid (r.ok):=hok;obtain ⟨rn,rk,rf,rt,rw_,ri⟩:=r;unfold RuA.rV at HCK;simp only at k0 k1 k2 k3 k4 k5 HCK;clear hok ee;go_wp2_with fail;refine (HCK.out _).mono ?_;rintro e w2 ⟨rfl,hb2⟩;have HB2:Hid (Below w.heap.size w w2):=(HBA.out _).trans (hb2.mono (HBA.out _).size);have hbx:w2.heap[wr.heap.size]?=some (.cells #[.string rn,.int .i64 rk,.int .i64 rf,.int .i64 rt,.int .i64 rw_,.int .i64 ri] 32):=(by rw[hb2.block wr.heap.size (by simp)];exact Go.heap_alloc_new wr _);have z0:w2.cell? ⟨wr.heap.size,0,none⟩=some (.string rn):=(by simp[World.cell?,hbx]);have HR2:Hid (RsOn w2 (some ⟨g,o,none⟩) (rs.take j)):=(HR.out.below HB2.out).take j;obtain ⟨b,hb⟩:∃ b:Bool,b=true↔∃ x,x ∈ rs.take j/\x.nm=rn:=⟨(rs.take j).any (fun x=>decide (x.nm=rn)),by simp⟩;have HB:Hid (b=true↔∃ x,x ∈ rs.take j/\x.nm=rn):=hb;have HHN:Hid (∀ V,Below w2.heap.size w2 V->Calls prog 72 #[.slice (some ⟨g,o,none⟩) j cap,.string rn] V fun e w'=>e = .returned (.bool b)/\Below V.heap.size V w'):=fun V hV=>(by have h1:=hasName_is (rs.take j) rn (some ⟨g,o,none⟩) cap hb V (HR2.out.below hV) (by rw[HTL.out];omega);rw[HTL.out] at h1;exact h1);have HSS:Hid (∀ V,Below w2.heap.size w2 V->V.cell? ⟨wr.heap.size,0,none⟩=some (.string rn)/\Below w2.heap.size w2 V):=fun V hV=>⟨TagA.keepCell hV z0,hV⟩;have hWW:Below w2.heap.size w2 w2:=Below.refl _ _;have hjc:(j:Int)<=cap:=(by omega);have hj0:(0:Int)<=j:=(by omega);clear hb2 hbx hb;go_wp2_with fail
     go_region_held3 (fun V=>V.cell? ⟨wr.heap.size,0,none⟩=some (.string rn)/\Below w2.heap.size w2 V)
      (first | exact HSS.out _ (TagA.drewBelow ‹_›) | (go_split_ands;exact HSS.out _ (TagA.keepBelow ‹_› hb5)))
      (first | (go_at_call 72;go_split_ands;refine (HHN.out _ ‹_›).mono ?_;rintro e w5 ⟨rfl,hb5⟩))
     rename_i hH;have HB5:Hid (Below w.heap.size w w5):=HB2.out.trans (hH.2.mono HB2.out.size);clear hH hb5 hWW z0;cases b with
     | true=>
      have hx:=HB.out.1 rfl;have e7:n=7:=Ck.uniq HN.out (Or.inr ⟨by have:=HNN.out;omega,Or.inr ⟨j,_,HRJ.out,HFIT.out,Or.inr ⟨HOK.out,hx,rfl⟩⟩⟩);subst e7;clear hx;go_wp2;go_ret;exact ⟨rfl,HB5.out⟩
     | false=>
      have HF2:Hid (∀ i,i<j+1->Fit rs i):=fun i hi=>by
       by_cases hij:i=j
       ·intro r hr;rw[hij,HRJ.out] at hr;cases hr
        exact ⟨HOK.out,fun x h1 h2=>by
         have:=HB.out.2 ⟨x,by rw[<- hij];exact h1,h2⟩;cases this⟩
       ·exact HFIT.out i (by omega)
      go_wp2;go_roundw
      case rel=>exact ⟨j+1,by omega,by go_num,HF2.out,HB5.out⟩
      case measure=>simp[intOf];omega
end WaB
namespace FrmA
open Go.RowKit FrmM
theorem info24:(prog.info? 93).map (fun i=>(i.zero,i.size,i.bytes))=some (some (.agg #[.int .i64 0,.slice none 0 0,.int .i64 0]),3,40):=by kernel_rfl
theorem lost_any (lb:Nat) (rest:ByteArray) (lost:Nat) (w:World) {L:Lay} (h:LineAt w lb L rest lost) :
  Calls prog 89 #[.pointer (some ⟨lb,L.lo,none⟩)] w fun e w'=>e = .returned (.int .i64 (lost:Int))/\w'=w:=by
 have c1:=h.c1;clear h;go_enter func89,ntmps89;go_wp2;go_ret;exact ⟨rfl,rfl⟩
def FeedPost (S:List UInt8) (lb:Nat) (L:Lay) (lost:Nat) (w:World) (e:Ending) (w':World):Prop:=
 ∃ v,e = .returned v/\FramesOwn w' w.heap.size w.heap.size v (feed S).1/\LineAt w' lb L (str (feed S).2.2) (lost+(feed S).2.1)/\But w.heap.size lb w w'
theorem ne_empty {t:ByteArray} (h:t.data.toList≠[]):t.toList.isEmpty=false:=by rw[ByteArray.toList_eq];simpa using h
theorem is_empty {t:ByteArray} (h:t.data.toList = []):t.toList.isEmpty=true:=by rw[ByteArray.toList_eq,h];rfl
theorem feed_any (lb:Nat) (rest s:ByteArray) (lost:Nat) (w:World) {L:Lay} (h:LineAt w lb L rest lost) (hs:rest.size+s.size<=100000) (hlo:lost<=10000000) :
  Calls prog 45 #[.pointer (some ⟨lb,L.lo,none⟩),.string s] w (FeedPost (rest.data.toList++s.data.toList) lb L lost w):=by
 obtain ⟨i0,hi,hz0,hz1,hz2⟩:=info_parts info24;obtain ⟨S,hS⟩:∃ S,S=rest.data.toList++s.data.toList:=⟨_,rfl⟩;rw[<- hS];have HS:Hid (S=rest.data.toList++s.data.toList):=hS;have HSl:Hid (S.length=rest.size+s.size):=by show _ = _;rw[hS,List.length_append,len_list,len_list]
 have c0:=h.c0;have hlb:=h.lt;have HL:Hid (LineAt w lb L rest lost):=h;have o1:¬ 9223372036854775807<rest.size+s.size:=by omega
 clear hS h;go_enter func45,ntmps45;go_wp2;go_loopw [5,6,7,8] (fun u l _ _ V=>∃ (t:ByteArray) (acc:List Fr) (q:Nat),u = .string t/\feed S=(acc++(feed t.data.toList).1,q+(feed t.data.toList).2.1,(feed t.data.toList).2.2)/\acc.length+q+t.size<=S.length/\FramesOwn V w.heap.size w.heap.size l acc/\LineAt V lb L rest (lost+q)/\But w.heap.size lb w V) (fun u _ _ _ _=>strSize u)
 case atStart=>
  refine ⟨rest++s,[],0,rfl,?_,?_,FramesOwn.nil _ _ _,HL.out,But.refl _ _ _⟩
  ·have e:(rest++s).data.toList=S:=(by rw[HS.out];simp);rw[e];simp
  ·rw[HSl.out];simp
 case round=>
  obtain ⟨t,acc,q,rfl,hfd,hle,hfo,hla,hbut⟩:=hrel;rw[HSl.out] at hle;have HFD:Hid (feed S=(acc++(feed t.data.toList).1,q+(feed t.data.toList).2.1,(feed t.data.toList).2.2)):=hfd;have HFO:Hid (FramesOwn wr w.heap.size w.heap.size u6 acc):=hfo;have HLA:Hid (LineAt wr lb L rest (lost+q)):=hla;have HBUT:Hid (But w.heap.size lb w wr):=hbut;have hwz:w.heap.size<=wr.heap.size:=hbut.size;have hts:t.size<=100000:=by omega
  have hal:acc.length<=100000:=by omega
  have hqq:q<=100000:=by omega
  have HLE:Hid (acc.length+q+t.size<=rest.size+s.size):=hle;clear hfd hfo hla hbut hle;by_cases hte:t.data.toList = []
  case pos=>
   have hE:=is_empty hte;have HFE:Hid (feed S=(acc,q,t.data.toList)):=(by show _ = _;rw[HFD.out,hte,feed_nil];simp);clear hte;have hm0:=HLA.out.c0;have hmz:=HLA.out.fz L.lo;go_wp2_with fail;refine (clone_any t _ (by omega)).mono ?_;rintro e w2 ⟨rfl,hb2⟩;have hla2:LineAt w2 lb L rest (lost+q):=HLA.out.keep (hb2.block lb HLA.out.lt);have n0:=hla2.c0;have nz:=hla2.fz L.lo;have HLA2:Hid (LineAt w2 lb L rest (lost+q)):=hla2;have HFO2:Hid (FramesOwn w2 w.heap.size w.heap.size u6 acc):=HFO.out.below hb2;have HBUT2:Hid (But w.heap.size lb w w2):=HBUT.out.trans (below_but (hb2.mono HBUT.out.size) lb);clear hb2 hla2 hm0 hmz;go_wp2;go_ret;refine ⟨_,rfl,?_,?_,HBUT2.out.set L.lo _⟩
   ·rw[HFE.out];exact HFO2.out.move (by simp[World.setCell]) (fun k h1 h2=>Below.heap_setCell _ _ _ _ (by show k≠lb;omega))
   ·rw[HFE.out];show LineAt _ lb L (str t.data.toList) _;rw[str_self];exact HLA2.out.set0 t
  case neg=>
   have hE:=ne_empty hte;have HNE:Hid (t.data.toList≠[]):=hte;have htp : 0<t.size:=(by have:=List.length_pos_iff.2 hte;rw[len_list] at this;exact this);clear hte;go_wp2_with fail;refine (front_any t _ hts).mono ?_;rintro e w1 ⟨v,rfl,hro,hb1⟩;have HB1:Hid (Below wr.heap.size wr w1):=hb1;have hw1:wr.heap.size<=w1.heap.size:=hb1.size;have HLA1:Hid (LineAt w1 lb L rest (lost+q)):=HLA.out.keep (hb1.block lb HLA.out.lt);have HFO1:Hid (FramesOwn w1 w.heap.size w.heap.size u6 acc):=HFO.out.below hb1;have HBUT1:Hid (But w.heap.size lb w w1):=HBUT.out.trans (below_but (hb1.mono hwz) lb);cases hfr:front t.data.toList with
   | some f=>
    obtain ⟨hok,tl,htl⟩:=front_some hfr;have hF:frontF t.data.toList=f:=(by unfold frontF;rw[hfr]);have hN:frontN t.data.toList=(enc f).length:=(by unfold frontN;rw[hfr]);rw[hF] at hro ⊢;rw[hN];have HFF:=feed_frame hfr;have htag:∀ r ∈ f.rs,r.t.size<=maxLen:=fun r hr=>(by have:=hok.tags r hr;unfold maxLen;omega);obtain ⟨p,cap,rfl,hron⟩:=hro.on htag;have HRON:Hid (ReadsOn w1 p f.rs):=hron;have hblk:f.rs≠[]->∃ b o,p=some ⟨b,o,none⟩/\wr.heap.size<=b/\b<w1.heap.size:=(by intro hne;obtain ⟨g,cp,hv,h1,h2⟩:=hro.own.form (List.length_pos_iff.2 hne);simp at hv;exact ⟨g,0,hv.1,h1,h2⟩);have HBLK:Hid (f.rs≠[]->∃ b o,p=some ⟨b,o,none⟩/\wr.heap.size<=b/\b<w1.heap.size):=hblk;obtain ⟨N,hNN⟩:∃ N,N=(enc f).length:=⟨_,rfl⟩;have hNp : 0<N:=(by rw[hNN,enc_len];omega);have hNt:N<=t.size:=(by have:=congrArg List.length htl;rw[len_list,List.length_append] at this;omega);have hNI:(0:Int)<N:=(by omega);have hNtI:(N:Int)<=t.size:=(by omega);have HNN:Hid (N=(enc f).length):=hNN;have HFFH:Hid (feed t.data.toList=(f::(feed (t.data.toList.drop (enc f).length)).1,(feed (t.data.toList.drop (enc f).length)).2.1,(feed (t.data.toList.drop (enc f).length)).2.2)):=HFF;rw[<- hNN];clear hfr htl hF hN HFF hro hron hblk hNN hb1 hok htag tl;obtain ⟨ps,hpl,hpo,hpr⟩:=(HFO1.out.alloc (.cells #[.int .i64 f.ty,.slice p f.rs.length cap,.int .i64 f.wm] 93)).alloc (.cells #[.int .i64 f.ty,.slice p f.rs.length cap,.int .i64 f.wm] 93) |>.out;have HPR:Hid (∀ (k:Nat) (g:Fr) (pc:Option Addr×Nat),acc[k]?=some g->ps[k]?=some pc->ReadsOn ((w1.alloc (.cells #[.int .i64 f.ty,.slice p f.rs.length cap,.int .i64 f.wm] 93)).alloc (.cells #[.int .i64 f.ty,.slice p f.rs.length cap,.int .i64 f.wm] 93)) pc.1 g.rs/\(g.rs≠[]->∃ b o,pc.1=some ⟨b,o,none⟩/\w.heap.size<=b/\u6.ownBlock≠some b)):=hpr;have HPL:Hid (ps.length=acc.length):=hpl;have hnew:∀ k,u6.ownBlock=some k->k<wr.heap.size:=fun k hk=>(by obtain ⟨ps',_,ho',_⟩:=HFO.out.out;exact (ho'.lt k hk).2);have HNEW:Hid (∀ k,u6.ownBlock=some k->k<wr.heap.size):=hnew;clear hpl hpr hnew;go_wp2_with (at_builtin;refine wpList_append_lies _ rfl _ _ 132 rfl w.heap.size 93 i0 (.agg #[.int .i64 0,.slice none 0 0,.int .i64 0]) 3 40 underlying132 hi hz0 hz1 hz2 rfl (by decide) _ _ _ rfl hpo ⟨w1.heap.size+1,0,none⟩ 1 1 [.int .i64 f.ty,.slice p f.rs.length cap,.int .i64 f.wm] rfl rfl ?q1 ?q2 (by omega) ?q3 ?q4 ?q5 (w1.heap.size+2) ?q6 ?_)
    case q1=>
     intro j u hj
     match j,hj with
     | 0,hj=>simp at hj;subst hj;simp[Addr.add]
     | 1,hj=>simp at hj;subst hj;simp[Addr.add]
     | 2,hj=>simp at hj;subst hj;simp[Addr.add]
    case q2=>intro u hu;simp at hu;rcases hu with rfl | rfl | rfl<;>rfl
    case q3=>unfold maxLen;omega
    case q4=>omega
    case q5=>simp;omega
    case q6=>simp
    intro g cap' w3 hown3 hgrow3 hat hlt3;have hfo3:FramesOwn w3 w.heap.size w.heap.size (.slice (some ⟨g,0,none⟩) (acc.length+1) cap') (acc ++ [f]):=(by refine FramesOwn.snoc (p:=p) (c:=cap) HPL.out HPR.out hown3 hgrow3 (by rcases hat with h | h;exact Or.inl h;exact Or.inr (by rw[h];simp)) ((HRON.out.alloc _).alloc _) ?_;intro hne;obtain ⟨b,o,rfl,h1,h2⟩:=HBLK.out hne;exact ⟨b,o,rfl,by omega,fun e=>by have:=HNEW.out b e;omega⟩);have HFO3:Hid (FramesOwn w3 w.heap.size w.heap.size (.slice (some ⟨g,0,none⟩) (acc.length+1) cap') (acc ++ [f])):=hfo3;have hb3:Below w1.heap.size w1 w3\/True:=Or.inr trivial;have hbut3:But w.heap.size lb w w3:=(by refine HBUT1.out.trans (below_but ?_ lb);exact (((Below.refl w.heap.size w1).alloc (by omega) _).alloc (by simp;omega) _).grown hgrow3 (by simp;omega) (fun k hk=>(hpo.lt k hk).1));have HBUT3:Hid (But w.heap.size lb w w3):=hbut3
    have hla3:LineAt w3 lb L rest (lost+q):=HLA1.out.keep (by
     have e1:w3.heap[lb]?=((w1.alloc (.cells #[.int .i64 f.ty,.slice p f.rs.length cap,.int .i64 f.wm] 93)).alloc (.cells #[.int .i64 f.ty,.slice p f.rs.length cap,.int .i64 f.wm] 93)).heap[lb]?:=hgrow3.block lb (by simp;omega) (fun e=>by have:=(hpo.lt lb e.symm).1;omega);rw[e1,Below.heap_alloc _ _ _ (by simp;omega),Below.heap_alloc _ _ _ (by omega)])
    have HLA3:Hid (LineAt w3 lb L rest (lost+q)):=hla3;clear hown3 hgrow3 hat hlt3 hfo3 hb3 hbut3 hla3 hpo;go_wp2;go_roundw
    case rel=>
     have hd:(t.extract N t.size).data.toList=t.data.toList.drop (enc f).length:=(by rw[extract_list,HNN.out,List.take_of_length_le];rw[List.length_drop,len_list,<- HNN.out];omega);refine ⟨t.extract N t.size,acc ++ [f],q,rfl,?_,?_,HFO3.out,HLA3.out,HBUT3.out⟩
     ·rw[hd,HFD.out,HFFH.out];simp
     ·have h1:=HLE.out;rw[HSl.out,ByteArray.size_extract];simp;omega
    case measure=>simp[strSize];omega
   | none=>
    have hF:frontF t.data.toList=⟨0,[],0⟩:=(by unfold frontF;rw[hfr];rfl);have hN:frontN t.data.toList=0:=(by unfold frontN;rw[hfr]);rw[hF] at hro ⊢;rw[hN];obtain ⟨p,cap,rfl,-⟩:=hro.on (fun r hr=>absurd hr List.not_mem_nil);have HFR:Hid (front t.data.toList=none):=hfr;have HLAx:Hid (∀ o,LineAt (w1.alloc o) lb L rest (lost+q)):=fun o=>HLA1.out.keep (Below.heap_alloc _ _ _ HLA1.out.lt);clear hfr hF hN hro hb1;go_wp2_with fail;refine (isBeginning_any t _ hts htp).mono ?_;rintro e w2 ⟨rfl,rfl⟩;cases hbg:begins t.data.toList with
    | true=>
     have HFE:Hid (feed S=(acc,q,t.data.toList)):=(by show _ = _;rw[HFD.out,feed_wait HNE.out HFR.out hbg];simp);clear hbg HLA HFO HBUT;have HLA:=HLAx;have hla0:LineAt (w1.alloc (.cells #[.int .i64 0,.slice p 0 cap,.int .i64 0] 93)) lb L rest (lost+q):=HLAx.out _;have hfo0:FramesOwn (w1.alloc (.cells #[.int .i64 0,.slice p 0 cap,.int .i64 0] 93)) w.heap.size w.heap.size u6 acc:=HFO1.out.alloc _;have hbu0:But w.heap.size lb w (w1.alloc (.cells #[.int .i64 0,.slice p 0 cap,.int .i64 0] 93)):=HBUT1.out.trans (below_but ((Below.refl _ _).alloc (by omega) _) lb);clear HLA;have HLA:Hid (LineAt (w1.alloc (.cells #[.int .i64 0,.slice p 0 cap,.int .i64 0] 93)) lb L rest (lost+q)):=hla0;have HFO:Hid (FramesOwn (w1.alloc (.cells #[.int .i64 0,.slice p 0 cap,.int .i64 0] 93)) w.heap.size w.heap.size u6 acc):=hfo0;have HBUT:Hid (But w.heap.size lb w (w1.alloc (.cells #[.int .i64 0,.slice p 0 cap,.int .i64 0] 93))):=hbu0;clear hla0 hfo0 hbu0;have hm0:=HLA.out.c0;have hmz:=HLA.out.fz L.lo;go_wp2_with fail;refine (clone_any t _ (by omega)).mono ?_;rintro e w2 ⟨rfl,hb2⟩;have hla2:LineAt w2 lb L rest (lost+q):=HLA.out.keep (hb2.block lb HLA.out.lt);have n0:=hla2.c0;have nz:=hla2.fz L.lo;have HLA2:Hid (LineAt w2 lb L rest (lost+q)):=hla2;have HFO2:Hid (FramesOwn w2 w.heap.size w.heap.size u6 acc):=HFO.out.below hb2;have HBUT2:Hid (But w.heap.size lb w w2):=HBUT.out.trans (below_but (hb2.mono HBUT.out.size) lb);clear hb2 hla2 hm0 hmz;go_wp2;go_ret;refine ⟨_,rfl,?_,?_,HBUT2.out.set L.lo _⟩
     ·rw[HFE.out];exact HFO2.out.move (by simp[World.setCell]) (fun k h1 h2=>Below.heap_setCell _ _ _ _ (by show k≠lb;omega))
     ·rw[HFE.out];show LineAt _ lb L (str t.data.toList) _;rw[str_self];exact HLA2.out.set0 t
    | false=>
     have HLO:Hid (feed t.data.toList=((feed (t.data.toList.drop 1)).1,(feed (t.data.toList.drop 1)).2.1+1,(feed (t.data.toList.drop 1)).2.2)):=feed_lose HNE.out HFR.out hbg;have d1:=(HLAx.out (.cells #[.int .i64 0,.slice p 0 cap,.int .i64 0] 93)).c1;have dz:=(HLAx.out (.cells #[.int .i64 0,.slice p 0 cap,.int .i64 0] 93)).fz (L.lo+1);have htI:(1:Int)<=t.size:=(by omega);clear hbg;go_wp2;go_roundw
     case rel=>
      have hd:(t.extract 1 t.size).data.toList=t.data.toList.drop 1:=(by rw[extract_list,List.take_of_length_le];rw[List.length_drop,len_list];omega);refine ⟨t.extract 1 t.size,acc,q+1,rfl,?_,?_,?_,?_,?_⟩
      ·rw[hd,HFD.out,HLO.out];simp;omega
      ·have h1:=HLE.out;rw[HSl.out,ByteArray.size_extract];omega
      ·exact (HFO1.out.alloc _).move (by simp[World.setCell]) (fun k h1 h2=>Below.heap_setCell _ _ _ _ (by show k≠lb;omega))
      ·exact (HLAx.out _).set1 (lost+(q+1)) (by omega)
      ·exact (HBUT1.out.trans (below_but ((Below.refl _ _).alloc (by omega) _) lb)).set (L.lo+1) _
     case measure=>simp[strSize];omega
end FrmA
end Go.Proofs.YtmolafjalaeoaaaGreatDoor
