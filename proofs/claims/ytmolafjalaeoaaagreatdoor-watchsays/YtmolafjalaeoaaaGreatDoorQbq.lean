/-
  RuR WeW
-/
import Derived.Test.YtmolafjalaeoaaaGreatDoorQbp
set_option maxRecDepth 100000
set_option maxHeartbeats 8000000
namespace Go.Proofs.YtmolafjalaeoaaaGreatDoor
open Go.Proofs.Tryz
namespace HlA
open Go.RowKit TkM TkW TkA RuM
theorem drewN1 (w:World) (n:Nat):Below w.heap.size w (w.drewN n):=below_drewN (Below.refl _ _) n
structure RS (w V:World) (rb:Nat) (F:Nat->Prop) (W need q:Nat) (E:List (List Sg)) (r:Rl):Prop where
 kp:Kp F w V
 d:RfAt V rb F W need q E
 box:RuA.Cells6 V w.heap.size (.string r.nm) (.int .i64 r.k) (.int .i64 r.f) (.int .i64 r.t) (.int .i64 r.wo) (.int .i64 r.wi)
 lim:∀ b,F b->b<w.heap.size
section
variable {w : World} {rb : Nat} {F : Nat → Prop} {W need q : Nat} {E : List (List Sg)}
theorem RS.below {V V':World} {r:Rl} (h:RS w V rb F W need q E r) (hb:Below V.heap.size V V'):RS w V' rb F W need q E r:=
 ⟨h.kp.trans (below_kp hb F),h.d.below hb,h.box.move (hb.block _ h.box.lt) hb.size,h.lim⟩
theorem RS.ref {V V':World} {r:Rl} {q':Nat} (h:RS w V rb F W need q E r) (hd:RfAt V' rb F W need q' E) (hk:Kp F V V'):RS w V' rb F W need q' E r:=
 ⟨h.kp.trans hk,hd,h.box.move (hk.block _ h.box.lt (fun hf=>by have:=h.lim _ hf;omega)) hk.size,h.lim⟩
theorem RS.more {V:World} {r:Rl} {q':Nat} (h:RS w V rb F W need q E r) (hq:q<=q'):RS w V rb F W need q' E r:=⟨h.kp,h.d.more hq,h.box,h.lim⟩
theorem rs_new (r:Rl) (d:RfAt w rb F W need q E):RS w (w.alloc (.cells #[.string r.nm,.int .i64 r.k,.int .i64 r.f,.int .i64 r.t,.int .i64 r.wo,.int .i64 r.wi] 32)) rb F W need q E r:=by
 have hB:Below w.heap.size w (w.alloc (.cells #[.string r.nm,.int .i64 r.k,.int .i64 r.f,.int .i64 r.t,.int .i64 r.wo,.int .i64 r.wi] 32)):=(Below.refl _ w).alloc (Nat.le_refl _) _;refine ⟨below_kp hB F,d.below hB,⟨?_,?_,?_,?_,?_,?_,?_,?_⟩,fun b hb=>d.lim hb⟩
 all_goals first | go_simp | (intro i;go_simp)
theorem cm_true {g:ByteArray} {ep:Nat->List Sg} {W need n:Nat} {t:Bool} {p e:Int} (h:cm g ep W need n t p e=true):(0<=e/\e<(n:Int))/\t=true:=by unfold cm comesB at h;rw[Bool.and_eq_true] at h;have:=isA_true h.1;exact ⟨this.1,this.2.1⟩
theorem ws_in {g:ByteArray} {ep:Nat->List Sg} {W need n:Nat} {p:Int} {e:Nat} (he:e<n):ws g ep W need n true p (e:Int)=((p != -1)&&(whr g ep W need e == p)):=by unfold ws wasB wv;rw[if_pos ⟨by omega,by omega⟩];simp
def Came (g:ByteArray) (ep:Nat->List Sg) (W need n:Nat) (t:Bool) (r:Rl) (x y:Nat):Prop:=
 cm g ep W need n t r.f (x:Int)=true/\∀ z:Int,(x:Int)<z->z<(y:Int)->ws g ep W need n t r.wo z=false
theorem came_start {g:ByteArray} {ep:Nat->List Sg} {W need n:Nat} {t:Bool} {r:Rl} {x:Nat}:cm g ep W need n t r.f (x:Int)=true↔Came g ep W need n t r x (x+1):=
 ⟨fun h=>⟨h,fun z h1 h2=>by omega⟩,fun h=>h.1⟩
theorem came_step {g:ByteArray} {ep:Nat->List Sg} {W need n:Nat} {t:Bool} {r:Rl} {x y:Nat} (hxy:x<y):Came g ep W need n t r x (y+1)↔Came g ep W need n t r x y/\ws g ep W need n t r.wo (y:Int)=false:=by
 constructor
 ·intro h;exact ⟨⟨h.1,fun z h1 h2=>h.2 z h1 (by omega)⟩,h.2 (y:Int) (by omega) (by omega)⟩
 ·rintro ⟨h,h2⟩;refine ⟨h.1,fun z h3 h4=>?_⟩;by_cases hz:z=(y:Int)
  ·rw[hz];exact h2
  ·exact h.2 z h3 (by omega)
theorem rholds_any (r:Rl) (g:ByteArray) (e:Int) {b:Bool} (d:RfAt w rb F W need q E) (hW:W<=8) (hg:g.size<=100000) (hq:q<=8000000000) (he0 : -1<=e) (he1:e<=100) (hnm:r.nm.size<=9223372036854775807)
  (hb:b=true↔HoldsP g (epOf E) W need E.length (told g E) r e) :
  Calls prog 91 #[.pointer (some ⟨rb,0,none⟩),RuA.rV r,.string g,.int .i64 e] w fun x w'=>x = .returned (.bool b)/\RfAt w' rb F W need (q+30000) E/\Kp F w w':=by
 have h25:=(light_iff.1 d.good).1;have HB:Hid (b=true↔HoldsP g (epOf E) W need E.length (told g E) r e):=hb;have HC:Hid (∀ (V:World) (q':Nat) (p x:Int),RfAt V rb F W need q' E->q'<=9000000000->Calls prog 126 #[.pointer (some ⟨rb,0,none⟩),.string g,.int .i64 p,.int .i64 x] V fun y w'=>y = .returned (.bool (cm g (epOf E) W need E.length (told g E) p x))/\RfAt w' rb F W need (q'+2) E/\Kp F V w'):=fun V q' p x hV hq'=>rcomes_any g p x hV hW hg hq';have HA:Hid (∀ (V:World) (q' k:Nat),RfAt V rb F W need q' E->k<E.length->q'<=9000000000->Calls prog 93 #[.pointer (some ⟨rb,0,none⟩),.string g,.int .i64 (k:Int)] V fun y w'=>y = .returned (.int .i64 (whr g (epOf E) W need k))/\RfAt w' rb F W need (q'+1) E/\Kp F V w'):=fun V q' k hV hk hq'=>rat_any g k hV hk hW hg (by omega);have HK:Hid (∀ V:World,Calls prog 87 #[.string g] V fun y w'=>y = .returned (.int .i64 (InA.knd g:Int))/\Below V.heap.size V w'):=fun V=>InA.kind_any g V hg;have HR:Hid _:=rs_new r d;obtain ⟨m,hm⟩:=flt_ex r;have HFL:Hid (r.flt m):=hm;have HFC:Hid (∀ V:World,Calls prog 38 #[.agg #[.string r.nm,.int .i64 r.k,.int .i64 r.f,.int .i64 r.t,.int .i64 r.wo,.int .i64 r.wi]] V fun y w'=>y = .returned (.int .i64 (m:Int))/\Below V.heap.size V w'):=fun V=>RuA.rfault_any r V hnm hm;have HEN:Hid (∀ V:World,RS w V rb F W need q E r->RfAt V rb F W need (q+30000) E/\Kp F w V):=fun V hV=>⟨hV.d.more (by omega),hV.kp⟩;clear hb d hm hnm;unfold RuA.rV;go_enter func91,ntmps91;go_wp2_with fail;refine (HK.out _).mono ?_;rintro y V1 ⟨rfl,hb1⟩;have HR1:Hid (RS w V1 rb F W need q E r):=HR.out.below hb1;clear hb1 HR HK;have c0:=HR1.out.box.c0;have c1:=HR1.out.box.c1;have c2:=HR1.out.box.c2;have c3:=HR1.out.box.c3;have c4:=HR1.out.box.c4;have c5:=HR1.out.box.c5;go_wp2_with fail;refine (HFC.out _).mono ?_;rintro y V2 ⟨rfl,hb2⟩;have HR2:Hid (RS w V2 rb F W need q E r):=HR1.out.below hb2;clear hb2 HR1 HFC c0 c1 c2 c3 c4 c5;by_cases hok:r.ok
 case neg=>
  have hbf:b=false:=by rw[<- Bool.not_eq_true,HB.out];exact fun h=>hok h.1
  subst hbf;have hm0:m≠0:=fun h=>hok ((flt_ok HFL.out).1 h);have i0:decide ((0:Int)<(m:Int))=true:=by simp;omega
  have i1:(0:Int)<(m:Int):=by omega
  have i2 : 0<m:=by omega
  clear hok hm0;go_wp2;go_ret;exact ⟨rfl,HEN.out _ HR2.out⟩
 have hm0:m=0:=(flt_ok HFL.out).2 hok;subst hm0;have hK:=hok.2.1.1;have hF:=hok.2.1.2.1;have hO:=hok.2.1.2.2.2.1;have hI:=hok.2.1.2.2.2.2;have HOK:Hid r.ok:=hok;clear hok HFL;have d1:=HR2.out.box.c1;obtain ⟨kd,hkd⟩:∃ kd,kd=InA.knd g:=⟨_,rfl⟩;have HKD:Hid (kd=InA.knd g):=hkd;rw[<- hkd];clear hkd;by_cases hof:ofK g r.k=true
 case neg=>
  have hbf:b=false:=by rw[<- Bool.not_eq_true,HB.out];exact fun h=>hof h.2.1
  subst hbf;have HOF:Hid (¬ (0<kd/\(r.k=0\/(kd:Int)=r.k))):=by show ¬ (0<kd/\(r.k=0\/(kd:Int)=r.k));rw[HKD.out];intro h;apply hof;unfold ofK;simp[h.1,h.2]
  clear hof;by_cases hk0:kd=0
  ·subst hk0;go_wp2;go_ret;exact ⟨rfl,HEN.out _ HR2.out⟩
  ·have hk1:((kd:Int) == 0)=false:=(by rw[beq_eq_false_iff_ne];omega);have hno:¬ (r.k=0\/(kd:Int)=r.k):=fun h=>HOF.out ⟨by omega,h⟩;have g1:(0:Int)<r.k:=(by omega);have g2:decide ((0:Int)<r.k)=true:=(by simpa using g1);have g3:(r.k != (kd:Int))=true:=(by simp;omega);go_wp2;go_ret;exact ⟨rfl,HEN.out _ HR2.out⟩
 case pos=>
  have hOF : 0<kd/\(r.k=0\/(kd:Int)=r.k):=by rw[HKD.out];have h:=hof;unfold ofK at h;simp at h;exact h
  have HOF:Hid (ofK g r.k=true):=hof;clear hof;have hk1:((kd:Int) == 0)=false:=by rw[beq_eq_false_iff_ne];omega
  by_cases g1:(0:Int)<r.k
  case pos=>
   have g2:decide ((0:Int)<r.k)=true:=(by simpa using g1);have g3:(r.k != (kd:Int))=false:=(by simp;omega);have d3:=HR2.out.box.c3;go_wp2_with fail;refine (HC.out _ q r.t e HR2.out.d (by omega)).mono ?_;rintro y V3 ⟨rfl,hd3,hk3⟩;have HR3:Hid (RS w V3 rb F W need (q+2) E r):=HR2.out.ref hd3 hk3;clear hd3 hk3 HR2 d1 d3;cases hct:cm g (epOf E) W need E.length (told g E) r.t e with
   | false=>
    have hbf:b=false:=(by rw[<- Bool.not_eq_true,HB.out];exact fun h=>by have h2:=h.2.2.1;rw[hct] at h2;exact Bool.noConfusion h2);subst hbf;go_wp2;go_ret;exact ⟨rfl,HR3.out.d.more (by omega),HR3.out.kp⟩
   | true=>
    obtain ⟨hin,htd⟩:=cm_true hct;have HBK:Hid (b=true↔RuN.Back (cm g (epOf E) W need E.length (told g E) r.f) (ws g (epOf E) W need E.length (told g E) r.wo) (max 0 (e-r.wi)) e):=⟨fun h=>(HB.out.1 h).2.2.2,fun h=>HB.out.2 ⟨HOK.out,HOF.out,hct,h⟩⟩;have HTD:Hid (told g E=true):=htd;have w2:IntKind.i64.wrap (e-r.wi)=e-r.wi:=(by simp[IntKind.wrap,IntKind.bits,IntKind.signed];omega);clear hct HB HOK HOF htd;obtain ⟨m,rfl⟩:∃ m:Nat,e=(m:Int):=⟨e.toNat,by omega⟩;obtain ⟨lo,hlo⟩:∃ lo:Nat,max 0 ((m:Int)-r.wi)=(lo:Int):=⟨(max 0 ((m:Int)-r.wi)).toNat,by omega⟩;have hlm:lo<=m:=(by omega);have HLO:Hid (max 0 ((m:Int)-r.wi)=(lo:Int)):=hlo;rw[hlo] at HBK;have d5:=HR3.out.box.c5;go_wp2;clear d5 hlo w2;have HST:Hid (RS w V3 rb F W need (q+2+200*lo) E r):=HR3.out.more (by omega);clear HR3;obtain ⟨n0,hn0⟩:∃ n0,n0=E.length:=⟨_,rfl⟩;have HN0:Hid (n0=E.length):=hn0;have hm0:m<n0:=(by omega);rw[<- hn0] at h25;rw[<- hn0] at HBK HC;clear hin hn0;go_loopw [11,12,13] (fun i _ _ V=>∃ x:Nat,lo<=x/\x<=m/\i = .int .i64 x/\RuN.Up (cm g (epOf E) W need n0 (told g E) r.f) (ws g (epOf E) W need n0 (told g E) r.wo) lo m x/\RS w V rb F W need (q+2+200*x) E r) (fun i _ _ _=>m-(intOf i).toNat)
    case atStart=>exact ⟨lo,Nat.le_refl _,hlm,rfl,RuN.up_start _ _ _ _,HST.out⟩
    case round=>
     obtain ⟨x,hx0,hx1,rfl,hup,hrs⟩:=hrel;have HUP:Hid (RuN.Up (cm g (epOf E) W need n0 (told g E) r.f) (ws g (epOf E) W need n0 (told g E) r.wo) lo m x):=hup;have HRS:Hid (RS w wr rb F W need (q+2+200*x) E r):=hrs;have d2:=hrs.box.c2;clear hup hrs HST;by_cases hxm:x<m
     case neg=>obtain rfl:x=m:=(by omega);have hbf:b=false:=(by rw[<- Bool.not_eq_true,HBK.out];exact RuN.up_end HUP.out (Int.le_refl _));subst hbf;go_wp2;go_ret;exact ⟨rfl,HRS.out.d.more (by omega),HRS.out.kp⟩
     case pos=>
      have hxI:(x:Int)<(m:Int):=(by omega);go_wp2_with fail;refine (HC.out _ (q+2+200*x) r.f x HRS.out.d (by omega)).mono ?_;rintro y V4 ⟨rfl,hd4,hk4⟩;have HR4:Hid (RS w V4 rb F W need (q+2+200*x+2+(x+1)) E r):=(HRS.out.ref hd4 hk4).more (by omega);clear hd4 hk4 HRS d2;obtain ⟨cb,hcb⟩:∃ cb,cb=cm g (epOf E) W need n0 (told g E) r.f (x:Int):=⟨_,rfl⟩;have HCB:Hid (cb=true↔Came g (epOf E) W need n0 (told g E) r x (x+1)):=(by rw[hcb];exact came_start);rw[<- hcb];clear hcb;go_wp2;go_loopw [12,13] (fun c y V=>∃ (cv:Bool) (yv:Nat),x+1<=yv/\yv<=m/\c = .bool cv/\y = .int .i64 yv/\(cv=true↔Came g (epOf E) W need n0 (told g E) r x yv)/\RS w V rb F W need (q+2+200*x+2+yv) E r) (fun _ y _=>m-(intOf y).toNat)
      case atStart=>exact ⟨cb,x+1,Nat.le_refl _,by omega,rfl,by first | rfl | go_num,HCB.out,HR4.out⟩
      case round=>
       obtain ⟨cv,yv,hy0,hy1,rfl,rfl,hcv,hrs⟩:=hrel;have HCV:Hid (cv=true↔Came g (epOf E) W need n0 (told g E) r x yv):=hcv;have HRS:Hid (RS w wr rb F W need (q+2+200*x+2+yv) E r):=hrs;have d4:=hrs.box.c4;clear hcv hrs HR4 HCB;by_cases hym:yv<m
       case neg=>
        obtain rfl:yv=m:=(by omega);cases cv with
        | true=>
         have hbt:b=true:=HBK.out.2 ⟨x,by omega,by omega,(HCV.out.1 rfl).1,(HCV.out.1 rfl).2⟩;subst hbt;go_wp2;go_ret;exact ⟨rfl,HRS.out.d.more (by omega),HRS.out.kp⟩
        | false=>
         have HUP2:Hid (RuN.Up (cm g (epOf E) W need n0 (told g E) r.f) (ws g (epOf E) W need n0 (told g E) r.wo) lo yv ((x:Int)+1)):=RuN.up_step HUP.out (fun h=>Bool.noConfusion (HCV.out.2 h));go_wp2;go_roundw
         case rel=>exact ⟨x+1,by omega,by omega,by first | rfl | go_num,by have h:=HUP2.out;exact h,HRS.out.more (by omega)⟩
         case measure=>simp[intOf];omega
       case pos=>
        have hyI:(yv:Int)<(m:Int):=(by omega);cases cv with
        | false=>
         have HUP2:Hid (RuN.Up (cm g (epOf E) W need n0 (told g E) r.f) (ws g (epOf E) W need n0 (told g E) r.wo) lo m ((x:Int)+1)):=RuN.up_step HUP.out (fun h=>Bool.noConfusion (HCV.out.2 ⟨h.1,fun z h1 h2=>h.2 z h1 (by omega)⟩));go_wp2;go_roundw
         case rel=>exact ⟨x+1,by omega,by omega,by first | rfl | go_num,by have h:=HUP2.out;exact h,HRS.out.more (by omega)⟩
         case measure=>simp[intOf];omega
        | true=>
         have HWS:Hid (ws g (epOf E) W need n0 (told g E) r.wo (yv:Int)=((r.wo != -1)&&(whr g (epOf E) W need yv == r.wo))):=(by show ws g (epOf E) W need n0 (told g E) r.wo (yv:Int) = _;rw[HTD.out];exact ws_in (by omega));by_cases ho:(0:Int)<=r.wo
         case neg=>
          have hoD:decide ((0:Int)<=r.wo)=false:=(by simpa using ho);have HCV2:Hid (true=true↔Came g (epOf E) W need n0 (told g E) r x (yv+1)):=(by show true=true↔_;rw[came_step (by omega)];refine ⟨fun _=>⟨HCV.out.1 rfl,?_⟩,fun _=>rfl⟩;rw[HWS.out,show r.wo = -1 by omega];rfl);go_upto_region 14 with fail;go_quiet (fail);have HR6:Hid (∀ dd,RS w (wr.drewN dd) rb F W need (q+2+200*x+2+(yv+1)) E r):=fun dd=>(HRS.out.below (drewN1 wr dd)).more (by omega);clear HRS d4;go_wp2;go_roundw
          case rel=>exact ⟨true,yv+1,by omega,by omega,rfl,by first | rfl | go_num,HCV2.out,HR6.out _⟩
          case measure=>simp[intOf];omega
         case pos=>
          have hoD:decide ((0:Int)<=r.wo)=true:=(by simpa using ho);obtain ⟨v,hv⟩:∃ v,v=whr g (epOf E) W need yv:=⟨_,rfl⟩;have HA2:Hid (∀ (V:World) (q':Nat),RfAt V rb F W need q' E->q'<=9000000000->Calls prog 93 #[.pointer (some ⟨rb,0,none⟩),.string g,.int .i64 (yv:Int)] V fun y w'=>y = .returned (.int .i64 v)/\RfAt w' rb F W need (q'+1) E/\Kp F V w'):=fun V q' hV hq'=>(by have h:=HA.out V q' yv hV (by have:=HN0.out;omega) hq';rw[<- hv] at h;exact h);have HWS2:Hid (ws g (epOf E) W need n0 (told g E) r.wo (yv:Int)=(v == r.wo)):=(by show ws g (epOf E) W need n0 (told g E) r.wo (yv:Int) = _;rw[HWS.out,<- hv,show (r.wo != -1)=true by simp;omega];rfl);clear hv HWS;have hR1:∀ dd,RS w (wr.drewN dd) rb F W need (q+2+200*x+2+yv) E r:=fun dd=>HRS.out.below (drewN1 wr dd);have HR1:Hid _:=hR1;clear hR1;by_cases hvw:v=r.wo
          case pos=>
           have hvB:(v == r.wo)=true:=(by simpa using hvw);have HCV2:Hid (false=true↔Came g (epOf E) W need n0 (told g E) r x (yv+1)):=(by show false=true↔_;rw[came_step (by omega),HWS2.out,hvB];exact ⟨fun h=>Bool.noConfusion h,fun h=>Bool.noConfusion h.2⟩);clear hvw;go_upto_region 14 with fail
           go_region_held3 (fun U=>U.cell? ⟨w.heap.size,4,none⟩=some (.int .i64 r.wo)) (go_keep) (first | (go_at_call 93;refine (HA2.out _ (q+2+200*x+2+yv) (HR1.out 1).d (by omega)).mono ?_;rintro y w3 ⟨rfl,hd5,hk5⟩;have HR5:Hid (RS w w3 rb F W need (q+2+200*x+2+yv+1) E r):=(HR1.out 1).ref hd5 hk5;have t4:w3.cell? ⟨w.heap.size,4,none⟩=some (.int .i64 r.wo):=HR5.out.box.c4;clear hd5 hk5));clear t4 d4 HRS HR1;go_wp2;go_roundw
           case rel=>exact ⟨false,yv+1,by omega,by omega,rfl,by first | rfl | go_num,HCV2.out,HR5.out⟩
           case measure=>simp[intOf];omega
          case neg=>
           have hvB:(v == r.wo)=false:=(by simpa using hvw);have HCV2:Hid (Came g (epOf E) W need n0 (told g E) r x (yv+1)):=(by show Came g (epOf E) W need n0 (told g E) r x (yv+1);rw[came_step (by omega),HWS2.out,hvB];exact ⟨HCV.out.1 rfl,rfl⟩);clear hvw;go_upto_region 14 with fail
           go_region_held3 (fun U=>U.cell? ⟨w.heap.size,4,none⟩=some (.int .i64 r.wo)) (go_keep) (first | (go_at_call 93;refine (HA2.out _ (q+2+200*x+2+yv) (HR1.out 1).d (by omega)).mono ?_;rintro y w3 ⟨rfl,hd5,hk5⟩;have HR5:Hid (RS w w3 rb F W need (q+2+200*x+2+yv+1) E r):=(HR1.out 1).ref hd5 hk5;have t4:w3.cell? ⟨w.heap.size,4,none⟩=some (.int .i64 r.wo):=HR5.out.box.c4;clear hd5 hk5));clear t4 d4 HRS HR1;go_wp2;go_roundw
           case rel=>exact ⟨true,yv+1,by omega,by omega,rfl,by first | rfl | go_num,⟨fun _=>HCV2.out,fun _=>rfl⟩,HR5.out⟩
           case measure=>simp[intOf];omega
  case neg=>
   have g2:decide ((0:Int)<r.k)=false:=(by simpa using g1);have d3:=HR2.out.box.c3;go_wp2_with fail;refine (HC.out _ q r.t e HR2.out.d (by omega)).mono ?_;rintro y V3 ⟨rfl,hd3,hk3⟩;have HR3:Hid (RS w V3 rb F W need (q+2) E r):=HR2.out.ref hd3 hk3;clear hd3 hk3 HR2 d1 d3;cases hct:cm g (epOf E) W need E.length (told g E) r.t e with
   | false=>
    have hbf:b=false:=(by rw[<- Bool.not_eq_true,HB.out];exact fun h=>by have h2:=h.2.2.1;rw[hct] at h2;exact Bool.noConfusion h2);subst hbf;go_wp2;go_ret;exact ⟨rfl,HR3.out.d.more (by omega),HR3.out.kp⟩
   | true=>
    obtain ⟨hin,htd⟩:=cm_true hct;have HBK:Hid (b=true↔RuN.Back (cm g (epOf E) W need E.length (told g E) r.f) (ws g (epOf E) W need E.length (told g E) r.wo) (max 0 (e-r.wi)) e):=⟨fun h=>(HB.out.1 h).2.2.2,fun h=>HB.out.2 ⟨HOK.out,HOF.out,hct,h⟩⟩;have HTD:Hid (told g E=true):=htd;have w2:IntKind.i64.wrap (e-r.wi)=e-r.wi:=(by simp[IntKind.wrap,IntKind.bits,IntKind.signed];omega);clear hct HB HOK HOF htd;obtain ⟨m,rfl⟩:∃ m:Nat,e=(m:Int):=⟨e.toNat,by omega⟩;obtain ⟨lo,hlo⟩:∃ lo:Nat,max 0 ((m:Int)-r.wi)=(lo:Int):=⟨(max 0 ((m:Int)-r.wi)).toNat,by omega⟩;have hlm:lo<=m:=(by omega);have HLO:Hid (max 0 ((m:Int)-r.wi)=(lo:Int)):=hlo;rw[hlo] at HBK;have d5:=HR3.out.box.c5;go_wp2;clear d5 hlo w2;have HST:Hid (RS w V3 rb F W need (q+2+200*lo) E r):=HR3.out.more (by omega);clear HR3;obtain ⟨n0,hn0⟩:∃ n0,n0=E.length:=⟨_,rfl⟩;have HN0:Hid (n0=E.length):=hn0;have hm0:m<n0:=(by omega);rw[<- hn0] at h25;rw[<- hn0] at HBK HC;clear hin hn0;go_loopw [11,12,13] (fun i _ _ V=>∃ x:Nat,lo<=x/\x<=m/\i = .int .i64 x/\RuN.Up (cm g (epOf E) W need n0 (told g E) r.f) (ws g (epOf E) W need n0 (told g E) r.wo) lo m x/\RS w V rb F W need (q+2+200*x) E r) (fun i _ _ _=>m-(intOf i).toNat)
    case atStart=>exact ⟨lo,Nat.le_refl _,hlm,rfl,RuN.up_start _ _ _ _,HST.out⟩
    case round=>
     obtain ⟨x,hx0,hx1,rfl,hup,hrs⟩:=hrel;have HUP:Hid (RuN.Up (cm g (epOf E) W need n0 (told g E) r.f) (ws g (epOf E) W need n0 (told g E) r.wo) lo m x):=hup;have HRS:Hid (RS w wr rb F W need (q+2+200*x) E r):=hrs;have d2:=hrs.box.c2;clear hup hrs HST;by_cases hxm:x<m
     case neg=>obtain rfl:x=m:=(by omega);have hbf:b=false:=(by rw[<- Bool.not_eq_true,HBK.out];exact RuN.up_end HUP.out (Int.le_refl _));subst hbf;go_wp2;go_ret;exact ⟨rfl,HRS.out.d.more (by omega),HRS.out.kp⟩
     case pos=>
      have hxI:(x:Int)<(m:Int):=(by omega);go_wp2_with fail;refine (HC.out _ (q+2+200*x) r.f x HRS.out.d (by omega)).mono ?_;rintro y V4 ⟨rfl,hd4,hk4⟩;have HR4:Hid (RS w V4 rb F W need (q+2+200*x+2+(x+1)) E r):=(HRS.out.ref hd4 hk4).more (by omega);clear hd4 hk4 HRS d2;obtain ⟨cb,hcb⟩:∃ cb,cb=cm g (epOf E) W need n0 (told g E) r.f (x:Int):=⟨_,rfl⟩;have HCB:Hid (cb=true↔Came g (epOf E) W need n0 (told g E) r x (x+1)):=(by rw[hcb];exact came_start);rw[<- hcb];clear hcb;go_wp2;go_loopw [12,13] (fun c y V=>∃ (cv:Bool) (yv:Nat),x+1<=yv/\yv<=m/\c = .bool cv/\y = .int .i64 yv/\(cv=true↔Came g (epOf E) W need n0 (told g E) r x yv)/\RS w V rb F W need (q+2+200*x+2+yv) E r) (fun _ y _=>m-(intOf y).toNat)
      case atStart=>exact ⟨cb,x+1,Nat.le_refl _,by omega,rfl,by first | rfl | go_num,HCB.out,HR4.out⟩
      case round=>
       obtain ⟨cv,yv,hy0,hy1,rfl,rfl,hcv,hrs⟩:=hrel;have HCV:Hid (cv=true↔Came g (epOf E) W need n0 (told g E) r x yv):=hcv;have HRS:Hid (RS w wr rb F W need (q+2+200*x+2+yv) E r):=hrs;have d4:=hrs.box.c4;clear hcv hrs HR4 HCB;by_cases hym:yv<m
       case neg=>
        obtain rfl:yv=m:=(by omega);cases cv with
        | true=>
         have hbt:b=true:=HBK.out.2 ⟨x,by omega,by omega,(HCV.out.1 rfl).1,(HCV.out.1 rfl).2⟩;subst hbt;go_wp2;go_ret;exact ⟨rfl,HRS.out.d.more (by omega),HRS.out.kp⟩
        | false=>
         have HUP2:Hid (RuN.Up (cm g (epOf E) W need n0 (told g E) r.f) (ws g (epOf E) W need n0 (told g E) r.wo) lo yv ((x:Int)+1)):=RuN.up_step HUP.out (fun h=>Bool.noConfusion (HCV.out.2 h));go_wp2;go_roundw
         case rel=>exact ⟨x+1,by omega,by omega,by first | rfl | go_num,by have h:=HUP2.out;exact h,HRS.out.more (by omega)⟩
         case measure=>simp[intOf];omega
       case pos=>
        have hyI:(yv:Int)<(m:Int):=(by omega);cases cv with
        | false=>
         have HUP2:Hid (RuN.Up (cm g (epOf E) W need n0 (told g E) r.f) (ws g (epOf E) W need n0 (told g E) r.wo) lo m ((x:Int)+1)):=RuN.up_step HUP.out (fun h=>Bool.noConfusion (HCV.out.2 ⟨h.1,fun z h1 h2=>h.2 z h1 (by omega)⟩));go_wp2;go_roundw
         case rel=>exact ⟨x+1,by omega,by omega,by first | rfl | go_num,by have h:=HUP2.out;exact h,HRS.out.more (by omega)⟩
         case measure=>simp[intOf];omega
        | true=>
         have HWS:Hid (ws g (epOf E) W need n0 (told g E) r.wo (yv:Int)=((r.wo != -1)&&(whr g (epOf E) W need yv == r.wo))):=(by show ws g (epOf E) W need n0 (told g E) r.wo (yv:Int) = _;rw[HTD.out];exact ws_in (by omega));by_cases ho:(0:Int)<=r.wo
         case neg=>
          have hoD:decide ((0:Int)<=r.wo)=false:=(by simpa using ho);have HCV2:Hid (true=true↔Came g (epOf E) W need n0 (told g E) r x (yv+1)):=(by show true=true↔_;rw[came_step (by omega)];refine ⟨fun _=>⟨HCV.out.1 rfl,?_⟩,fun _=>rfl⟩;rw[HWS.out,show r.wo = -1 by omega];rfl);go_upto_region 14 with fail;go_quiet (fail);have HR6:Hid (∀ dd,RS w (wr.drewN dd) rb F W need (q+2+200*x+2+(yv+1)) E r):=fun dd=>(HRS.out.below (drewN1 wr dd)).more (by omega);clear HRS d4;go_wp2;go_roundw
          case rel=>exact ⟨true,yv+1,by omega,by omega,rfl,by first | rfl | go_num,HCV2.out,HR6.out _⟩
          case measure=>simp[intOf];omega
         case pos=>
          have hoD:decide ((0:Int)<=r.wo)=true:=(by simpa using ho);obtain ⟨v,hv⟩:∃ v,v=whr g (epOf E) W need yv:=⟨_,rfl⟩;have HA2:Hid (∀ (V:World) (q':Nat),RfAt V rb F W need q' E->q'<=9000000000->Calls prog 93 #[.pointer (some ⟨rb,0,none⟩),.string g,.int .i64 (yv:Int)] V fun y w'=>y = .returned (.int .i64 v)/\RfAt w' rb F W need (q'+1) E/\Kp F V w'):=fun V q' hV hq'=>(by have h:=HA.out V q' yv hV (by have:=HN0.out;omega) hq';rw[<- hv] at h;exact h);have HWS2:Hid (ws g (epOf E) W need n0 (told g E) r.wo (yv:Int)=(v == r.wo)):=(by show ws g (epOf E) W need n0 (told g E) r.wo (yv:Int) = _;rw[HWS.out,<- hv,show (r.wo != -1)=true by simp;omega];rfl);clear hv HWS;have hR1:∀ dd,RS w (wr.drewN dd) rb F W need (q+2+200*x+2+yv) E r:=fun dd=>HRS.out.below (drewN1 wr dd);have HR1:Hid _:=hR1;clear hR1;by_cases hvw:v=r.wo
          case pos=>
           have hvB:(v == r.wo)=true:=(by simpa using hvw);have HCV2:Hid (false=true↔Came g (epOf E) W need n0 (told g E) r x (yv+1)):=(by show false=true↔_;rw[came_step (by omega),HWS2.out,hvB];exact ⟨fun h=>Bool.noConfusion h,fun h=>Bool.noConfusion h.2⟩);clear hvw;go_upto_region 14 with fail
           go_region_held3 (fun U=>U.cell? ⟨w.heap.size,4,none⟩=some (.int .i64 r.wo)) (go_keep) (first | (go_at_call 93;refine (HA2.out _ (q+2+200*x+2+yv) (HR1.out 1).d (by omega)).mono ?_;rintro y w3 ⟨rfl,hd5,hk5⟩;have HR5:Hid (RS w w3 rb F W need (q+2+200*x+2+yv+1) E r):=(HR1.out 1).ref hd5 hk5;have t4:w3.cell? ⟨w.heap.size,4,none⟩=some (.int .i64 r.wo):=HR5.out.box.c4;clear hd5 hk5));clear t4 d4 HRS HR1;go_wp2;go_roundw
           case rel=>exact ⟨false,yv+1,by omega,by omega,rfl,by first | rfl | go_num,HCV2.out,HR5.out⟩
           case measure=>simp[intOf];omega
          case neg=>
           have hvB:(v == r.wo)=false:=(by simpa using hvw);have HCV2:Hid (Came g (epOf E) W need n0 (told g E) r x (yv+1)):=(by show Came g (epOf E) W need n0 (told g E) r x (yv+1);rw[came_step (by omega),HWS2.out,hvB];exact ⟨HCV.out.1 rfl,rfl⟩);clear hvw;go_upto_region 14 with fail
           go_region_held3 (fun U=>U.cell? ⟨w.heap.size,4,none⟩=some (.int .i64 r.wo)) (go_keep) (first | (go_at_call 93;refine (HA2.out _ (q+2+200*x+2+yv) (HR1.out 1).d (by omega)).mono ?_;rintro y w3 ⟨rfl,hd5,hk5⟩;have HR5:Hid (RS w w3 rb F W need (q+2+200*x+2+yv+1) E r):=(HR1.out 1).ref hd5 hk5;have t4:w3.cell? ⟨w.heap.size,4,none⟩=some (.int .i64 r.wo):=HR5.out.box.c4;clear hd5 hk5));clear t4 d4 HRS HR1;go_wp2;go_roundw
           case rel=>exact ⟨true,yv+1,by omega,by omega,rfl,by first | rfl | go_num,⟨fun _=>HCV2.out,fun _=>rfl⟩,HR5.out⟩
           case measure=>simp[intOf];omega
end
end HlA
namespace WeW
open Go.RowKit TkW WaM WaW Go.Maps
open TkM (Sg epOf)
open TkA (RfAt)
open RuM (Rl)
structure Dp where
 rv:Value
 dv:Value
 kv:Value
 tb:Nat
def dcv (c:Cf) (s:St) (p:Dp) (i:Nat):Value:=
 if i<22 then
  (if i<6 then
   (match i with
    | 0=>.int .i64 (c.len:Int)
    | 1=>.int .i64 (c.late:Int)
    | 2=>.int .i64 (c.W:Int)
    | 3=>.int .i64 (c.need:Int)
    | 4=>.int .i64 (c.span:Int)
    | _=>.int .i64 (c.score:Int))
  else .int .i64 (c.pl ((i-6)/4) ((i-6)%4)))
 else if i<35 then
  (if i=22 then p.rv
  else if i<31 then (if (i-23)%2=0 then .string (FrmA.str (s.rest ((i-23)/2))) else .int .i64 (s.lost ((i-23)/2):Int))
  else .int .i64 (s.warm (i-31)))
 else match i-35 with
  | 0=>.int .i64 (c.len:Int)
  | 1=>.int .i64 (c.late:Int)
  | 2=>.int .i64 (s.now:Int)
  | 3=>p.dv
  | 4=>.pointer (some ⟨p.tb,0,none⟩)
  | 5=>p.kv
  | 6=>.int .i64 0
  | 7=>.int .i64 (s.bad:Int)
  | 8=>.int .i64 (s.nowh:Int)
  | 9=>.int .i64 (s.late:Int)
  | _=>.int .i64 (s.full:Int)
def dcs (c:Cf) (s:St) (p:Dp):Array Value:=((List.range 46).map (dcv c s p)).toArray
theorem dcs_size (c:Cf) (s:St) (p:Dp):(dcs c s p).size=46:=by simp[dcs]
theorem dcs_at (c:Cf) (s:St) (p:Dp) {i:Nat} (h:i<46):(dcs c s p)[i]?=some (dcv c s p i):=by unfold dcs;rw[List.getElem?_toArray,List.getElem?_map,List.getElem?_range h];rfl
theorem dcs_set {c:Cf} {s s':St} {p p':Dp} {i:Nat} {v:Value} (h:∀ j,j<46->dcv c s' p' j=if j=i then v else dcv c s p j):(dcs c s p).setIfInBounds i v=dcs c s' p':=by
 apply Array.ext_getElem?;intro j;rw[Array.getElem?_setIfInBounds,dcs_size];by_cases hj:j<46
 ·rw[dcs_at c s' p' hj,h j hj,dcs_at c s p hj];by_cases hi:i=j
  ·subst hi;simp[hj]
  ·have hi':¬ j=i:=fun e=>hi e.symm;simp[hi,hi']
 ·have e1:(dcs c s' p')[j]?=none:=Array.getElem?_eq_none (by rw[dcs_size];omega);have e2:(dcs c s p)[j]?=none:=Array.getElem?_eq_none (by rw[dcs_size];omega);rw[e1,e2];by_cases hi:i=j
  ·subst hi;simp[hj]
  ·simp[hi]
structure Da (w:World) (rb:Nat) (ow:Nat->Nat) (c:Cf) (rs:List Rl) (s:St) (k q:Nat) (L:List ByteArray) (p:Dp):Prop where
 blk:w.heap[rb]?=some (.cells (dcs c s p) 67)
 ob:ow rb=1
 lim:∀ b,ow b≠0->b<w.heap.size
 rul:w.ownsRow 0 32 6 p.rv rs.length (rcs rs)
 orl:∀ b,p.rv.ownBlock=some b->ow b=2
 dsk:w.ownsRow 0 221 5 p.dv s.all.length (EpW.rscs c.len s.all)
 odk:∀ b,p.dv.ownBlock=some b->ow b=3
 knw:w.ownsRow 0 9 1 p.kv L.length (L.map Value.string)
 okn:∀ b,p.kv.ownBlock=some b->ow b=4
 trk:∃ F,RfAt w p.tb F c.W c.need q (Ep c s k)/\∀ b,F b->ow b=5
structure DaK (w:World) (rb:Nat) (ow:Nat->Nat) (c:Cf) (rs:List Rl) (s:St) (k q:Nat):Prop where
 out:∃ p,Da w rb ow c rs s k q (kn s.all) p
section
variable {w w' : World} {rb : Nat} {ow : Nat → Nat} {c : Cf} {rs : List Rl} {s s' : St} {k q : Nat} {L : List ByteArray} {p p' : Dp}
theorem Da.lt (h:Da w rb ow c rs s k q L p):rb<w.heap.size:=h.lim _ (by rw[h.ob];decide)
theorem Da.cell (h:Da w rb ow c rs s k q L p) {i:Nat} (hi:i<46):w.cell? ⟨rb,i,none⟩=some (dcv c s p i):=by simp only[World.cell?,h.blk];rw[dcs_at c s p hi];rfl
theorem Da.fz (h:Da w rb ow c rs s k q L p) (i:Nat):w.frozen? ⟨rb,i,none⟩=false:=by simp[World.frozen?,h.blk]
theorem Da.move (h:Da w rb ow c rs s k q L p) (hs:w.heap.size<=w'.heap.size) (hk:∀ b,b<w.heap.size->ow b≠0->w'.heap[b]?=w.heap[b]?):Da w' rb ow c rs s k q L p where
 blk:=by rw[hk rb h.lt (by rw[h.ob];decide)];exact h.blk
 ob:=h.ob
 lim:=fun b hb=>Nat.lt_of_lt_of_le (h.lim b hb) hs
 rul:=own_keep h.rul (fun b hb=>hk b (own_lt h.rul hb) (by rw[h.orl b hb];decide))
 orl:=h.orl
 dsk:=own_keep h.dsk (fun b hb=>hk b (own_lt h.dsk hb) (by rw[h.odk b hb];decide))
 odk:=h.odk
 knw:=own_keep h.knw (fun b hb=>hk b (own_lt h.knw hb) (by rw[h.okn b hb];decide))
 okn:=h.okn
 trk:=by obtain ⟨F,h1,h2⟩:=h.trk;exact ⟨F,h1.move hs (fun b hb hF=>hk b hb (by rw[h2 b hF];decide)),h2⟩
theorem DaK.move (h:DaK w rb ow c rs s k q) (hs:w.heap.size<=w'.heap.size) (hk:∀ b,b<w.heap.size->ow b≠0->w'.heap[b]?=w.heap[b]?):DaK w' rb ow c rs s k q:=by obtain ⟨p,h⟩:=h.out;exact ⟨p,h.move hs hk⟩
theorem DaK.below (h:DaK w rb ow c rs s k q) (hb:Below w.heap.size w w'):DaK w' rb ow c rs s k q:=h.move hb.size (fun b h1 _=>hb.block b h1)
theorem Da.below (h:Da w rb ow c rs s k q L p) (hb:Below w.heap.size w w'):Da w' rb ow c rs s k q L p:=h.move hb.size (fun b h1 _=>hb.block b h1)
theorem Da.own (h:Da w rb ow c rs s k q L p) (hs:w.heap.size<=w'.heap.size) (hk:∀ b,b<w.heap.size->ow b≠0->b≠rb->w'.heap[b]?=w.heap[b]?) (hblk:w'.heap[rb]?=some (.cells (dcs c s' p) 67)) (hall:s'.all=s.all) (hk':Ep c s' k=Ep c s k):Da w' rb ow c rs s' k q L p where
 blk:=hblk
 ob:=h.ob
 lim:=fun b hb=>Nat.lt_of_lt_of_le (h.lim b hb) hs
 rul:=own_keep h.rul (fun b hb=>hk b (own_lt h.rul hb) (by rw[h.orl b hb];decide) (fun e=>by have:=h.orl b hb;rw[e,h.ob] at this;cases this))
 orl:=h.orl
 dsk:=by rw[hall];exact own_keep h.dsk (fun b hb=>hk b (own_lt h.dsk hb) (by rw[h.odk b hb];decide) (fun e=>by have:=h.odk b hb;rw[e,h.ob] at this;cases this))
 odk:=h.odk
 knw:=own_keep h.knw (fun b hb=>hk b (own_lt h.knw hb) (by rw[h.okn b hb];decide) (fun e=>by have:=h.okn b hb;rw[e,h.ob] at this;cases this))
 okn:=h.okn
 trk:=by obtain ⟨F,h1,h2⟩:=h.trk;rw[hk'];exact ⟨F,h1.move hs (fun b hb hF=>hk b hb (by rw[h2 b hF];decide) (fun e=>by have:=h2 b hF;rw[e,h.ob] at this;cases this)),h2⟩
theorem dcv_lo {j:Nat} (h:j<35) (h1:s'.rest=s.rest) (h2:s'.lost=s.lost) (h3:s'.warm=s.warm) (h4:p'.rv=p.rv):dcv c s' p' j=dcv c s p j:=by
 unfold dcv;by_cases h22:j<22
 ·rw[if_pos h22,if_pos h22]
 ·rw[if_neg h22,if_neg h22,if_pos h,if_pos h,h1,h2,h3,h4]
theorem hi_cases {j:Nat} (h:¬ j<35) (hj:j<46):j=35\/j=36\/j=37\/j=38\/j=39\/j=40\/j=41\/j=42\/j=43\/j=44\/j=45:=by omega
theorem dob_dcs (c:Cf) (s:St) (p:Dp) (now:Nat) (v:Value):EqA.dob (dcs c s p) c.len c.late now v = .cells (dcs c { s with now:=now } { p with dv:=v }) 67:=by unfold EqA.dob;congr 1
theorem Da.desk {all':List Sg} {now':Nat} (h:Da w rb ow c rs s k q L p) (hr:EqA.RefAt w' rb (dcs c s p) (EpA.more (fun b=>b=rb\/ow b=3) w w') c.len c.late now' all') (hkp:Kp (fun b=>b=rb\/ow b=3) w w')
  (hE:Ep c { s with all:=all',now:=now' } k=Ep c s k):∃ v,Da w' rb (WaB.own3 ow w w' 3) c rs { s with all:=all',now:=now' } k q L { p with dv:=v }:=by
 obtain ⟨v,d⟩:=hr.out;have hsz:=hkp.size
 have hmv:∀ b n,b<w.heap.size->ow b=n->n≠0->n≠1->n≠3->w'.heap[b]?=w.heap[b]?:=fun b n hlt hb h0 h1 h3=>hkp.block b hlt (fun hh=>by
  rcases hh with hh | hh
  ·rw[hh,h.ob] at hb;exact h1 hb.symm
  ·rw[hb] at hh;exact h3 hh)
 have hold:∀ b n,ow b=n->n≠0->WaB.own3 ow w w' 3 b=n:=fun b n hb h0=>by rw[WaB.own3_old (h.lim b (by rw[hb];exact h0))];exact hb
 refine ⟨v,?_,hold _ _ h.ob (by decide),fun b hb=>WaB.own3_lim h.lim hsz hb,?_,?_,?_,?_,?_,?_,?_⟩
 ·have:=d.cells;rw[dob_dcs] at this;rw[this];rfl
 ·exact own_keep h.rul (fun b hb=>hmv b 2 (own_lt h.rul hb) (h.orl b hb) (by decide) (by decide) (by decide))
 ·exact fun b hb=>hold b 2 (h.orl b hb) (by decide)
 ·exact d.own
 ·intro b hb;have hne:=d.ne hb;rcases d.fr b hb with h1 | h1
  ·rcases h1 with h1 | h1
   ·exact absurd h1 hne
   ·exact hold b 3 h1 (by decide)
  ·unfold WaB.own3;rw[if_pos h1]
 ·exact own_keep h.knw (fun b hb=>hmv b 4 (own_lt h.knw hb) (h.okn b hb) (by decide) (by decide) (by decide))
 ·exact fun b hb=>hold b 4 (h.okn b hb) (by decide)
 ·obtain ⟨F,h1,h2⟩:=h.trk;rw[hE];exact ⟨F,h1.move hsz (fun b hb hF=>hmv b 5 hb (h2 b hF) (by decide) (by decide) (by decide)),fun b hF=>hold b 5 (h2 b hF) (by decide)⟩
theorem Da.ref (h:Da w rb ow c rs s k q L p):EqA.RefIn w rb (dcs c s p) p.dv (fun b=>b=rb\/ow b=3) c.len c.late s.now s.all where
 cells:=by rw[h.blk,dob_dcs]
 xs:=dcs_size c s p
 own:=h.dsk
 fd:=Or.inl rfl
 fr:=fun b hb=>Or.inr (h.odk b hb)
end
end WeW
end Go.Proofs.YtmolafjalaeoaaaGreatDoor
