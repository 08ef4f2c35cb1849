/-
  WeF WdM
-/
import Derived.Test.YtmolafjalaeoaaaGreatDoorQbv
import Derived.Test.YtmolafjalaeoaaaGreatDoorQbw
set_option maxRecDepth 100000
set_option maxHeartbeats 8000000
namespace Go.Proofs.YtmolafjalaeoaaaGreatDoor
open Go.Proofs.Tryz
namespace WeA
open Go.RowKit TkW WaM WaW WeW Go.Maps
open Tk0
open TkM (Sg epOf told whr)
open TkA (RfAt wv)
open RuM (Rl)
open WaB (PaV IsPar)
section
variable {w w' w0 : World} {rb : Nat} {ow : Nat → Nat} {c : Cf} {rs : List Rl} {s s' : St} {k k' q q' : Nat} {L : List ByteArray} {p : Dp}
theorem told_few (hf:Sf c s) (k:Nat):∀ L:List ByteArray,L.Pairwise (fun a b=>a.toList<b.toList)->(∀ g,g ∈ L->told g (Ep c s k)=true)->L.length<=12:=fun _ hL hm=>
 Nat.le_trans ((srt_nodup hL).length_le_of_subset (fun g hg=>tags_sub (k:=k) (tagsL_mem.2 (hm g hg)))) hf.few
theorem Da.asked {F:Nat->Prop} (h:Da w rb ow c rs s k q L p) (hF:∀ b,F b->ow b=5) (hr:RfAt w' p.tb F c.W c.need q' (Ep c s k)) (hkp:Kp F w w'):Da w' rb ow c rs s k q' L p/\Wp w w' ow ow:=by
 have hsz:=hkp.size;have hmv:∀ b n,ow b=n->n≠0->n≠5->w'.heap[b]?=w.heap[b]?:=fun b n hb h0 h5=>hkp.block b (h.lim b (by rw[hb];exact h0)) (fun hh=>h5 (hb.symm.trans (hF b hh)));refine ⟨⟨?_,h.ob,fun b hb=>Nat.lt_of_lt_of_le (h.lim b hb) hsz,?_,h.orl,?_,h.odk,?_,h.okn,⟨F,hr,hF⟩⟩,⟨hkp.mono (fun b _ hb=>by rw[hF b hb];decide),fun _ h=>Or.inl h⟩⟩
 ·rw[hmv rb 1 h.ob (by decide) (by decide)];exact h.blk
 ·exact own_keep h.rul (fun b hb=>hmv b 2 (h.orl b hb) (by decide) (by decide))
 ·exact own_keep h.dsk (fun b hb=>hmv b 3 (h.odk b hb) (by decide) (by decide))
 ·exact own_keep h.knw (fun b hb=>hmv b 4 (h.okn b hb) (by decide) (by decide))
structure As (w w':World) (rb tb:Nat) (ow:Nat->Nat) (c:Cf) (rs:List Rl) (s:St) (k q:Nat) (L:List ByteArray) (p:Dp):Prop where
 d:Da w' rb ow c rs s k q L p
 wp:Wp w w' ow ow
 tb:p.tb=tb
theorem dwhere_any (g:ByteArray) (e:Int) (h:Da w rb ow c rs s k q L p) (hf:Sf c s) (hg:g.size<=100000) (hq:q<=10000000000) :
  Calls prog 54 #[.pointer (some ⟨p.tb,0,none⟩),.string g,.int .i64 e] w fun x w'=>x = .returned (.tuple #[.int .i64 (wv k (told g (Ep c s k)) e (whr g (epOf (Ep c s k)) c.W c.need e.toNat)).1,.int .i64 ((wv k (told g (Ep c s k)) e (whr g (epOf (Ep c s k)) c.W c.need e.toNat)).2:Int)])/\As w w' rb p.tb ow c rs s k (q+1) L p:=by
 obtain ⟨F,h1,h2⟩:=h.trk;refine (TkA.rwhere_any g e h1 hf.cok.w1 hg hq).mono ?_;rintro x w' ⟨rfl,h3,h4⟩;rw[Ep_len];obtain ⟨h5,h6⟩:=Da.asked h h2 h3 h4;exact ⟨rfl,h5,h6,rfl⟩
theorem dparent_any (g:ByteArray) (e:Int) {X:ByteArray} (h:Da w rb ow c rs s k q L p) (hf:Sf c s) (hk:k<=100) (hg:g.size<=100000) (hX:PaV c s k g e X) (hq:q<=6000000000) :
  Calls prog 56 #[.pointer (some ⟨rb,0,none⟩),.string g,.int .i64 e] w fun x w'=>x = .returned (.tuple #[.string X,.int .i64 ((wv k (told g (Ep c s k)) e (whr g (epOf (Ep c s k)) c.W c.need e.toNat)).2:Int)])/\As w w' rb p.tb ow c rs s k (q+3000000) L p:=by
 have HW:Hid (Calls prog 54 #[.pointer (some ⟨p.tb,0,none⟩),.string g,.int .i64 e] w fun x w'=>x = .returned (.tuple #[.int .i64 (wv k (told g (Ep c s k)) e (whr g (epOf (Ep c s k)) c.W c.need e.toNat)).1,.int .i64 ((wv k (told g (Ep c s k)) e (whr g (epOf (Ep c s k)) c.W c.need e.toNat)).2:Int)])/\As w w' rb p.tb ow c rs s k (q+1) L p):=dwhere_any g e h hf hg (by omega);have c39:w.cell? ⟨rb,39,none⟩=some (.pointer (some ⟨p.tb,0,none⟩)):=h.cell (by omega);have HF:Hid (Sf c s):=hf;have HMORE:Hid (∀ w',As w w' rb p.tb ow c rs s k (q+1) L p->As w w' rb p.tb ow c rs s k (q+3000000) L p):=fun w' ha=>by obtain ⟨F,h1,h2⟩:=ha.d.trk;exact ⟨⟨ha.d.blk,ha.d.ob,ha.d.lim,ha.d.rul,ha.d.orl,ha.d.dsk,ha.d.odk,ha.d.knw,ha.d.okn,⟨F,h1.more (by omega),h2⟩⟩,ha.wp,rfl⟩
 by_cases h0:(wv k (told g (Ep c s k)) e (whr g (epOf (Ep c s k)) c.W c.need e.toNat)).2=0
 case neg=>
  unfold PaV at hX;rw[if_neg h0] at hX;subst hX;generalize wv k (told g (Ep c s k)) e (whr g (epOf (Ep c s k)) c.W c.need e.toNat)=v at *;obtain ⟨v1,v2⟩:=v;simp only at h0 HW ⊢;have i1:(0:Int)<(v2:Int):=by omega
  have i2:decide ((0:Int)<(v2:Int))=true:=by simpa using i1
  clear h0 h hf;go_enter func56,ntmps56;go_wp2_with fail;refine Calls.mono HW.out ?_;rintro x w1 ⟨rfl,ha⟩;have HA:Hid (As w w1 rb p.tb ow c rs s k (q+1) L p):=ha;clear ha c39;go_wp2;go_ret2;exact ⟨rfl,HMORE.out _ HA.out⟩
 case pos=>
  have he : 0<=e/\e<(k:Int):=by
   unfold wv at h0;split at h0
   ·assumption
   ·simp at h0
  unfold PaV at hX;rw[if_pos h0] at hX;obtain ⟨m,rfl⟩:∃ m:Nat,e=(m:Int):=⟨e.toNat,by omega⟩;rw[Int.toNat_natCast] at hX;have hmk:m<k:=by omega
  rw[h0] at HW ⊢;generalize (wv k (told g (Ep c s k)) (m:Int) (whr g (epOf (Ep c s k)) c.W c.need (m:Int).toNat)).1=v1 at *;obtain ⟨n1,hn1⟩:∃ n1,n1=m+1:=⟨_,rfl⟩;have HPR:Hid (∀ V dd,As w V rb p.tb ow c rs s k (q+1) L p->Calls prog 95 #[.pointer (some ⟨p.tb,0,none⟩),.string g,.int .i64 (IntKind.i64.wrap ((m:Int)+1)),.int .i64 (c.span:Int),.int .i64 (c.score:Int)] (V.drewN dd) fun x w'=>(∃ gb cap,x = .returned (.slice (some ⟨gb,0,none⟩) n1 cap)/\w'.cell? ⟨gb,m,none⟩=some (.string X))/\As w w' rb p.tb ow c rs s k (q+3000000) L p):=fun V dd ha=>by have hbd:Below V.heap.size V (V.drewN dd):=below_drewN (Below.refl _ V) dd;have hd:=ha.d.below hbd;obtain ⟨F,h1,h2⟩:=hd.trk;have hpar:=InA.rparents_any g (m+1) c.span c.score h1 (by rw[Ep_len];omega) hf.cok.w1 hf.cok.n0 hf.cok.s0 hf.cok.s1 hf.cok.c0 (by have:=hf.cok.c1;have:=hf.cok.s1;omega) hg (fun L h3 h4=>Nat.le_trans (told_few hf k L h3 h4) (by decide)) (by omega);have e1:(((m+1:Nat)):Int)=(m:Int)+1:=(by omega);have hwr:IntKind.i64.wrap ((m:Int)+1)=(m:Int)+1:=(by simp[IntKind.wrap,IntKind.bits,IntKind.signed];omega);rw[e1,<- hwr] at hpar;refine hpar.mono ?_;rintro x w' hps;obtain ⟨pp,cap,fs,hfl,rfl,hall,hts⟩:=hps.out;have hm1:m<fs.length:=(by omega);obtain ⟨gb,rfl,hc,_,_⟩:=hts.at_ m _ (List.getElem?_eq_getElem hm1);obtain ⟨f,hf1,rfl⟩:=hX;have hu:=InM.Prs.unique (k:=m+1) (f:=f) (f':=InA.lst fs) (fun e g he=>hf1 e g (by omega)) g (fun e he=>hall e (by omega)) m (by omega);have hxx:fs[m]=f m g:=(by rw[hu];unfold InA.lst;simp[hm1]);rw[hxx] at hc;obtain ⟨h5,h6⟩:=Da.asked hd h2 hps.r hps.k;obtain ⟨F',h7,h8⟩:=h5.trk;refine ⟨⟨gb,cap,by rw[hn1],hc⟩,⟨⟨h5.blk,h5.ob,h5.lim,h5.rul,h5.orl,h5.dsk,h5.odk,h5.knw,h5.okn,⟨F',h7.more (by omega),h8⟩⟩,(ha.wp.trans (Wp.below hbd ow)).trans h6,rfl⟩⟩
  have HCS:Hid (∀ V q',As w V rb p.tb ow c rs s k q' L p->V.cell? ⟨rb,39,none⟩=some (.pointer (some ⟨p.tb,0,none⟩))/\V.cell? ⟨rb,4,none⟩=some (.int .i64 (c.span:Int))/\V.cell? ⟨rb,5,none⟩=some (.int .i64 (c.score:Int))):=fun V q' ha=>⟨ha.d.cell (by omega),ha.d.cell (by omega),ha.d.cell (by omega)⟩;obtain ⟨q1,hq1⟩:∃ q1,q1=q+1:=⟨_,rfl⟩;obtain ⟨q2,hq2⟩:∃ q2,q2=q+3000000:=⟨_,rfl⟩;rw[<- hq1] at HW HPR;rw[<- hq2] at HPR ⊢;obtain ⟨tb,htb⟩:∃ tb,tb=p.tb:=⟨_,rfl⟩;rw[<- htb] at HW HPR HCS c39 ⊢;have hmI:(m:Int)<(n1:Int):=by omega
  have hm9:(m:Int)<=100:=by omega
  clear h0 h hf hX he hq1 hq2 HMORE hq htb hn1 hmk hk;generalize c.span=sp at *;generalize c.score=sc at *;go_enter func56,ntmps56;go_wp2_with fail;refine Calls.mono HW.out ?_;rintro x w1 ⟨rfl,ha⟩;have HA:Hid (As w w1 rb tb ow c rs s k q1 L p):=ha;obtain ⟨k0,k1,k2⟩:=HCS.out _ _ ha;clear ha c39;go_upto_region 4 with fail
  have hS0:w1.drew.cell? ⟨rb,39,none⟩=some (.pointer (some ⟨tb,0,none⟩))/\w1.drew.cell? ⟨rb,4,none⟩=some (.int .i64 (sp:Int))/\w1.drew.cell? ⟨rb,5,none⟩=some (.int .i64 (sc:Int)):=⟨k0,k1,k2⟩;refine wp_region_held_drew (S:=fun V=>V.cell? ⟨rb,39,none⟩=some (.pointer (some ⟨tb,0,none⟩))/\V.cell? ⟨rb,4,none⟩=some (.int .i64 (sp:Int))/\V.cell? ⟨rb,5,none⟩=some (.int .i64 (sc:Int))) (by kernel_rfl) hS0 (fun _=>?_);refine tk 0 23 (.pointer (some ⟨rb,0,none⟩)) rfl rfl (by kernel_rfl) (fun _ _ _ h=>h) (Or.inl ⟨by rfl,fun wx _=>by go_simp⟩) hS0 ?_;simp only[Act.put,sA,sB,sC];refine tk 1 24 (.pointer (some ⟨rb,0,none⟩)) rfl rfl (by kernel_rfl) (fun _ _ _ h=>h) (Or.inl ⟨by rfl,fun wx _=>by go_simp⟩) hS0 ?_;simp only[Act.put,sA,sB,sC];refine tk 2 25 (.pointer (some ⟨rb,39,none⟩)) rfl rfl (by kernel_rfl) (fun _ _ _ h=>h) (Or.inl ⟨by rfl,fun wx _=>by go_simp⟩) hS0 ?_;simp only[Act.put,sA,sB,sC];refine tk 3 26 (.pointer (some ⟨tb,0,none⟩)) rfl rfl (by kernel_rfl) (fun _ _ _ h=>h) (Or.inl ⟨by rfl,fun wx hS=>by (try dsimp only at hS);obtain ⟨r0,r1,r2⟩:=hS;go_simp⟩) hS0 ?_;simp only[Act.put,sA,sB,sC];refine tk 4 27 (.string g) rfl rfl (by kernel_rfl) (fun _ _ _ h=>h) (Or.inl ⟨by rfl,fun wx _=>by go_simp⟩) hS0 ?_;simp only[Act.put,sA,sB,sC];refine tk 5 28 (.int .i64 (m:Int)) rfl rfl (by kernel_rfl) (fun _ _ _ h=>h) (Or.inl ⟨by rfl,fun wx _=>by go_simp⟩) hS0 ?_;simp only[Act.put,sA,sB,sC];refine tk 6 29 (.int .i64 (IntKind.i64.wrap ((m:Int)+1))) rfl rfl (by kernel_rfl) (fun _ _ _ h=>h) (Or.inl ⟨by rfl,fun wx _=>by go_simp⟩) hS0 ?_;simp only[Act.put,sA,sB,sC];refine tk 7 30 (.pointer (some ⟨rb,0,none⟩)) rfl rfl (by kernel_rfl) (fun _ _ _ h=>h) (Or.inl ⟨by rfl,fun wx _=>by go_simp⟩) hS0 ?_;simp only[Act.put,sA,sB,sC];refine tk 8 31 (.pointer (some ⟨rb,0,none⟩)) rfl rfl (by kernel_rfl) (fun _ _ _ h=>h) (Or.inl ⟨by rfl,fun wx _=>by go_simp⟩) hS0 ?_;simp only[Act.put,sA,sB,sC];refine tk 9 32 (.pointer (some ⟨rb,0,none⟩)) rfl rfl (by kernel_rfl) (fun _ _ _ h=>h) (Or.inl ⟨by rfl,fun wx _=>by go_simp⟩) hS0 ?_;simp only[Act.put,sA,sB,sC];refine tk 10 33 (.pointer (some ⟨rb,4,none⟩)) rfl rfl (by kernel_rfl) (fun _ _ _ h=>h) (Or.inl ⟨by rfl,fun wx _=>by go_simp⟩) hS0 ?_;simp only[Act.put,sA,sB,sC];refine tk 11 34 (.int .i64 (sp:Int)) rfl rfl (by kernel_rfl) (fun _ _ _ h=>h) (Or.inl ⟨by rfl,fun wx hS=>by (try dsimp only at hS);obtain ⟨r0,r1,r2⟩:=hS;go_simp⟩) hS0 ?_;simp only[Act.put,sA,sB,sC];refine tk 12 35 (.pointer (some ⟨rb,0,none⟩)) rfl rfl (by kernel_rfl) (fun _ _ _ h=>h) (Or.inl ⟨by rfl,fun wx _=>by go_simp⟩) hS0 ?_;simp only[Act.put,sA,sB,sC];refine tk 13 36 (.pointer (some ⟨rb,0,none⟩)) rfl rfl (by kernel_rfl) (fun _ _ _ h=>h) (Or.inl ⟨by rfl,fun wx _=>by go_simp⟩) hS0 ?_;simp only[Act.put,sA,sB,sC];refine tk 14 37 (.pointer (some ⟨rb,0,none⟩)) rfl rfl (by kernel_rfl) (fun _ _ _ h=>h) (Or.inl ⟨by rfl,fun wx _=>by go_simp⟩) hS0 ?_;simp only[Act.put,sA,sB,sC];refine tk 15 38 (.pointer (some ⟨rb,5,none⟩)) rfl rfl (by kernel_rfl) (fun _ _ _ h=>h) (Or.inl ⟨by rfl,fun wx _=>by go_simp⟩) hS0 ?_;simp only[Act.put,sA,sB,sC];refine tk 16 39 (.int .i64 (sc:Int)) rfl rfl (by kernel_rfl) (fun _ _ _ h=>h) (Or.inl ⟨by rfl,fun wx hS=>by (try dsimp only at hS);obtain ⟨r0,r1,r2⟩:=hS;go_simp⟩) hS0 ?_;simp only[Act.put,sA,sB,sC];refine tk 18 41 (.int .i64 (m:Int)) rfl rfl (by kernel_rfl) (fun _ _ _ h=>h) (Or.inl ⟨by rfl,fun wx _=>by go_simp⟩) hS0 ?_;simp only[Act.put,sA,sB,sC];refine wpAnyH_ready (rs:=[17]) (by kernel_rfl) (by simp) ?_;refine AllReadyH.cons rfl (fun K hK=>?_) AllReadyH.nil;go_simp;refine (HPR.out _ 1 HA.out).mono ?_;rintro e w4 ⟨⟨gb,cap,rfl,hgc⟩,ha4⟩;have hS4:=HCS.out _ _ ha4;have HA4:Hid (As w w4 rb tb ow c rs s k q2 L p):=ha4;clear ha4;go_wp2_with fail;refine hK.out _ _ hS4 (fun _=>?_);clear hK K;refine tk 19 42 (.pointer (some ⟨gb,m,none⟩)) rfl rfl (by kernel_rfl) (fun _ _ _ h=>h) (Or.inl ⟨by rfl,fun wx _=>by go_simp⟩) hS4 ?_;simp only[Act.put,sA,sB,sC];refine wpAnyH_ready (rs:=[20]) (by kernel_rfl) (by simp) ?_;refine AllReadyH.cons rfl (fun K hK=>?_) AllReadyH.nil;go_simp;refine hK.out _ _ hS4 (fun _=>?_);clear hK K;refine tk 21 6 (.string X) rfl rfl (by kernel_rfl) (fun _ _ _ h=>h) (Or.inl ⟨by rfl,fun wx _=>by go_simp⟩) hS4 ?_;simp only[Act.put,sA,sB,sC];refine tk 22 7 (.int .i64 0) rfl rfl (by kernel_rfl) (fun _ _ _ h=>h) (Or.inl ⟨by rfl,fun wx _=>by go_simp⟩) hS4 ?_;simp only[Act.put,sA,sB,sC];refine wpAnyH_done (by kernel_rfl) ?_ _;clear hgc hS0 hS4;go_wp2;go_ret2;exact ⟨rfl,HA4.out⟩
end
end WeA
namespace WdM
open WaM
open TkM (Sg epOf told whr seenG)
open TkA (wv isA comesB)
open RuM (Rl)
open HlA (cm ws wasB)
theorem epOf_le {c:Cf} {s:St} {K e j:Nat} (he:e<K) (hj:j<=e):epOf (Ep c s (e+1)) j=epOf (Ep c s K) j:=by rw[epOf_Ep,epOf_Ep,if_pos (by omega),if_pos (by omega)]
theorem whr_le {c:Cf} {s:St} {K e j:Nat} (g:ByteArray) (W need:Nat) (he:e<K) (hj:j<=e):whr g (epOf (Ep c s (e+1))) W need j=whr g (epOf (Ep c s K)) W need j:=
 TkM.whr_congr (fun p k hk=>by rw[epOf_le he (by omega)]) (fun p k hk=>by rw[epOf_le he (by omega)])
theorem wv_le {c:Cf} {s:St} {K e:Nat} (g:ByteArray) (W need:Nat) (he:e<K) {x:Int} (hx:x<=(e:Int)) :
  wv (e+1) true x (whr g (epOf (Ep c s (e+1))) W need x.toNat)=wv K true x (whr g (epOf (Ep c s K)) W need x.toNat):=by
 unfold wv;by_cases h0 : 0<=x
 ·rw[if_pos (show 0<=x/\x<((e+1:Nat):Int) by omega),if_pos (show 0<=x/\x<(K:Int) by omega),whr_le g W need he (by omega)]
 ·rw[if_neg (fun h=>h0 h.1),if_neg (fun h=>h0 h.1)]
theorem isA_le {c:Cf} {s:St} {K e:Nat} (g:ByteArray) (W need:Nat) (he:e<K) {p x:Int} (hx:x<=(e:Int)) :
  isA (e+1) true p x (whr g (epOf (Ep c s (e+1))) W need x.toNat)=isA K true p x (whr g (epOf (Ep c s K)) W need x.toNat):=by
 unfold isA;rw[wv_le g W need he hx]
theorem cm_le {c:Cf} {s:St} {K e:Nat} (g:ByteArray) (W need:Nat) (he:e<K) {p x:Int} (hx:x<=(e:Int)) :
  cm g (epOf (Ep c s (e+1))) W need (e+1) true p x=cm g (epOf (Ep c s K)) W need K true p x:=by
 unfold cm comesB;simp only;rw[isA_le g W need he hx,isA_le g W need he (show x-1<=(e:Int) by omega)]
theorem ws_le {c:Cf} {s:St} {K e:Nat} (g:ByteArray) (W need:Nat) (he:e<K) {p x:Int} (hx:x<=(e:Int)) :
  ws g (epOf (Ep c s (e+1))) W need (e+1) true p x=ws g (epOf (Ep c s K)) W need K true p x:=by
 unfold ws wasB;rw[wv_le g W need he hx]
theorem told_le {c:Cf} {s:St} {K e:Nat} {g:ByteArray} (he:e<K) (h:told g (Ep c s (e+1))=true):told g (Ep c s K)=true:=by
 rw[TkM.told_iff] at h ⊢;obtain ⟨j,hj⟩:=h;by_cases hje:j<=e
 ·exact ⟨j,by rw[<- epOf_le he hje];exact hj⟩
 ·rw[epOf_Ep,if_neg (by omega)] at hj;cases hj
theorem untold {c:Cf} {s:St} {K e:Nat} {g:ByteArray} (hn : 1<=c.need) (he:e<K) (h:told g (Ep c s (e+1))=false):whr g (epOf (Ep c s K)) c.W c.need e = -1:=by
 rw[<- whr_le g c.W c.need he (Nat.le_refl _)];refine InM.whr_unseen hn (fun j=>?_);cases hj:seenG g (epOf (Ep c s (e+1)) j) with
 | false=>rfl
 | true=>
  have:=TkM.told_iff.2 ⟨j,hj⟩;rw[h] at this;cases this
theorem holds_later {c:Cf} {s:St} {K e:Nat} {g:ByteArray} {r:Rl} (hn : 1<=c.need) (he:e<K) :
  (told g (Ep c s (e+1))=true/\HlA.HoldsP g (epOf (Ep c s (e+1))) c.W c.need (e+1) true r (e:Int))↔HlA.HoldsP g (epOf (Ep c s K)) c.W c.need K (told g (Ep c s K)) r (e:Int):=by
 cases ht:told g (Ep c s (e+1)) with
 | true=>
  rw[told_le he ht];unfold HlA.HoldsP RuN.Back;rw[cm_le g c.W c.need he (Int.le_refl _)];constructor
  ·rintro ⟨_,h1,h2,h3,y,h4,h5,h6,h7⟩;refine ⟨h1,h2,h3,y,h4,h5,by rw[<- cm_le g c.W c.need he (by omega)];exact h6,fun x h8 h9=>by rw[<- ws_le g c.W c.need he (by omega)];exact h7 x h8 h9⟩
  ·rintro ⟨h1,h2,h3,y,h4,h5,h6,h7⟩;refine ⟨rfl,h1,h2,h3,y,h4,h5,by rw[cm_le g c.W c.need he (by omega)];exact h6,fun x h8 h9=>by rw[ws_le g c.W c.need he (by omega)];exact h7 x h8 h9⟩
 | false=>
  constructor
  ·rintro ⟨h,_⟩;cases h
  ·rintro ⟨_,_,h3,_⟩;exfalso;have hu:=untold hn he ht;unfold cm comesB at h3;rw[Bool.and_eq_true] at h3;have h4:isA K (told g (Ep c s K)) r.t (e:Int) (whr g (epOf (Ep c s K)) c.W c.need ((e:Int).toNat))=true:=h3.1;rw[Int.toNat_natCast,hu] at h4;unfold isA wv at h4;rw[if_pos ⟨by omega,by omega⟩] at h4;cases hk:told g (Ep c s K) with
   | true=>
    rw[hk] at h4;simp at h4;omega
   | false=>
    rw[hk] at h4;simp at h4
def ps (T:List ByteArray) (i k e:Nat) (a:Al):Bool:=hasT (T.take i) a.g||(decide (T[i]?=some a.g)&&(decide (a.rule<k)||(decide (a.rule=k)&&decide (a.ep<e))))
end WdM
end Go.Proofs.YtmolafjalaeoaaaGreatDoor
