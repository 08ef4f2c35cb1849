/-
  WeF WdM WeG WeJ WeK RefG
-/
import Derived.Test.YtmolafjalaeoaaaGreatDoorQbv
import Derived.Test.YtmolafjalaeoaaaGreatDoorQbw
import Derived.Laws.AppendOwnNone
set_option maxRecDepth 100000
set_option maxHeartbeats 8000000
namespace Go.Proofs.YtmolafjalaeoaaaGreatDoor
open Go.Proofs.Tryz
namespace WeA
open Go.RowKit TkW WaM WaW WeW Go.Maps
open Tk0
open TkM (Sg epOf told whr)
open TkA (RfAt wv)
open RuM (Rl)
open WaB (PaV IsPar)
section
variable {w w' w0 : World} {rb : Nat} {ow : Nat → Nat} {c : Cf} {rs : List Rl} {s s' : St} {k k' q q' : Nat} {L : List ByteArray} {p : Dp}
theorem told_few (hf:Sf c s) (k:Nat):∀ L:List ByteArray,L.Pairwise (fun a b=>a.toList<b.toList)->(∀ g,g ∈ L->told g (Ep c s k)=true)->L.length<=12:=fun _ hL hm=>
 Nat.le_trans ((srt_nodup hL).length_le_of_subset (fun g hg=>tags_sub (k:=k) (tagsL_mem.2 (hm g hg)))) hf.few
theorem Da.asked {F:Nat->Prop} (h:Da w rb ow c rs s k q L p) (hF:∀ b,F b->ow b=5) (hr:RfAt w' p.tb F c.W c.need q' (Ep c s k)) (hkp:Kp F w w'):Da w' rb ow c rs s k q' L p/\Wp w w' ow ow:=by
 have hsz:=hkp.size;have hmv:∀ b n,ow b=n->n≠0->n≠5->w'.heap[b]?=w.heap[b]?:=fun b n hb h0 h5=>hkp.block b (h.lim b (by rw[hb];exact h0)) (fun hh=>h5 (hb.symm.trans (hF b hh)));refine ⟨⟨?_,h.ob,fun b hb=>Nat.lt_of_lt_of_le (h.lim b hb) hsz,?_,h.orl,?_,h.odk,?_,h.okn,⟨F,hr,hF⟩⟩,⟨hkp.mono (fun b _ hb=>by rw[hF b hb];decide),fun _ h=>Or.inl h⟩⟩
 ·rw[hmv rb 1 h.ob (by decide) (by decide)];exact h.blk
 ·exact own_keep h.rul (fun b hb=>hmv b 2 (h.orl b hb) (by decide) (by decide))
 ·exact own_keep h.dsk (fun b hb=>hmv b 3 (h.odk b hb) (by decide) (by decide))
 ·exact own_keep h.knw (fun b hb=>hmv b 4 (h.okn b hb) (by decide) (by decide))
structure As (w w':World) (rb tb:Nat) (ow:Nat->Nat) (c:Cf) (rs:List Rl) (s:St) (k q:Nat) (L:List ByteArray) (p:Dp):Prop where
 d:Da w' rb ow c rs s k q L p
 wp:Wp w w' ow ow
 tb:p.tb=tb
theorem dwhere_any (g:ByteArray) (e:Int) (h:Da w rb ow c rs s k q L p) (hf:Sf c s) (hg:g.size<=100000) (hq:q<=10000000000) :
  Calls prog 54 #[.pointer (some ⟨p.tb,0,none⟩),.string g,.int .i64 e] w fun x w'=>x = .returned (.tuple #[.int .i64 (wv k (told g (Ep c s k)) e (whr g (epOf (Ep c s k)) c.W c.need e.toNat)).1,.int .i64 ((wv k (told g (Ep c s k)) e (whr g (epOf (Ep c s k)) c.W c.need e.toNat)).2:Int)])/\As w w' rb p.tb ow c rs s k (q+1) L p:=by
 obtain ⟨F,h1,h2⟩:=h.trk;refine (TkA.rwhere_any g e h1 hf.cok.w1 hg hq).mono ?_;rintro x w' ⟨rfl,h3,h4⟩;rw[Ep_len];obtain ⟨h5,h6⟩:=Da.asked h h2 h3 h4;exact ⟨rfl,h5,h6,rfl⟩
theorem dparent_any (g:ByteArray) (e:Int) {X:ByteArray} (h:Da w rb ow c rs s k q L p) (hf:Sf c s) (hk:k<=100) (hg:g.size<=100000) (hX:PaV c s k g e X) (hq:q<=6000000000) :
  Calls prog 56 #[.pointer (some ⟨rb,0,none⟩),.string g,.int .i64 e] w fun x w'=>x = .returned (.tuple #[.string X,.int .i64 ((wv k (told g (Ep c s k)) e (whr g (epOf (Ep c s k)) c.W c.need e.toNat)).2:Int)])/\As w w' rb p.tb ow c rs s k (q+3000000) L p:=by
 have HW:Hid (Calls prog 54 #[.pointer (some ⟨p.tb,0,none⟩),.string g,.int .i64 e] w fun x w'=>x = .returned (.tuple #[.int .i64 (wv k (told g (Ep c s k)) e (whr g (epOf (Ep c s k)) c.W c.need e.toNat)).1,.int .i64 ((wv k (told g (Ep c s k)) e (whr g (epOf (Ep c s k)) c.W c.need e.toNat)).2:Int)])/\As w w' rb p.tb ow c rs s k (q+1) L p):=dwhere_any g e h hf hg (by omega);have c39:w.cell? ⟨rb,39,none⟩=some (.pointer (some ⟨p.tb,0,none⟩)):=h.cell (by omega);have HF:Hid (Sf c s):=hf;have HMORE:Hid (∀ w',As w w' rb p.tb ow c rs s k (q+1) L p->As w w' rb p.tb ow c rs s k (q+3000000) L p):=fun w' ha=>by obtain ⟨F,h1,h2⟩:=ha.d.trk;exact ⟨⟨ha.d.blk,ha.d.ob,ha.d.lim,ha.d.rul,ha.d.orl,ha.d.dsk,ha.d.odk,ha.d.knw,ha.d.okn,⟨F,h1.more (by omega),h2⟩⟩,ha.wp,rfl⟩
 by_cases h0:(wv k (told g (Ep c s k)) e (whr g (epOf (Ep c s k)) c.W c.need e.toNat)).2=0
 case neg=>
  unfold PaV at hX;rw[if_neg h0] at hX;subst hX;generalize wv k (told g (Ep c s k)) e (whr g (epOf (Ep c s k)) c.W c.need e.toNat)=v at *;obtain ⟨v1,v2⟩:=v;simp only at h0 HW ⊢;have i1:(0:Int)<(v2:Int):=by omega
  have i2:decide ((0:Int)<(v2:Int))=true:=by simpa using i1
  clear h0 h hf;go_enter func56,ntmps56;go_wp2_with fail;refine Calls.mono HW.out ?_;rintro x w1 ⟨rfl,ha⟩;have HA:Hid (As w w1 rb p.tb ow c rs s k (q+1) L p):=ha;clear ha c39;go_wp2;go_ret2;exact ⟨rfl,HMORE.out _ HA.out⟩
 case pos=>
  have he : 0<=e/\e<(k:Int):=by
   unfold wv at h0;split at h0
   ·assumption
   ·simp at h0
  unfold PaV at hX;rw[if_pos h0] at hX;obtain ⟨m,rfl⟩:∃ m:Nat,e=(m:Int):=⟨e.toNat,by omega⟩;rw[Int.toNat_natCast] at hX;have hmk:m<k:=by omega
  rw[h0] at HW ⊢;generalize (wv k (told g (Ep c s k)) (m:Int) (whr g (epOf (Ep c s k)) c.W c.need (m:Int).toNat)).1=v1 at *;obtain ⟨n1,hn1⟩:∃ n1,n1=m+1:=⟨_,rfl⟩;have HPR:Hid (∀ V dd,As w V rb p.tb ow c rs s k (q+1) L p->Calls prog 95 #[.pointer (some ⟨p.tb,0,none⟩),.string g,.int .i64 (IntKind.i64.wrap ((m:Int)+1)),.int .i64 (c.span:Int),.int .i64 (c.score:Int)] (V.drewN dd) fun x w'=>(∃ gb cap,x = .returned (.slice (some ⟨gb,0,none⟩) n1 cap)/\w'.cell? ⟨gb,m,none⟩=some (.string X))/\As w w' rb p.tb ow c rs s k (q+3000000) L p):=fun V dd ha=>by have hbd:Below V.heap.size V (V.drewN dd):=below_drewN (Below.refl _ V) dd;have hd:=ha.d.below hbd;obtain ⟨F,h1,h2⟩:=hd.trk;have hpar:=InA.rparents_any g (m+1) c.span c.score h1 (by rw[Ep_len];omega) hf.cok.w1 hf.cok.n0 hf.cok.s0 hf.cok.s1 hf.cok.c0 (by have:=hf.cok.c1;have:=hf.cok.s1;omega) hg (fun L h3 h4=>Nat.le_trans (told_few hf k L h3 h4) (by decide)) (by omega);have e1:(((m+1:Nat)):Int)=(m:Int)+1:=(by omega);have hwr:IntKind.i64.wrap ((m:Int)+1)=(m:Int)+1:=(by simp[IntKind.wrap,IntKind.bits,IntKind.signed];omega);rw[e1,<- hwr] at hpar;refine hpar.mono ?_;rintro x w' hps;obtain ⟨pp,cap,fs,hfl,rfl,hall,hts⟩:=hps.out;have hm1:m<fs.length:=(by omega);obtain ⟨gb,rfl,hc,_,_⟩:=hts.at_ m _ (List.getElem?_eq_getElem hm1);obtain ⟨f,hf1,rfl⟩:=hX;have hu:=InM.Prs.unique (k:=m+1) (f:=f) (f':=InA.lst fs) (fun e g he=>hf1 e g (by omega)) g (fun e he=>hall e (by omega)) m (by omega);have hxx:fs[m]=f m g:=(by rw[hu];unfold InA.lst;simp[hm1]);rw[hxx] at hc;obtain ⟨h5,h6⟩:=Da.asked hd h2 hps.r hps.k;obtain ⟨F',h7,h8⟩:=h5.trk;refine ⟨⟨gb,cap,by rw[hn1],hc⟩,⟨⟨h5.blk,h5.ob,h5.lim,h5.rul,h5.orl,h5.dsk,h5.odk,h5.knw,h5.okn,⟨F',h7.more (by omega),h8⟩⟩,(ha.wp.trans (Wp.below hbd ow)).trans h6,rfl⟩⟩
  have HCS:Hid (∀ V q',As w V rb p.tb ow c rs s k q' L p->V.cell? ⟨rb,39,none⟩=some (.pointer (some ⟨p.tb,0,none⟩))/\V.cell? ⟨rb,4,none⟩=some (.int .i64 (c.span:Int))/\V.cell? ⟨rb,5,none⟩=some (.int .i64 (c.score:Int))):=fun V q' ha=>⟨ha.d.cell (by omega),ha.d.cell (by omega),ha.d.cell (by omega)⟩;obtain ⟨q1,hq1⟩:∃ q1,q1=q+1:=⟨_,rfl⟩;obtain ⟨q2,hq2⟩:∃ q2,q2=q+3000000:=⟨_,rfl⟩;rw[<- hq1] at HW HPR;rw[<- hq2] at HPR ⊢;obtain ⟨tb,htb⟩:∃ tb,tb=p.tb:=⟨_,rfl⟩;rw[<- htb] at HW HPR HCS c39 ⊢;have hmI:(m:Int)<(n1:Int):=by omega
  have hm9:(m:Int)<=100:=by omega
  clear h0 h hf hX he hq1 hq2 HMORE hq htb hn1 hmk hk;generalize c.span=sp at *;generalize c.score=sc at *;go_enter func56,ntmps56;go_wp2_with fail;refine Calls.mono HW.out ?_;rintro x w1 ⟨rfl,ha⟩;have HA:Hid (As w w1 rb tb ow c rs s k q1 L p):=ha;obtain ⟨k0,k1,k2⟩:=HCS.out _ _ ha;clear ha c39;go_upto_region 4 with fail
  have hS0:w1.drew.cell? ⟨rb,39,none⟩=some (.pointer (some ⟨tb,0,none⟩))/\w1.drew.cell? ⟨rb,4,none⟩=some (.int .i64 (sp:Int))/\w1.drew.cell? ⟨rb,5,none⟩=some (.int .i64 (sc:Int)):=⟨k0,k1,k2⟩;refine wp_region_held_drew (S:=fun V=>V.cell? ⟨rb,39,none⟩=some (.pointer (some ⟨tb,0,none⟩))/\V.cell? ⟨rb,4,none⟩=some (.int .i64 (sp:Int))/\V.cell? ⟨rb,5,none⟩=some (.int .i64 (sc:Int))) (by kernel_rfl) hS0 (fun _=>?_);refine tk 0 23 (.pointer (some ⟨rb,0,none⟩)) rfl rfl (by kernel_rfl) (fun _ _ _ h=>h) (Or.inl ⟨by rfl,fun wx _=>by go_simp⟩) hS0 ?_;simp only[Act.put,sA,sB,sC];refine tk 1 24 (.pointer (some ⟨rb,0,none⟩)) rfl rfl (by kernel_rfl) (fun _ _ _ h=>h) (Or.inl ⟨by rfl,fun wx _=>by go_simp⟩) hS0 ?_;simp only[Act.put,sA,sB,sC];refine tk 2 25 (.pointer (some ⟨rb,39,none⟩)) rfl rfl (by kernel_rfl) (fun _ _ _ h=>h) (Or.inl ⟨by rfl,fun wx _=>by go_simp⟩) hS0 ?_;simp only[Act.put,sA,sB,sC];refine tk 3 26 (.pointer (some ⟨tb,0,none⟩)) rfl rfl (by kernel_rfl) (fun _ _ _ h=>h) (Or.inl ⟨by rfl,fun wx hS=>by (try dsimp only at hS);obtain ⟨r0,r1,r2⟩:=hS;go_simp⟩) hS0 ?_;simp only[Act.put,sA,sB,sC];refine tk 4 27 (.string g) rfl rfl (by kernel_rfl) (fun _ _ _ h=>h) (Or.inl ⟨by rfl,fun wx _=>by go_simp⟩) hS0 ?_;simp only[Act.put,sA,sB,sC];refine tk 5 28 (.int .i64 (m:Int)) rfl rfl (by kernel_rfl) (fun _ _ _ h=>h) (Or.inl ⟨by rfl,fun wx _=>by go_simp⟩) hS0 ?_;simp only[Act.put,sA,sB,sC];refine tk 6 29 (.int .i64 (IntKind.i64.wrap ((m:Int)+1))) rfl rfl (by kernel_rfl) (fun _ _ _ h=>h) (Or.inl ⟨by rfl,fun wx _=>by go_simp⟩) hS0 ?_;simp only[Act.put,sA,sB,sC];refine tk 7 30 (.pointer (some ⟨rb,0,none⟩)) rfl rfl (by kernel_rfl) (fun _ _ _ h=>h) (Or.inl ⟨by rfl,fun wx _=>by go_simp⟩) hS0 ?_;simp only[Act.put,sA,sB,sC];refine tk 8 31 (.pointer (some ⟨rb,0,none⟩)) rfl rfl (by kernel_rfl) (fun _ _ _ h=>h) (Or.inl ⟨by rfl,fun wx _=>by go_simp⟩) hS0 ?_;simp only[Act.put,sA,sB,sC];refine tk 9 32 (.pointer (some ⟨rb,0,none⟩)) rfl rfl (by kernel_rfl) (fun _ _ _ h=>h) (Or.inl ⟨by rfl,fun wx _=>by go_simp⟩) hS0 ?_;simp only[Act.put,sA,sB,sC];refine tk 10 33 (.pointer (some ⟨rb,4,none⟩)) rfl rfl (by kernel_rfl) (fun _ _ _ h=>h) (Or.inl ⟨by rfl,fun wx _=>by go_simp⟩) hS0 ?_;simp only[Act.put,sA,sB,sC];refine tk 11 34 (.int .i64 (sp:Int)) rfl rfl (by kernel_rfl) (fun _ _ _ h=>h) (Or.inl ⟨by rfl,fun wx hS=>by (try dsimp only at hS);obtain ⟨r0,r1,r2⟩:=hS;go_simp⟩) hS0 ?_;simp only[Act.put,sA,sB,sC];refine tk 12 35 (.pointer (some ⟨rb,0,none⟩)) rfl rfl (by kernel_rfl) (fun _ _ _ h=>h) (Or.inl ⟨by rfl,fun wx _=>by go_simp⟩) hS0 ?_;simp only[Act.put,sA,sB,sC];refine tk 13 36 (.pointer (some ⟨rb,0,none⟩)) rfl rfl (by kernel_rfl) (fun _ _ _ h=>h) (Or.inl ⟨by rfl,fun wx _=>by go_simp⟩) hS0 ?_;simp only[Act.put,sA,sB,sC];refine tk 14 37 (.pointer (some ⟨rb,0,none⟩)) rfl rfl (by kernel_rfl) (fun _ _ _ h=>h) (Or.inl ⟨by rfl,fun wx _=>by go_simp⟩) hS0 ?_;simp only[Act.put,sA,sB,sC];refine tk 15 38 (.pointer (some ⟨rb,5,none⟩)) rfl rfl (by kernel_rfl) (fun _ _ _ h=>h) (Or.inl ⟨by rfl,fun wx _=>by go_simp⟩) hS0 ?_;simp only[Act.put,sA,sB,sC];refine tk 16 39 (.int .i64 (sc:Int)) rfl rfl (by kernel_rfl) (fun _ _ _ h=>h) (Or.inl ⟨by rfl,fun wx hS=>by (try dsimp only at hS);obtain ⟨r0,r1,r2⟩:=hS;go_simp⟩) hS0 ?_;simp only[Act.put,sA,sB,sC];refine tk 18 41 (.int .i64 (m:Int)) rfl rfl (by kernel_rfl) (fun _ _ _ h=>h) (Or.inl ⟨by rfl,fun wx _=>by go_simp⟩) hS0 ?_;simp only[Act.put,sA,sB,sC];refine wpAnyH_ready (rs:=[17]) (by kernel_rfl) (by simp) ?_;refine AllReadyH.cons rfl (fun K hK=>?_) AllReadyH.nil;go_simp;refine (HPR.out _ 1 HA.out).mono ?_;rintro e w4 ⟨⟨gb,cap,rfl,hgc⟩,ha4⟩;have hS4:=HCS.out _ _ ha4;have HA4:Hid (As w w4 rb tb ow c rs s k q2 L p):=ha4;clear ha4;go_wp2_with fail;refine hK.out _ _ hS4 (fun _=>?_);clear hK K;refine tk 19 42 (.pointer (some ⟨gb,m,none⟩)) rfl rfl (by kernel_rfl) (fun _ _ _ h=>h) (Or.inl ⟨by rfl,fun wx _=>by go_simp⟩) hS4 ?_;simp only[Act.put,sA,sB,sC];refine wpAnyH_ready (rs:=[20]) (by kernel_rfl) (by simp) ?_;refine AllReadyH.cons rfl (fun K hK=>?_) AllReadyH.nil;go_simp;refine hK.out _ _ hS4 (fun _=>?_);clear hK K;refine tk 21 6 (.string X) rfl rfl (by kernel_rfl) (fun _ _ _ h=>h) (Or.inl ⟨by rfl,fun wx _=>by go_simp⟩) hS4 ?_;simp only[Act.put,sA,sB,sC];refine tk 22 7 (.int .i64 0) rfl rfl (by kernel_rfl) (fun _ _ _ h=>h) (Or.inl ⟨by rfl,fun wx _=>by go_simp⟩) hS4 ?_;simp only[Act.put,sA,sB,sC];refine wpAnyH_done (by kernel_rfl) ?_ _;clear hgc hS0 hS4;go_wp2;go_ret2;exact ⟨rfl,HA4.out⟩
end
end WeA
namespace WdM
open WaM
open TkM (Sg epOf told whr seenG)
open TkA (wv isA comesB)
open RuM (Rl)
open HlA (cm ws wasB)
theorem epOf_le {c:Cf} {s:St} {K e j:Nat} (he:e<K) (hj:j<=e):epOf (Ep c s (e+1)) j=epOf (Ep c s K) j:=by rw[epOf_Ep,epOf_Ep,if_pos (by omega),if_pos (by omega)]
theorem whr_le {c:Cf} {s:St} {K e j:Nat} (g:ByteArray) (W need:Nat) (he:e<K) (hj:j<=e):whr g (epOf (Ep c s (e+1))) W need j=whr g (epOf (Ep c s K)) W need j:=
 TkM.whr_congr (fun p k hk=>by rw[epOf_le he (by omega)]) (fun p k hk=>by rw[epOf_le he (by omega)])
theorem wv_le {c:Cf} {s:St} {K e:Nat} (g:ByteArray) (W need:Nat) (he:e<K) {x:Int} (hx:x<=(e:Int)) :
  wv (e+1) true x (whr g (epOf (Ep c s (e+1))) W need x.toNat)=wv K true x (whr g (epOf (Ep c s K)) W need x.toNat):=by
 unfold wv;by_cases h0 : 0<=x
 ·rw[if_pos (show 0<=x/\x<((e+1:Nat):Int) by omega),if_pos (show 0<=x/\x<(K:Int) by omega),whr_le g W need he (by omega)]
 ·rw[if_neg (fun h=>h0 h.1),if_neg (fun h=>h0 h.1)]
theorem isA_le {c:Cf} {s:St} {K e:Nat} (g:ByteArray) (W need:Nat) (he:e<K) {p x:Int} (hx:x<=(e:Int)) :
  isA (e+1) true p x (whr g (epOf (Ep c s (e+1))) W need x.toNat)=isA K true p x (whr g (epOf (Ep c s K)) W need x.toNat):=by
 unfold isA;rw[wv_le g W need he hx]
theorem cm_le {c:Cf} {s:St} {K e:Nat} (g:ByteArray) (W need:Nat) (he:e<K) {p x:Int} (hx:x<=(e:Int)) :
  cm g (epOf (Ep c s (e+1))) W need (e+1) true p x=cm g (epOf (Ep c s K)) W need K true p x:=by
 unfold cm comesB;simp only;rw[isA_le g W need he hx,isA_le g W need he (show x-1<=(e:Int) by omega)]
theorem ws_le {c:Cf} {s:St} {K e:Nat} (g:ByteArray) (W need:Nat) (he:e<K) {p x:Int} (hx:x<=(e:Int)) :
  ws g (epOf (Ep c s (e+1))) W need (e+1) true p x=ws g (epOf (Ep c s K)) W need K true p x:=by
 unfold ws wasB;rw[wv_le g W need he hx]
theorem told_le {c:Cf} {s:St} {K e:Nat} {g:ByteArray} (he:e<K) (h:told g (Ep c s (e+1))=true):told g (Ep c s K)=true:=by
 rw[TkM.told_iff] at h ⊢;obtain ⟨j,hj⟩:=h;by_cases hje:j<=e
 ·exact ⟨j,by rw[<- epOf_le he hje];exact hj⟩
 ·rw[epOf_Ep,if_neg (by omega)] at hj;cases hj
theorem untold {c:Cf} {s:St} {K e:Nat} {g:ByteArray} (hn : 1<=c.need) (he:e<K) (h:told g (Ep c s (e+1))=false):whr g (epOf (Ep c s K)) c.W c.need e = -1:=by
 rw[<- whr_le g c.W c.need he (Nat.le_refl _)];refine InM.whr_unseen hn (fun j=>?_);cases hj:seenG g (epOf (Ep c s (e+1)) j) with
 | false=>rfl
 | true=>
  have:=TkM.told_iff.2 ⟨j,hj⟩;rw[h] at this;cases this
theorem holds_later {c:Cf} {s:St} {K e:Nat} {g:ByteArray} {r:Rl} (hn : 1<=c.need) (he:e<K) :
  (told g (Ep c s (e+1))=true/\HlA.HoldsP g (epOf (Ep c s (e+1))) c.W c.need (e+1) true r (e:Int))↔HlA.HoldsP g (epOf (Ep c s K)) c.W c.need K (told g (Ep c s K)) r (e:Int):=by
 cases ht:told g (Ep c s (e+1)) with
 | true=>
  rw[told_le he ht];unfold HlA.HoldsP RuN.Back;rw[cm_le g c.W c.need he (Int.le_refl _)];constructor
  ·rintro ⟨_,h1,h2,h3,y,h4,h5,h6,h7⟩;refine ⟨h1,h2,h3,y,h4,h5,by rw[<- cm_le g c.W c.need he (by omega)];exact h6,fun x h8 h9=>by rw[<- ws_le g c.W c.need he (by omega)];exact h7 x h8 h9⟩
  ·rintro ⟨h1,h2,h3,y,h4,h5,h6,h7⟩;refine ⟨rfl,h1,h2,h3,y,h4,h5,by rw[cm_le g c.W c.need he (by omega)];exact h6,fun x h8 h9=>by rw[ws_le g c.W c.need he (by omega)];exact h7 x h8 h9⟩
 | false=>
  constructor
  ·rintro ⟨h,_⟩;cases h
  ·rintro ⟨_,_,h3,_⟩;exfalso;have hu:=untold hn he ht;unfold cm comesB at h3;rw[Bool.and_eq_true] at h3;have h4:isA K (told g (Ep c s K)) r.t (e:Int) (whr g (epOf (Ep c s K)) c.W c.need ((e:Int).toNat))=true:=h3.1;rw[Int.toNat_natCast,hu] at h4;unfold isA wv at h4;rw[if_pos ⟨by omega,by omega⟩] at h4;cases hk:told g (Ep c s K) with
   | true=>
    rw[hk] at h4;simp at h4;omega
   | false=>
    rw[hk] at h4;simp at h4
def ps (T:List ByteArray) (i k e:Nat) (a:Al):Bool:=hasT (T.take i) a.g||(decide (T[i]?=some a.g)&&(decide (a.rule<k)||(decide (a.rule=k)&&decide (a.ep<e))))
end WdM
namespace WeA
open Go.RowKit TkW WaM WaW WeW Go.Maps
open TkM (Sg epOf told whr)
open TkA (RfAt wv sv)
open RuM (Rl)
open WaB (info86)
section
variable {w V V' U : World} {rb tb : Nat} {ow : Nat → Nat} {c : Cf} {rs : List Rl} {s : St} {k q q' : Nat} {L TL : List ByteArray} {p : Dp} {A : List Al} {l T : Value}
structure Al3 (w V:World) (rb:Nat) (ow:Nat->Nat) (c:Cf) (rs:List Rl) (s:St) (k q:Nat) (L:List ByteArray) (p:Dp) (A:List Al) (l T:Value) (TL:List ByteArray):Prop where
 as_:As w V rb p.tb ow c rs s k q L p
 lim:∀ b,ow b≠0->b<w.heap.size
 row:V.ownsRow w.heap.size 86 3 l A.length (acs A)
 tag:V.ownsRow w.heap.size 9 1 T TL.length (TL.map sv)
 ne:∀ b,l.ownBlock=some b->T.ownBlock≠some b
theorem Al3.size (h:Al3 w V rb ow c rs s k q L p A l T TL):w.heap.size<=V.heap.size:=h.as_.wp.kp.size
theorem As.more (h:As w V rb tb ow c rs s k q L p) (hq:q<=q'):As w V rb tb ow c rs s k q' L p:=by obtain ⟨F,h1,h2⟩:=h.d.trk;exact ⟨⟨h.d.blk,h.d.ob,h.d.lim,h.d.rul,h.d.orl,h.d.dsk,h.d.odk,h.d.knw,h.d.okn,⟨F,h1.more hq,h2⟩⟩,h.wp,h.tb⟩
theorem Al3.more (h:Al3 w V rb ow c rs s k q L p A l T TL) (hq:q<=q'):Al3 w V rb ow c rs s k q' L p A l T TL:=⟨h.as_.more hq,h.lim,h.row,h.tag,h.ne⟩
theorem Al3.free (h:Al3 w V rb ow c rs s k q L p A l T TL) {b:Nat} (hb:w.heap.size<=b):ow b=0:=by apply Decidable.byContradiction;intro hn;have:=h.lim b hn;omega
theorem Al3.asked (h:Al3 w V rb ow c rs s k q L p A l T TL) (ha:As V V' rb p.tb ow c rs s k q' L p):Al3 w V' rb ow c rs s k q' L p A l T TL where
 as_:=⟨ha.d,h.as_.wp.trans ha.wp,rfl⟩
 lim:=h.lim
 row:=own_keep h.row (fun b hb=>ha.wp.kp.block b (own_lt h.row hb) (fun e=>e (h.free (h.row.lt b hb).1)))
 tag:=own_keep h.tag (fun b hb=>ha.wp.kp.block b (own_lt h.tag hb) (fun e=>e (h.free (h.tag.lt b hb).1)))
 ne:=h.ne
theorem Al3.below (h:Al3 w V rb ow c rs s k q L p A l T TL) (hb:Below V.heap.size V V'):Al3 w V' rb ow c rs s k q L p A l T TL:=
 h.asked ⟨h.as_.d.below hb,Wp.below hb ow,rfl⟩
theorem Al3.tags (h:Al3 w V rb ow c rs s k q L p A l T TL) (hb:Below V.heap.size V V') {T':Value} {TL':List ByteArray} (hT:V'.ownsRow V.heap.size 9 1 T' TL'.length (TL'.map sv)):Al3 w V' rb ow c rs s k q L p A l T' TL':=by have h1:=h.below hb;refine ⟨h1.as_,h.lim,h1.row,own_base hT h.size,fun b hb e=>?_⟩;have h2:=own_lt h.row hb;have h3:=(hT.lt b e).1;omega
theorem Al3.put {a:Al} {g cap:Nat} (h:Al3 w V rb ow c rs s k q L p A l T TL) (ho:V'.ownsRow w.heap.size 86 3 (.slice (some ⟨g,0,none⟩) (A.length+1) cap) (A.length+1) (acs A ++ [.int .i64 (a.rule:Int),.int .i64 (a.ep:Int),.string a.g])) (hg:V.grownBy V' l.ownBlock) (hat:l.ownBlock=some g\/V.heap.size<=g) :
  Al3 w V' rb ow c rs s k q L p (A ++ [a]) (.slice (some ⟨g,0,none⟩) (A.length+1) cap) T TL:=by
 have hsz:=hg.size;have hmv:∀ b,b<V.heap.size->ow b≠0->V'.heap[b]?=V.heap[b]?:=fun b hb hn=>hg.block b hb (fun e=>hn (h.free (h.row.lt b e.symm).1));refine ⟨⟨h.as_.d.move hsz hmv,⟨⟨hg.os.trans h.as_.wp.kp.os,hg.tape.trans h.as_.wp.kp.tape,hg.output.trans h.as_.wp.kp.output,Nat.le_trans h.size hsz,fun b hb hn=>?_⟩,fun _ h=>Or.inl h⟩,rfl⟩,h.lim,?_,?_,?_⟩
 ·rw[hg.block b (Nat.lt_of_lt_of_le hb h.size) (fun e=>by have:=(h.row.lt b e.symm).1;omega)];exact h.as_.wp.kp.block b hb hn
 ·rw[acs_snoc,List.length_append];exact ho
 ·exact own_keep h.tag (fun b hb=>hg.block b (own_lt h.tag hb) (fun e=>h.ne b e.symm hb))
 ·intro b hb;simp[Value.ownBlock] at hb;subst hb;rcases hat with h1 | h1
  ·exact h.ne _ h1
  ·intro e;have:=own_lt h.tag e;omega
theorem dholds_any (r:Rl) (g:ByteArray) (e:Nat) {b:Bool} (h:Da V rb ow c rs s k q L p) (hf:Sf c s) (hg:g.size<=100000) (hq:q<=8000000000) (he:e<k) (hk:k<=100) (hok:r.ok) (hnm:r.nm.size<=9223372036854775807) (ht:told g (Ep c s (e+1))=true) (hb:b=WaM.hb g (epOf (Ep c s (e+1))) c.W c.need r e) :
  Calls prog 91 #[.pointer (some ⟨p.tb,0,none⟩),RuA.rV r,.string g,.int .i64 (e:Int)] V fun x w'=>x = .returned (.bool b)/\As V w' rb p.tb ow c rs s k (q+30000) L p:=by
 obtain ⟨F,h1,h2⟩:=h.trk;refine (HlA.rholds_any r g (e:Int) (b:=b) h1 hf.cok.w1 hg hq (by omega) (by omega) hnm ?_).mono ?_
 ·rw[Ep_len,<- WdM.holds_later hf.cok.n0 he,hb,hb_iff hok];exact ⟨fun h=>⟨ht,h⟩,fun h=>h.2⟩
 ·rintro x w' ⟨rfl,h3,h4⟩;obtain ⟨h5,h6⟩:=Da.asked h h2 h3 h4;exact ⟨rfl,h5,h6,rfl⟩
theorem dtags_any (e:Nat) (h:Da V rb ow c rs s k q L p) (he:e<k) :
  Calls prog 90 #[.pointer (some ⟨p.tb,0,none⟩),.int .i64 (e:Int)] V fun x w'=>∃ v,x = .returned v/\w'.ownsRow V.heap.size 9 1 v (tagsL (Ep c s (e+1))).length ((tagsL (Ep c s (e+1))).map sv)/\Below V.heap.size V w':=by
 obtain ⟨F,h1,h2⟩:=h.trk;obtain ⟨pp,cap,hv⟩:=h1.view;refine (TkA.rtags_to e hv).mono ?_;rintro x w' ⟨v,rfl,TL,hT,_,hm,hb⟩;rw[Ep_take c s (by omega)] at hm;have hTL:TL=tagsL (Ep c s (e+1)):=tagsL_is hT.srt hm;rw[<- hTL];exact ⟨v,rfl,hT.own,hb⟩
def QB (q e j m:Nat):Nat:=q+2160000*e+360000*j+30000*m
theorem QB_step (q e j m:Nat):QB q e j m+30000=QB q e j (m+1):=by unfold QB;omega
theorem QB_rule (q e j m:Nat) (h:m<=12):QB q e j m<=QB q e (j+1) 0:=by unfold QB;omega
theorem QB_ep (q e j:Nat) (h:j<=6):QB q e j 0<=QB q (e+1) 0 0:=by unfold QB;omega
theorem QB_all (q e:Nat) (h:e<=100):QB q e 0 0<=q+300000000:=by unfold QB;omega
theorem QB_lim (q e j m:Nat) (hq:q<=6000000000) (he:e<=100) (hj:j<=6) (hm:m<=12):QB q e j m<=8000000000:=by unfold QB;omega
structure Al3x (w V:World) (rb:Nat) (ow:Nat->Nat) (c:Cf) (rs:List Rl) (s:St) (k q:Nat) (L:List ByteArray) (p:Dp) (A:List Al) (l:Value):Prop where
 out:∃ T TL,Al3 w V rb ow c rs s k q L p A l T TL
theorem dalerts_any (h:Da w rb ow c rs s k q L p) (hf:Sf c s) (hk:k<=100) (hR:rs.length<=6) (hrok:∀ r,r ∈ rs->r.ok) (hq:q<=6000000000) :
  Calls prog 52 #[.pointer (some ⟨rb,0,none⟩)] w fun x w'=>∃ v,x = .returned v/\w'.ownsRow w.heap.size 86 3 v (alerts c rs s k).length (acs (alerts c rs s k))/\As w w' rb p.tb ow c rs s k (q+300000000) L p:=by
 obtain ⟨i0,hi,hz0,hz1,hz2⟩:=info_parts info86;have HF:Hid (Sf c s):=hf;have HROK:Hid (∀ r,r ∈ rs->r.ok):=hrok;have HS:Hid (Al3 w w rb ow c rs s k (QB q 0 0 0) L p [] (.slice none 0 0) (.slice none 0 0) []):=by rw[show QB q 0 0 0=q from rfl];exact ⟨⟨h,Wp.refl _ _,rfl⟩,h.lim,World.ownsRow_nil _ _ _ _,World.ownsRow_nil _ _ _ _,fun b hb=>by cases hb⟩
 obtain ⟨R,hRR⟩:∃ R,R=rs.length:=⟨_,rfl⟩;have HRR:Hid (R=rs.length):=hRR;have HEL:Hid (∀ V A l T TL q',Al3 w V rb ow c rs s k q' L p A l T TL->V.cell? ⟨rb,39,none⟩=some (.pointer (some ⟨p.tb,0,none⟩))/\∃ ep ec,V.cell? ⟨p.tb,2,none⟩=some (.slice ep k ec)):=fun V A l T TL q' h=>by refine ⟨h.as_.d.cell (by omega),?_⟩;obtain ⟨F,h1,h2⟩:=h.as_.d.trk;obtain ⟨pp,cap,hv⟩:=h1.view;have:=hv.c2;rw[Ep_len] at this;exact ⟨pp,cap,this⟩
 obtain ⟨rq,rc,hrv⟩:∃ rq rc,p.rv = .slice rq R rc:=by
  rw[hRR];rcases h.rul.2 with ⟨h1,h0⟩ | ⟨g,cap,cur,hv,_⟩
  ·exact ⟨none,0,by rw[h1,h0]⟩
  ·exact ⟨_,_,hv⟩
 have HRU:Hid (∀ V A l T TL q',Al3 w V rb ow c rs s k q' L p A l T TL->V.cell? ⟨rb,22,none⟩=some (.slice rq R rc)/\∀ j r,rs[j]?=some r->∃ g,rq=some ⟨g,0,none⟩/\V.cell? ⟨g,j*6,none⟩=some (.string r.nm)/\V.cell? ⟨g,j*6+1,none⟩=some (.int .i64 r.k)/\V.cell? ⟨g,j*6+1+1,none⟩=some (.int .i64 r.f)/\V.cell? ⟨g,j*6+1+1+1,none⟩=some (.int .i64 r.t)/\V.cell? ⟨g,j*6+1+1+1+1,none⟩=some (.int .i64 r.wo)/\V.cell? ⟨g,j*6+1+1+1+1+1,none⟩=some (.int .i64 r.wi)):=fun V A l T TL q' h=>by
  refine ⟨by rw[<- hrv];exact h.as_.d.cell (by omega),fun j r hrj=>?_⟩;have hrow:=h.as_.d.rul
  have hj':j<rs.length:=by
   rcases Nat.lt_or_ge j rs.length with h | h
   ·exact h
   ·rw[List.getElem?_eq_none h] at hrj;cases hrj
  obtain ⟨g,rc',hq',hg1,hg2⟩:=hrow.form (by omega);rw[hq',] at hrow;have he:rq=some ⟨g,0,none⟩:=by rw[hrv] at hq';simp at hq';exact hq'.1
  have hcl:∀ i u,i<6->(rcl r)[i]?=some u->V.cell? ⟨g,j*6+i,none⟩=some u:=fun i u hi hu=>by have:=hrow.cells (g:=g) rfl (j*6+i) u (by unfold rcs;rw[flat_at rcl 6 (fun _=>rfl) rs j i _ hrj hi];exact hu);rw[addr_add] at this;exact this
  exact ⟨g,he,hcl 0 _ (by omega) rfl,hcl 1 _ (by omega) rfl,hcl 2 _ (by omega) rfl,hcl 3 _ (by omega) rfl,hcl 4 _ (by omega) rfl,hcl 5 _ (by omega) rfl⟩
 have hR6:R<=6:=by omega
 clear h hf hrok hrv hR hRR;go_enter func52,ntmps52;go_wp2;go_loopw [3,4,5,6,7,8] (fun l i _ _ _ _ V=>∃ e:Nat,e<=k/\i = .int .i64 (e:Int)/\Al3x w V rb ow c rs s k (QB q e 0 0) L p (alerts c rs s e) l) (fun _ i _ _ _ _ _=>k-(intOf i).toNat)
 case atStart=>exact ⟨0,Nat.zero_le _,rfl,⟨_,_,HS.out⟩⟩
 case round=>
  obtain ⟨e,he,rfl,hal⟩:=hrel;obtain ⟨T0,TL0,hal⟩:=hal.out;have HA:Hid (Al3 w wr rb ow c rs s k (QB q e 0 0) L p (alerts c rs s e) u3 T0 TL0):=hal;obtain ⟨c39,ep',ec',c2⟩:=HEL.out _ _ _ _ _ _ hal;clear hal HS;by_cases hlt:e<k
  case neg=>obtain rfl:e=k:=(by omega);have hII:¬ (e:Int)<e:=(by omega);have HFI:Hid (wr.ownsRow w.heap.size 86 3 u3 (alerts c rs s e).length (acs (alerts c rs s e))/\As w wr rb p.tb ow c rs s e (q+300000000) L p):=⟨HA.out.row,HA.out.as_.more (QB_all q e hk)⟩;go_wp2;go_ret;exact ⟨_,rfl,HFI.out⟩
  case pos=>
   have hII:(e:Int)<k:=(by omega);have HTG:Hid (Calls prog 90 #[.pointer (some ⟨p.tb,0,none⟩),.int .i64 (e:Int)] wr fun x w'=>∃ v,x = .returned v/\w'.ownsRow wr.heap.size 9 1 v (tagsL (Ep c s (e+1))).length ((tagsL (Ep c s (e+1))).map sv)/\Below wr.heap.size wr w'):=dtags_any e HA.out.as_.d hlt;obtain ⟨TL,hTL⟩:∃ TL,TL=tagsL (Ep c s (e+1)):=⟨_,rfl⟩;rw[<- hTL] at HTG;have HTL:Hid (TL=tagsL (Ep c s (e+1))):=hTL;obtain ⟨N,hN⟩:∃ N,N=TL.length:=⟨_,rfl⟩;have HN:Hid (N=TL.length):=hN;have hN12:N<=12:=(by rw[hN,hTL];exact Nat.le_trans (tags_len c s (e+1)) HF.out.few);obtain ⟨ep,hep⟩:∃ ep,ep=epOf (Ep c s (e+1)):=⟨_,rfl⟩;have HEP:Hid (ep=epOf (Ep c s (e+1))):=hep;clear hTL hep hN;go_wp2_with fail;refine Calls.mono HTG.out ?_;rintro x w2 ⟨v,rfl,hrow,hb2⟩;have ha2:=HA.out.tags hb2 hrow
   obtain ⟨tq,tc,hv⟩:∃ tq tc,v = .slice tq N tc:=by
    rw[HN.out];rcases hrow.2 with ⟨h1,h0⟩ | ⟨g,cap,cur,hv,_⟩
    ·exact ⟨none,0,by rw[h1,h0]⟩
    ·exact ⟨_,_,hv⟩
   subst hv;have HA2:Hid (Al3 w w2 rb ow c rs s k (QB q e 0 0) L p (alerts c rs s e) u3 (.slice tq N tc) TL):=ha2
   have HTC:Hid (∀ V A l q',Al3 w V rb ow c rs s k q' L p A l (.slice tq N tc) TL->∀ m g,TL[m]?=some g->∃ tg,tq=some ⟨tg,0,none⟩/\V.cell? ⟨tg,m,none⟩=some (.string g)):=fun V A l q' h m g hm=>by
    have hm':m<TL.length:=by
     rcases Nat.lt_or_ge m TL.length with h | h
     ·exact h
     ·rw[List.getElem?_eq_none h] at hm;cases hm
    have hrow:=h.tag;obtain ⟨tg,tc',hq',_,_⟩:=hrow.form (by omega);rw[hq'] at hrow;have he:tq=some ⟨tg,0,none⟩:=(by simp at hq';exact hq'.1);refine ⟨tg,he,?_⟩;have:=hrow.cells (g:=tg) rfl m (sv g) (by rw[List.getElem?_map,hm];rfl);rw[addr_add] at this;exact this
   clear hrow hb2 ha2 HTG c39 c2 HA;go_wp2;go_loopw [3,6,7,8] (fun l i _ _ V=>∃ j:Nat,j<=R/\i = .int .i64 (j:Int)/\Al3 w V rb ow c rs s k (QB q e j 0) L p (alerts c rs s e++als c.W c.need ep TL e (rs.take j)) l (.slice tq N tc) TL) (fun _ i _ _ _=>R-(intOf i).toNat)
   case atStart=>exact ⟨0,Nat.zero_le _,rfl,by simpa [als,alsFrom] using HA2.out⟩
   case round=>
    obtain ⟨j,hj,rfl,hal⟩:=hrel;have HA3:Hid (Al3 w wr rb ow c rs s k (QB q e j 0) L p (alerts c rs s e++als c.W c.need ep TL e (rs.take j)) u3 (.slice tq N tc) TL):=hal;obtain ⟨c22,hru⟩:=HRU.out _ _ _ _ _ _ hal;clear hal HA2;by_cases hjl:j<R
    case neg=>
     have hJI:¬ (j:Int)<R:=(by omega);have HNX:Hid (Al3x w wr rb ow c rs s k (QB q (e+1) 0 0) L p (alerts c rs s (e+1)) u3):=(by have h1:=HA3.out;rw[show j=R by omega] at h1;have e2:alerts c rs s e++als c.W c.need ep TL e (rs.take R)=alerts c rs s (e+1):=(by rw[HRR.out,List.take_length,HEP.out,HTL.out];exact (alerts_snoc c rs s e).symm);rw[e2] at h1;exact ⟨_,_,h1.more (QB_ep q e R hR6)⟩);clear hru;go_wp2;go_roundw
     case rel=>exact ⟨e+1,by omega,by go_num,HNX.out⟩
     case measure=>simp[intOf];omega
    case pos=>
     have hJI:(j:Int)<R:=(by omega);have hj':j<rs.length:=(by rw[<- HRR.out];exact hjl);have hrj:rs[j]?=some rs[j]:=List.getElem?_eq_getElem hj';have hrok:=HROK.out _ (List.getElem_mem hj');have HTK:Hid (rs.take (j+1)=rs.take j ++ [rs[j]]):=List.take_succ_eq_append_getElem hj';generalize rs[j]=r at *;have HRJ:Hid (rs[j]?=some r):=hrj;obtain ⟨rg,rfl,_⟩:=hru j r hrj;have HRC:Hid (∀ V A l T TL q',Al3 w V rb ow c rs s k q' L p A l T TL->V.cell? ⟨rb,22,none⟩=some (.slice (some ⟨rg,0,none⟩) R rc)/\V.cell? ⟨rg,j*6,none⟩=some (.string r.nm)/\V.cell? ⟨rg,j*6+1,none⟩=some (.int .i64 r.k)/\V.cell? ⟨rg,j*6+1+1,none⟩=some (.int .i64 r.f)/\V.cell? ⟨rg,j*6+1+1+1,none⟩=some (.int .i64 r.t)/\V.cell? ⟨rg,j*6+1+1+1+1,none⟩=some (.int .i64 r.wo)/\V.cell? ⟨rg,j*6+1+1+1+1+1,none⟩=some (.int .i64 r.wi)):=fun V A l T TL q' h=>(by obtain ⟨h1,h2⟩:=HRU.out _ _ _ _ _ _ h;obtain ⟨g',hg',h3⟩:=h2 j r HRJ.out;simp at hg';rw[<- hg'] at h3;exact ⟨h1,h3⟩);have HTA:Hid (als c.W c.need ep TL e (rs.take (j+1))=als c.W c.need ep TL e (rs.take j)++alR c.W c.need ep TL e r j):=(by show _ = _;rw[HTK.out,als_snoc,List.length_take,Nat.min_eq_left (by omega)]);obtain ⟨AJ,hAJ⟩:∃ AJ,AJ=alerts c rs s e++als c.W c.need ep TL e (rs.take j):=⟨_,rfl⟩;have HAJ:Hid (AJ=alerts c rs s e++als c.W c.need ep TL e (rs.take j)):=hAJ;rw[<- hAJ] at HA3;have hAJl:AJ.length<=8000:=(by rw[hAJ,List.length_append];have h1:=alerts_len c rs s e 12 HF.out.few;have h2:=alsFrom_len c.W c.need ep TL e (rs.take j) 0;rw[List.length_take] at h2;have h3:(min j rs.length)*TL.length<=6*12:=Nat.mul_le_mul (by omega) (by rw[<- HN.out];exact hN12);have h4:e*(rs.length*12)<=100*(6*12):=Nat.mul_le_mul (by omega) (Nat.mul_le_mul (by rw[<- HRR.out];exact hR6) (Nat.le_refl _));unfold als;omega);have hnm:r.nm.size<=9223372036854775807:=(by have h1:=hrok.1;unfold RuM.Rl.named RuM.nameOk at h1;have:r.nm.data.toList.length=r.nm.size:=(by simp);omega);have HOK:Hid r.ok:=hrok;have HNM:Hid (r.nm.size<=9223372036854775807):=hnm;clear hru hrj hAJ hrok hnm hj';go_wp2;go_loopw [3,7,8] (fun l i _ V=>∃ m:Nat,m<=N/\i = .int .i64 (m:Int)/\Al3 w V rb ow c rs s k (QB q e j m) L p (AJ++alR c.W c.need ep (TL.take m) e r j) l (.slice tq N tc) TL) (fun _ i _ _=>N-(intOf i).toNat)
     case atStart=>exact ⟨0,Nat.zero_le _,rfl,by simpa [alR] using HA3.out⟩
     case round=>
      obtain ⟨m,hm,rfl,hal⟩:=hrel;have HA4:Hid (Al3 w wr rb ow c rs s k (QB q e j m) L p (AJ++alR c.W c.need ep (TL.take m) e r j) u3 (.slice tq N tc) TL):=hal;clear hal HA3 c22;by_cases hml:m<N
      case neg=>
       have hMI:¬ (m:Int)<N:=(by omega);have HNX:Hid (Al3 w wr rb ow c rs s k (QB q e (j+1) 0) L p (alerts c rs s e++als c.W c.need ep TL e (rs.take (j+1))) u3 (.slice tq N tc) TL):=(by have h1:=HA4.out;rw[show m=TL.length by rw[<- HN.out];omega,List.take_length,HAJ.out,List.append_assoc,<- HTA.out] at h1;exact h1.more (QB_rule q e j _ (by rw[<- HN.out];exact hN12)));go_wp2;go_roundw
       case rel=>exact ⟨j+1,by omega,by go_num,HNX.out⟩
       case measure=>simp[intOf];omega
      case pos=>
       have hMI:(m:Int)<N:=(by omega);have hm':m<TL.length:=(by rw[<- HN.out];exact hml);have hmj:TL[m]?=some TL[m]:=List.getElem?_eq_getElem hm';have HTKm:Hid (TL.take (m+1)=TL.take m ++ [TL[m]]):=List.take_succ_eq_append_getElem hm';have hmem:TL[m] ∈ tagsL (Ep c s (e+1)):=(by rw[<- HTL.out];exact List.getElem_mem hm');generalize TL[m]=gg at *;obtain ⟨tg,rfl,_⟩:=HTC.out _ _ _ _ HA4.out m gg hmj;have HTT:Hid (∀ V A l q',Al3 w V rb ow c rs s k q' L p A l (.slice (some ⟨tg,0,none⟩) N tc) TL->V.cell? ⟨tg,m,none⟩=some (.string gg)):=fun V A l q' h=>(by obtain ⟨tg',h1,h2⟩:=HTC.out V A l q' h m gg hmj;simp at h1;rw[<- h1] at h2;exact h2);have hg8:gg.size<=100000:=(by have h1:=tags_sub hmem;rw[kn_mem] at h1;obtain ⟨x,hx,hxg⟩:=h1;have h2:=EpM.okS_iff.1 (HF.out.sok x hx).1;rw[<- hxg,h2.g];decide);obtain ⟨b,hbb⟩:∃ b,b=WaM.hb gg ep c.W c.need r e:=⟨_,rfl⟩;have HAR:Hid (alR c.W c.need ep (TL.take (m+1)) e r j=alR c.W c.need ep (TL.take m) e r j++(if b=true then [⟨j,e,gg⟩] else [])):=(by show _ = _;rw[HTKm.out,alR_snoc,hbb]);have HHO:Hid (∀ dd,Calls prog 91 #[.pointer (some ⟨p.tb,0,none⟩),.agg #[.string r.nm,.int .i64 r.k,.int .i64 r.f,.int .i64 r.t,.int .i64 r.wo,.int .i64 r.wi],.string gg,.int .i64 (e:Int)] (wr.drewN dd) fun x w'=>x = .returned (.bool b)/\Al3 w w' rb ow c rs s k (QB q e j (m+1)) L p (AJ++alR c.W c.need ep (TL.take m) e r j) u3 (.slice (some ⟨tg,0,none⟩) N tc) TL):=fun dd=>(by have hbd:Below wr.heap.size wr (wr.drewN dd):=below_drewN (Below.refl _ wr) dd;have h1:=HA4.out.below hbd;have h2:=dholds_any r gg e (b:=b) h1.as_.d HF.out hg8 (QB_lim q e j m hq (by omega) (by omega) (by omega)) hlt hk HOK.out HNM.out (tagsL_mem.1 hmem) (by rw[hbb,HEP.out]);refine h2.mono ?_;rintro x w' ⟨rfl,ha⟩;rw[QB_step] at ha;exact ⟨rfl,h1.asked ha⟩);have HCS:Hid (∀ V A l q',Al3 w V rb ow c rs s k q' L p A l (.slice (some ⟨tg,0,none⟩) N tc) TL->V.cell? ⟨rb,39,none⟩=some (.pointer (some ⟨p.tb,0,none⟩))/\V.cell? ⟨rb,22,none⟩=some (.slice (some ⟨rg,0,none⟩) R rc)/\V.cell? ⟨rg,j*6,none⟩=some (.string r.nm)/\V.cell? ⟨rg,j*6+1,none⟩=some (.int .i64 r.k)/\V.cell? ⟨rg,j*6+1+1,none⟩=some (.int .i64 r.f)/\V.cell? ⟨rg,j*6+1+1+1,none⟩=some (.int .i64 r.t)/\V.cell? ⟨rg,j*6+1+1+1+1,none⟩=some (.int .i64 r.wo)/\V.cell? ⟨rg,j*6+1+1+1+1+1,none⟩=some (.int .i64 r.wi)/\V.cell? ⟨tg,m,none⟩=some (.string gg)):=fun V A l q' h=>(by obtain ⟨h1,h2,h3,h4,h5,h6,h7⟩:=HRC.out _ _ _ _ _ _ h;exact ⟨(HEL.out _ _ _ _ _ _ h).1,h1,h2,h3,h4,h5,h6,h7,HTT.out _ _ _ _ h⟩);obtain ⟨s0,s1,s2,s3,s4,s5,s6,s7,s8⟩:=HCS.out _ _ _ _ HA4.out;clear hbb hmj hm' hmem;go_upto_region 12 with fail;go_region_held3 (fun U=>U.cell? ⟨rb,39,none⟩=some (.pointer (some ⟨p.tb,0,none⟩))/\U.cell? ⟨rb,22,none⟩=some (.slice (some ⟨rg,0,none⟩) R rc)/\U.cell? ⟨rg,j*6,none⟩=some (.string r.nm)/\U.cell? ⟨rg,j*6+1,none⟩=some (.int .i64 r.k)/\U.cell? ⟨rg,j*6+1+1,none⟩=some (.int .i64 r.f)/\U.cell? ⟨rg,j*6+1+1+1,none⟩=some (.int .i64 r.t)/\U.cell? ⟨rg,j*6+1+1+1+1,none⟩=some (.int .i64 r.wo)/\U.cell? ⟨rg,j*6+1+1+1+1+1,none⟩=some (.int .i64 r.wi)/\U.cell? ⟨tg,m,none⟩=some (.string gg)) (first | exact HCS.out _ _ _ _ ‹_› | go_keep) (first | (go_at_call 91;refine (HHO.out 1).mono ?_;rintro x w5 ⟨rfl,ha5⟩;have HA5:Hid (Al3 w w5 rb ow c rs s k (QB q e j (m+1)) L p (AJ++alR c.W c.need ep (TL.take m) e r j) u3 (.slice (some ⟨tg,0,none⟩) N tc) TL):=ha5;obtain ⟨t0,t1,t2,t3,t4,t5,t6,t7,t8⟩:=HCS.out _ _ _ _ ha5;clear ha5))
       all_goals
        clear s0 s1 s2 s3 s4 s5 s6 s7 s8 t0 t1 t2 t3 t4 t5 t6 t7;cases b with
        | false=>
         have HNX:Hid (Al3 w w5 rb ow c rs s k (QB q e j (m+1)) L p (AJ++alR c.W c.need ep (TL.take (m+1)) e r j) u3 (.slice (some ⟨tg,0,none⟩) N tc) TL):=(by show Al3 _ _ _ _ _ _ _ _ _ _ _ _ _ _ _;rw[HAR.out];simpa using HA5.out);clear t8;go_wp2;go_roundw
         case rel=>exact ⟨m+1,by omega,by go_num,HNX.out⟩
         case measure=>simp[intOf];omega
        | true=>
         obtain ⟨AM,hAM⟩:∃ AM,AM=AJ++alR c.W c.need ep (TL.take m) e r j:=⟨_,rfl⟩;have HAM:Hid (AJ++alR c.W c.need ep (TL.take (m+1)) e r j=AM ++ [⟨j,e,gg⟩]):=(by show _ = _;rw[HAR.out,hAM,if_pos rfl,List.append_assoc]);have hAMl:AM.length<=100000:=(by have h1:=alR_len c.W c.need ep (TL.take m) e r j;rw[List.length_take] at h1;rw[hAM,List.length_append];omega);rw[<- hAM] at HA5;have hbU:Below w5.heap.size w5 (w5.alloc (.cells #[.int .i64 (j:Int),.int .i64 (e:Int),.string gg] 86)):=(Below.refl _ _).alloc (Nat.le_refl _) _;have HU:Hid (Al3 w (w5.alloc (.cells #[.int .i64 (j:Int),.int .i64 (e:Int),.string gg] 86)) rb ow c rs s k (QB q e j (m+1)) L p AM u3 (.slice (some ⟨tg,0,none⟩) N tc) TL):=HA5.out.below hbU;have HUS:Hid ((w5.alloc (.cells #[.int .i64 (j:Int),.int .i64 (e:Int),.string gg] 86)).heap.size=w5.heap.size+1):=by show _ = _;simp
         have HNEW:Hid (∀ j' u,([.int .i64 (j:Int),.int .i64 (e:Int),.string gg]:List Value)[j']?=some u->(w5.alloc (.cells #[.int .i64 (j:Int),.int .i64 (e:Int),.string gg] 86)).cell? ((⟨w5.heap.size,0,none⟩:Addr).add j')=some u):=by
          intro j' u hj';rw[addr_add]
          match j',hj' with
          | 0,hj'=>simp at hj';subst hj';simp
          | 1,hj'=>simp at hj';subst hj';simp
          | 2,hj'=>simp at hj';subst hj';simp
         have HONE:Hid (∀ u ∈ ([.int .i64 (j:Int),.int .i64 (e:Int),.string gg]:List Value),u.oneCell'=true):=fun u hu=>by simp at hu;rcases hu with rfl | rfl | rfl<;>rfl
         have HML:Hid (AM.length+1<=maxLen):=(by show _<=_;unfold maxLen;omega);have HBY:Hid ((AM.length+1)*32<=140737488355328):=(by show _<=_;omega);have HBS:Hid (w.heap.size<=(w5.alloc (.cells #[.int .i64 (j:Int),.int .i64 (e:Int),.string gg] 86)).heap.size):=HU.out.size;have HROW:Hid ((w5.alloc (.cells #[.int .i64 (j:Int),.int .i64 (e:Int),.string gg] 86)).ownsRow w.heap.size 86 3 u3 AM.length (acs AM)):=HU.out.row;clear hAM hbU;go_wp2_with (at_builtin;refine wpList_append_lies _ rfl _ _ 77 rfl w.heap.size 86 i0 (.agg #[.int .i64 0,.int .i64 0,.string ⟨#[]⟩]) 3 32 underlying77 hi hz0 hz1 hz2 rfl (by decide) _ _ _ rfl HROW.out ⟨w5.heap.size,0,none⟩ 1 1 [.int .i64 (j:Int),.int .i64 (e:Int),.string gg] rfl rfl HNEW.out HONE.out (by omega) HML.out HBY.out HBS.out (w5.heap.size+1) HUS.out ?_);intro g6 cap6 w6 hown6 hgrow6 hat6 hlt6
         have hfin:=HU.out.put (a:=⟨j,e,gg⟩) hown6 hgrow6 (by
          rcases hat6 with h | h
          ·exact Or.inl h
          ·exact Or.inr (by rw[h,HUS.out];exact Nat.le_refl _))
         rw[<- HAM.out] at hfin;have HFIN:Hid (Al3 w w6 rb ow c rs s k (QB q e j (m+1)) L p (AJ++alR c.W c.need ep (TL.take (m+1)) e r j) (.slice (some ⟨g6,0,none⟩) (AM.length+1) cap6) (.slice (some ⟨tg,0,none⟩) N tc) TL):=hfin;clear hfin hown6 hgrow6 hat6 hlt6 t8;go_wp2;go_roundw
         case rel=>exact ⟨m+1,by omega,by go_num,HFIN.out⟩
         case measure=>simp[intOf];omega
end
end WeA
namespace WeJ
open Go.RowKit TkW Go.Maps
theorem run_append_empty {P:Program} {w:World} (t ty e:TypeId) (i:TypeInfo) (ht:P.underlying t=some (.slice e)) (hi:P.info? e=some i) (ad:Addr) (c:Nat) :
  (Builtin.append_ #[t,t] ty #[.slice none 0 0,.slice (some ad) 0 c]).run P w = .ok (.slice none 0 0) w:=by
 simp[Builtin.append_,run_underlying ht,sizeOf,typeInfo,hi,Builtin.lenOf,Builtin.firstCells];have h0:(loadCells ad 0).run P w = .ok #[] w:=by simp[loadCells,loadCellsFrom]
 rw[h0];rfl
theorem wpList_append_copy {P:Program} {ops:Array Oper} {rest:List Oper} {o:Oper} {a:Act} {Q:Exit->Act->World->Prop} (w:World) (hgd:o.guard=none) (s x:Operand) (t:TypeId)
  (ho:o.op = .call { callee:=.builtin .append,args:=#[s,x],argTypes:=#[t,t] })
  (e:TypeId) (i:TypeInfo) (z:Value) (size bytes:Nat) (ht:P.underlying t=some (.slice e)) (hi:P.info? e=some i) (hz:i.zero=some z) (hsize:i.size=size) (hby:i.bytes=bytes) (hzs:z.cells.size=size) (hsz : 0<size)
  (hs:a.eval s = .slice none 0 0) (q:Option Addr) (n c:Nat) (news:List Value) (hx:a.eval x = .slice q n c) (hnil:q=none->n=0/\c=0) (hl:news.length=n*size) (hnews:n≠0->∃ ad,q=some ad/\∀ j u,news[j]?=some u->w.cell? (ad.add j)=some u) (h1:∀ u ∈ news,u.oneCell'=true)
  (h63:n<=maxLen) (hbytes:n*bytes<=140737488355328)
  (h:∀ v w',w'.ownsRow w.heap.size e size v n news->Below w.heap.size w w'->wpList P ops Q rest (a.put o.dst v) w'):wpList P ops Q (o::rest) a w:=by
 by_cases h0:n=0
 ·subst h0;have hn:news = []:=List.length_eq_zero_iff.1 (by omega);subst hn;have hfin:=h (.slice none 0 0) w (World.ownsRow_nil _ _ _ _) (Below.refl _ _);cases q with
  | none=>
   obtain ⟨_,rfl⟩:=hnil rfl;exact wpList_append_own_none hgd s x t ho w.heap.size e i size ht hi _ 0 [] hs (World.ownsRow_nil _ _ _ _) hx hfin
  | some ad=>
   refine wpList_plain hgd fun K hK=>?_;have hrun:=run_append_empty (P:=P) (w:=w) t o.type e i ht hi ad c;unfold Oper.wp;simp[execOp,ho,resolve,invoke,builtin,hs,hx,hrun,Result.andThen];exact hK _ _ hfin
 ·obtain ⟨ad,rfl,hc⟩:=hnews h0;refine wpList_append_lies w hgd s x t ho w.heap.size e i z size bytes ht hi hz hsize hby hzs hsz (.slice none 0 0) 0 [] hs (World.ownsRow_nil _ _ _ _) ad n c news hx hl hc h1 (by omega) (by omega) (by rw[Nat.zero_add];exact hbytes) (Nat.le_refl _) _ rfl ?_;intro g cap w' h2 h3 h4 h5;rw[Nat.zero_add,List.nil_append] at h2;rw[Nat.zero_add];exact h _ w' h2 ⟨h3.os,h3.tape,h3.output,h3.size,fun k hk=>h3.block k hk (by simp[Value.ownBlock])⟩
end WeJ
namespace WeA
open Go.RowKit TkW WaM WaW WeW WaB Go.Maps
open TkM (Sg epOf told whr)
open TkA (RfAt)
open RuM (Rl)
open WbA (RsIn)
def nw0 (c:Cf):Array Value:=#[.int .i64 (c.len:Int),.int .i64 (c.late:Int),.int .i64 (c.W:Int),.int .i64 (c.need:Int),.int .i64 (c.span:Int),.int .i64 (c.score:Int),.int .i64 (c.pl 0 0),.int .i64 (c.pl 0 1),.int .i64 (c.pl 0 2),.int .i64 (c.pl 0 3),.int .i64 (c.pl 1 0),.int .i64 (c.pl 1 1),.int .i64 (c.pl 1 2),.int .i64 (c.pl 1 3),.int .i64 (c.pl 2 0),.int .i64 (c.pl 2 1),.int .i64 (c.pl 2 2),.int .i64 (c.pl 2 3),.int .i64 (c.pl 3 0),.int .i64 (c.pl 3 1),.int .i64 (c.pl 3 2),.int .i64 (c.pl 3 3),
 .slice none 0 0,.string ⟨#[]⟩,.int .i64 0,.string ⟨#[]⟩,.int .i64 0,.string ⟨#[]⟩,.int .i64 0,.string ⟨#[]⟩,.int .i64 0,.int .i64 (-1),.int .i64 (-1),.int .i64 (-1),.int .i64 (-1),.int .i64 0,.int .i64 0,.int .i64 0,.slice none 0 0,.pointer none,.slice none 0 0,.int .i64 0,.int .i64 0,.int .i64 0,.int .i64 0,.int .i64 0]
section
variable {w V V' : World} {rb : Nat} {c : Cf} {rs : List Rl}
theorem rs_cells {q:Option Addr} {cap:Nat} (hr:RsIn w q cap rs) (hne:rs.length≠0):∃ ad,q=some ad/\∀ j u,(rcs rs)[j]?=some u->w.cell? (ad.add j)=some u:=by
 obtain ⟨b,o,rfl,hlt,hc⟩:=hr.on.at_ (fun e=>hne (by rw[e];rfl));refine ⟨_,rfl,fun j u hj=>?_⟩
 have hjl:j<(rcs rs).length:=by
  rcases Nat.lt_or_ge j (rcs rs).length with h | h
  ·exact h
  ·rw[List.getElem?_eq_none h] at hj;cases hj
 rw[rcs_len] at hjl;have hk:j/6<rs.length:=by omega
 have hrk:=List.getElem?_eq_getElem hk;obtain ⟨k0,k1,k2,k3,k4,k5⟩:=hc (j/6) _ hrk;have hjj:j=(j/6)*6+j%6:=by omega
 have hv:(rcs rs)[(j/6)*6+j%6]?=(rcl rs[j/6])[j%6]?:=flat_at rcl 6 (fun _=>rfl) rs (j/6) (j%6) _ hrk (by omega);rw[<- hjj,hj] at hv
 have e2:(⟨b,o,none⟩:Addr).add j=⟨b,o+(j/6)*6+j%6,none⟩:=by
  have e3:o+j/6*6+j%6=o+j:=by omega
  rw[e3];unfold Addr.add;clear hv hj hrk k0 k1 k2 k3 k4 k5 hc hjj;split
  ·rename_i h0;rw[h0];rfl
  ·rfl
 rw[e2];have hm:j%6<6:=Nat.mod_lt _ (by decide);generalize j%6=m at *
 match m,hm with
 | 0,_=>simp[rcl] at hv;rw[hv];exact k0
 | 1,_=>simp[rcl] at hv;rw[hv];exact k1
 | 2,_=>simp[rcl] at hv;rw[hv];exact k2
 | 3,_=>simp[rcl] at hv;rw[hv];exact k3
 | 4,_=>simp[rcl] at hv;rw[hv];exact k4
 | 5,_=>simp[rcl] at hv;rw[hv];exact k5
theorem newWatch_any (c:Cf) (rs:List Rl) (q:Option Addr) (cap:Nat) (w:World) (hr:RsIn w q cap rs) (h6:rs.length<=6) :
  Calls prog 13 #[.agg (cfw (Cf.ci c)),.slice q rs.length cap] w fun e w'=>∃ rb ow,e = .returned (.pointer (some ⟨rb,0,none⟩))/\DaK w' rb ow c rs St.zero 0 0/\(∀ b,ow b≠0->w.heap.size<=b)/\Below w.heap.size w w':=by
 obtain ⟨i0,hi,hz0,hz1,hz2⟩:=info_parts WaB.info32;obtain ⟨m,hm⟩:∃ m,m=rs.length:=⟨_,rfl⟩;have HM:Hid (m=rs.length):=hm;have HR:Hid (RsIn w q cap rs):=hr;have HNIL:Hid (q=none->m=0/\cap=0):=fun e=>by obtain ⟨h1,h2⟩:=hr.nil e;rw[hm,h1];exact ⟨rfl,h2⟩
 have HLEN:Hid ((rcs rs).length=m*6):=by show _ = _;rw[rcs_len,hm]
 have HONE:Hid (∀ u ∈ rcs rs,u.oneCell'=true):=rcs_one rs;have hm6:m<=6:=by omega
 have HML:Hid (m<=maxLen):=by show _<=_;unfold maxLen;omega
 have HBY:Hid (m*56<=140737488355328):=by show _<=_;omega
 have HB0:Hid (∀ o o',Below w.heap.size w ((w.alloc o).alloc o')):=fun o o'=>((Below.refl _ w).alloc (Nat.le_refl _) o).alloc (by simp) o';have HNEWS:Hid (∀ o o',m≠0->∃ ad,q=some ad/\∀ j u,(rcs rs)[j]?=some u->((w.alloc o).alloc o').cell? (ad.add j)=some u):=fun o o' hne=>rs_cells (hr.below (HB0.out o o')) (by rw[<- hm];exact hne);have HNT:Hid (∀ V:World,Calls prog 39 #[.int .i64 (c.W:Int),.int .i64 (c.need:Int)] V fun e w'=>e = .returned (.pointer (some ⟨V.heap.size+1,0,none⟩))/\w'.heap.size=V.heap.size+2/\RfAt w' (V.heap.size+1) (fun b=>V.heap.size<=b/\b<V.heap.size+2) c.W c.need 0 []/\Below V.heap.size V w'):=fun V=>TkA.newTrack_any c.W c.need V;obtain ⟨C,hC⟩:∃ C,C=cfw (Cf.ci c):=⟨_,rfl⟩;have HC:Hid (C = #[.int .i64 (c.len:Int),.int .i64 (c.late:Int),.int .i64 (c.W:Int),.int .i64 (c.need:Int),.int .i64 (c.span:Int),.int .i64 (c.score:Int),.int .i64 (c.pl 0 0),.int .i64 (c.pl 0 1),.int .i64 (c.pl 0 2),.int .i64 (c.pl 0 3),.int .i64 (c.pl 1 0),.int .i64 (c.pl 1 1),.int .i64 (c.pl 1 2),.int .i64 (c.pl 1 3),.int .i64 (c.pl 2 0),.int .i64 (c.pl 2 1),.int .i64 (c.pl 2 2),.int .i64 (c.pl 2 3),.int .i64 (c.pl 3 0),.int .i64 (c.pl 3 1),.int .i64 (c.pl 3 2),.int .i64 (c.pl 3 3)]):=hC;have HCC:Hid (C=cfw (Cf.ci c)):=hC;have hi':(prog.info? 25).map (·.size)=some C.toList.length:=by rw[hC];kernel_rfl
 have hra:(w.alloc (.cells C 25)).rangeAt w.heap.size 0 C.toList:=WbA.range_new (Go.heap_alloc_new w _);rw[<- hm,<- hC];obtain ⟨W1,hW1⟩:∃ W1,W1=(w.alloc (.cells #[.int .i64 (c.len:Int),.int .i64 (c.late:Int),.int .i64 (c.W:Int),.int .i64 (c.need:Int),.int .i64 (c.span:Int),.int .i64 (c.score:Int),.int .i64 (c.pl 0 0),.int .i64 (c.pl 0 1),.int .i64 (c.pl 0 2),.int .i64 (c.pl 0 3),.int .i64 (c.pl 1 0),.int .i64 (c.pl 1 1),.int .i64 (c.pl 1 2),.int .i64 (c.pl 1 3),.int .i64 (c.pl 2 0),.int .i64 (c.pl 2 1),.int .i64 (c.pl 2 2),.int .i64 (c.pl 2 3),.int .i64 (c.pl 3 0),.int .i64 (c.pl 3 1),.int .i64 (c.pl 3 2),.int .i64 (c.pl 3 3)] 25)).alloc (.cells #[.int .i64 (c.len:Int),.int .i64 (c.late:Int),.int .i64 (c.W:Int),.int .i64 (c.need:Int),.int .i64 (c.span:Int),.int .i64 (c.score:Int),.int .i64 (c.pl 0 0),.int .i64 (c.pl 0 1),.int .i64 (c.pl 0 2),.int .i64 (c.pl 0 3),.int .i64 (c.pl 1 0),.int .i64 (c.pl 1 1),.int .i64 (c.pl 1 2),.int .i64 (c.pl 1 3),.int .i64 (c.pl 2 0),.int .i64 (c.pl 2 1),.int .i64 (c.pl 2 2),.int .i64 (c.pl 2 3),.int .i64 (c.pl 3 0),.int .i64 (c.pl 3 1),.int .i64 (c.pl 3 2),.int .i64 (c.pl 3 3),  .slice none 0 0,.string ⟨#[]⟩,.int .i64 0,.string ⟨#[]⟩,.int .i64 0,.string ⟨#[]⟩,.int .i64 0,.string ⟨#[]⟩,.int .i64 0,.int .i64 (-1),.int .i64 (-1),.int .i64 (-1),.int .i64 (-1),.int .i64 0,.int .i64 0,.int .i64 0,.slice none 0 0,.pointer none,.slice none 0 0,.int .i64 0,.int .i64 0,.int .i64 0,.int .i64 0,.int .i64 0] 67):=⟨_,rfl⟩;have hn1:W1.heap[w.heap.size+1]?=some (.cells (nw0 c) 67):=by rw[hW1];have:=Go.heap_alloc_new (w.alloc (.cells #[.int .i64 (c.len:Int),.int .i64 (c.late:Int),.int .i64 (c.W:Int),.int .i64 (c.need:Int),.int .i64 (c.span:Int),.int .i64 (c.score:Int),.int .i64 (c.pl 0 0),.int .i64 (c.pl 0 1),.int .i64 (c.pl 0 2),.int .i64 (c.pl 0 3),.int .i64 (c.pl 1 0),.int .i64 (c.pl 1 1),.int .i64 (c.pl 1 2),.int .i64 (c.pl 1 3),.int .i64 (c.pl 2 0),.int .i64 (c.pl 2 1),.int .i64 (c.pl 2 2),.int .i64 (c.pl 2 3),.int .i64 (c.pl 3 0),.int .i64 (c.pl 3 1),.int .i64 (c.pl 3 2),.int .i64 (c.pl 3 3)] 25)) (.cells (nw0 c) 67);rw[World.size_alloc] at this;exact this
 have hn0:W1.heap[w.heap.size]?=some (.cells #[.int .i64 (c.len:Int),.int .i64 (c.late:Int),.int .i64 (c.W:Int),.int .i64 (c.need:Int),.int .i64 (c.span:Int),.int .i64 (c.score:Int),.int .i64 (c.pl 0 0),.int .i64 (c.pl 0 1),.int .i64 (c.pl 0 2),.int .i64 (c.pl 0 3),.int .i64 (c.pl 1 0),.int .i64 (c.pl 1 1),.int .i64 (c.pl 1 2),.int .i64 (c.pl 1 3),.int .i64 (c.pl 2 0),.int .i64 (c.pl 2 1),.int .i64 (c.pl 2 2),.int .i64 (c.pl 2 3),.int .i64 (c.pl 3 0),.int .i64 (c.pl 3 1),.int .i64 (c.pl 3 2),.int .i64 (c.pl 3 3)] 25):=by rw[hW1,Below.heap_alloc _ _ _ (by simp)];exact Go.heap_alloc_new w _
 have hbW1:Below w.heap.size w W1:=by rw[hW1];exact HB0.out _ _
 have hs1:W1.heap.size=w.heap.size+2:=by rw[hW1];simp
 have HNW:Hid (m≠0->∃ ad,q=some ad/\∀ j u,(rcs rs)[j]?=some u->W1.cell? (ad.add j)=some u):=fun h=>by rw[hW1];exact HNEWS.out _ _ h
 have HN1:Hid (W1.heap[w.heap.size+1]?=some (.cells (nw0 c) 67)):=hn1;have HN0:Hid (W1.heap[w.heap.size]?=some (.cells #[.int .i64 (c.len:Int),.int .i64 (c.late:Int),.int .i64 (c.W:Int),.int .i64 (c.need:Int),.int .i64 (c.span:Int),.int .i64 (c.score:Int),.int .i64 (c.pl 0 0),.int .i64 (c.pl 0 1),.int .i64 (c.pl 0 2),.int .i64 (c.pl 0 3),.int .i64 (c.pl 1 0),.int .i64 (c.pl 1 1),.int .i64 (c.pl 1 2),.int .i64 (c.pl 1 3),.int .i64 (c.pl 2 0),.int .i64 (c.pl 2 1),.int .i64 (c.pl 2 2),.int .i64 (c.pl 2 3),.int .i64 (c.pl 3 0),.int .i64 (c.pl 3 1),.int .i64 (c.pl 3 2),.int .i64 (c.pl 3 3)] 25)):=hn0;have HBW:Hid (Below w.heap.size w W1):=hbW1;have HS1:Hid (W1.heap.size=w.heap.size+2):=hs1;clear hr h6 hm hC hn1 hn0 hbW1 hs1 HNEWS HB0;go_enter func13,ntmps13;go_upto_region 2 with (refine wpList_load_mid rfl 25 (.tmp 2) rfl w.heap.size 0 rfl C.toList _ hra underlying25 rfl hi' ?_;rw[HC.out])
 rw[<- hW1];clear hW1 hra hi';have d22:W1.cell? ⟨w.heap.size+1,22,none⟩=some (.slice none 0 0):=by simp[World.cell?,HN1.out,nw0]
 go_wp2_with (at_builtin;refine WeJ.wpList_append_copy _ rfl _ _ 26 rfl 32 i0 (.agg #[.string ⟨#[]⟩,.int .i64 0,.int .i64 0,.int .i64 0,.int .i64 0,.int .i64 0]) 6 56 underlying26 hi hz0 hz1 hz2 rfl (by decide) rfl q m cap (rcs rs) rfl HNIL.out HLEN.out HNW.out HONE.out HML.out HBY.out ?_);intro rv w2 hown2 hb2
 obtain ⟨rq,rcp,hrvf⟩:∃ rq rcp,rv = .slice rq m rcp:=by
  rcases hown2.2 with ⟨h1,h0⟩ | ⟨g,cap,cur,hv,_⟩
  ·exact ⟨none,0,by rw[h1,h0]⟩
  ·exact ⟨_,_,hv⟩
 subst hrvf;have hs1:=HS1.out;have hr2:w2.heap[w.heap.size+1]?=some (.cells (nw0 c) 67):=(hb2.block _ (by omega)).trans HN1.out;have h20:w2.heap[w.heap.size]?=W1.heap[w.heap.size]?:=hb2.block _ (by omega);have HR2:Hid (w2.heap[w.heap.size+1]?=some (.cells (nw0 c) 67)):=hr2;have H20:Hid (w2.heap[w.heap.size]?=W1.heap[w.heap.size]?):=h20;have HOWN:Hid (w2.ownsRow W1.heap.size 32 6 (.slice rq m rcp) m (rcs rs)):=hown2;have HB2:Hid (Below W1.heap.size W1 w2):=hb2;have f22:w2.frozen? ⟨w.heap.size+1,22,none⟩=false:=by simp[World.frozen?,hr2]
 have e22:w2.cell? ⟨w.heap.size+1,22,none⟩=some (.slice none 0 0):=by simp[World.cell?,hr2,nw0]
 obtain ⟨W3,hW3⟩:∃ W3,W3=w2.setCell ⟨w.heap.size+1,22,none⟩ (.slice rq m rcp):=⟨_,rfl⟩;have HW3:Hid (W3=w2.setCell ⟨w.heap.size+1,22,none⟩ (.slice rq m rcp)):=hW3;clear hr2 h20 hown2 hb2 hs1 d22 hW3;go_upto_region 3 with fail;rw[<- HW3.out];have hW3:=HW3.out;have hr3:W3.heap[w.heap.size+1]?=some (.cells ((nw0 c).setIfInBounds 22 (.slice rq m rcp)) 67):=by rw[hW3];exact EqA.cells_set HR2.out 22 _
 have h30:∀ b,b≠w.heap.size+1->W3.heap[b]?=w2.heap[b]?:=fun b hb=>by rw[hW3];exact Below.heap_setCell _ _ _ _ hb
 have hs3:W3.heap.size=w2.heap.size:=by rw[hW3];simp[World.setCell]
 have hk3:W3.os=w2.os/\W3.tape=w2.tape/\W3.output=w2.output:=by rw[hW3];exact ⟨rfl,rfl,rfl⟩
 have hbx3:W3.heap[w.heap.size]?=some (.cells #[.int .i64 (c.len:Int),.int .i64 (c.late:Int),.int .i64 (c.W:Int),.int .i64 (c.need:Int),.int .i64 (c.span:Int),.int .i64 (c.score:Int),.int .i64 (c.pl 0 0),.int .i64 (c.pl 0 1),.int .i64 (c.pl 0 2),.int .i64 (c.pl 0 3),.int .i64 (c.pl 1 0),.int .i64 (c.pl 1 1),.int .i64 (c.pl 1 2),.int .i64 (c.pl 1 3),.int .i64 (c.pl 2 0),.int .i64 (c.pl 2 1),.int .i64 (c.pl 2 2),.int .i64 (c.pl 2 3),.int .i64 (c.pl 3 0),.int .i64 (c.pl 3 1),.int .i64 (c.pl 3 2),.int .i64 (c.pl 3 3)] 25):=by rw[h30 _ (by omega),H20.out];exact HN0.out
 have c0:W3.cell? ⟨w.heap.size,0,none⟩=some (.int .i64 (c.len:Int)):=by simp[World.cell?,hbx3]
 have c1:W3.cell? ⟨w.heap.size,1,none⟩=some (.int .i64 (c.late:Int)):=by simp[World.cell?,hbx3]
 have fz3:∀ i,W3.frozen? ⟨w.heap.size+1,i,none⟩=false:=fun i=>by simp[World.frozen?,hr3]
 have r35:W3.cell? ⟨w.heap.size+1,35,none⟩=some (.int .i64 0):=by simp[World.cell?,hr3,nw0]
 have r36:W3.cell? ⟨w.heap.size+1,36,none⟩=some (.int .i64 0):=by simp[World.cell?,hr3,nw0]
 have r37:W3.cell? ⟨w.heap.size+1,37,none⟩=some (.int .i64 0):=by simp[World.cell?,hr3,nw0]
 have r38:W3.cell? ⟨w.heap.size+1,38,none⟩=some (.slice none 0 0):=by simp[World.cell?,hr3,nw0]
 have HR3:Hid (W3.heap[w.heap.size+1]?=some (.cells ((nw0 c).setIfInBounds 22 (.slice rq m rcp)) 67)):=hr3;have H30:Hid (∀ b,b≠w.heap.size+1->W3.heap[b]?=w2.heap[b]?):=h30;have HS3:Hid (W3.heap.size=w2.heap.size):=hs3;have HK3:Hid (W3.os=w2.os/\W3.tape=w2.tape/\W3.output=w2.output):=hk3;have HBX3:Hid (W3.heap[w.heap.size]?=some (.cells #[.int .i64 (c.len:Int),.int .i64 (c.late:Int),.int .i64 (c.W:Int),.int .i64 (c.need:Int),.int .i64 (c.span:Int),.int .i64 (c.score:Int),.int .i64 (c.pl 0 0),.int .i64 (c.pl 0 1),.int .i64 (c.pl 0 2),.int .i64 (c.pl 0 3),.int .i64 (c.pl 1 0),.int .i64 (c.pl 1 1),.int .i64 (c.pl 1 2),.int .i64 (c.pl 1 3),.int .i64 (c.pl 2 0),.int .i64 (c.pl 2 1),.int .i64 (c.pl 2 2),.int .i64 (c.pl 2 3),.int .i64 (c.pl 3 0),.int .i64 (c.pl 3 1),.int .i64 (c.pl 3 2),.int .i64 (c.pl 3 3)] 25)):=hbx3;obtain ⟨W4,hW4⟩:∃ W4,W4=(((W3.setCell ⟨w.heap.size+1,35,none⟩ (.int .i64 (c.len:Int))).setCell ⟨w.heap.size+1,36,none⟩ (.int .i64 (c.late:Int))).setCell ⟨w.heap.size+1,37,none⟩ (.int .i64 0)).setCell ⟨w.heap.size+1,38,none⟩ (.slice none 0 0):=⟨_,rfl⟩;have HW4:Hid (W4=(((W3.setCell ⟨w.heap.size+1,35,none⟩ (.int .i64 (c.len:Int))).setCell ⟨w.heap.size+1,36,none⟩ (.int .i64 (c.late:Int))).setCell ⟨w.heap.size+1,37,none⟩ (.int .i64 0)).setCell ⟨w.heap.size+1,38,none⟩ (.slice none 0 0)):=hW4;clear hW3 hW4 hr3 h30 hs3 hk3 hbx3 f22 e22;go_upto_region 4 with fail
 rw[<- HW4.out];have hW4:=HW4.out;have hr4:W4.heap[w.heap.size+1]?=some (.cells (((((nw0 c).setIfInBounds 22 (.slice rq m rcp)).setIfInBounds 35 (.int .i64 (c.len:Int))).setIfInBounds 36 (.int .i64 (c.late:Int))).setIfInBounds 37 (.int .i64 0) |>.setIfInBounds 38 (.slice none 0 0)) 67):=by rw[hW4];exact EqA.cells_set (EqA.cells_set (EqA.cells_set (EqA.cells_set HR3.out _ _) _ _) _ _) _ _
 have h40:∀ b,b≠w.heap.size+1->W4.heap[b]?=W3.heap[b]?:=fun b hb=>by rw[hW4,Below.heap_setCell _ _ _ _ hb,Below.heap_setCell _ _ _ _ hb,Below.heap_setCell _ _ _ _ hb,Below.heap_setCell _ _ _ _ hb]
 have hs4:W4.heap.size=W3.heap.size:=by rw[hW4];simp[World.setCell]
 have hk4:W4.os=W3.os/\W4.tape=W3.tape/\W4.output=W3.output:=by rw[hW4];exact ⟨rfl,rfl,rfl⟩
 have hbx4:W4.heap[w.heap.size]?=some (.cells #[.int .i64 (c.len:Int),.int .i64 (c.late:Int),.int .i64 (c.W:Int),.int .i64 (c.need:Int),.int .i64 (c.span:Int),.int .i64 (c.score:Int),.int .i64 (c.pl 0 0),.int .i64 (c.pl 0 1),.int .i64 (c.pl 0 2),.int .i64 (c.pl 0 3),.int .i64 (c.pl 1 0),.int .i64 (c.pl 1 1),.int .i64 (c.pl 1 2),.int .i64 (c.pl 1 3),.int .i64 (c.pl 2 0),.int .i64 (c.pl 2 1),.int .i64 (c.pl 2 2),.int .i64 (c.pl 2 3),.int .i64 (c.pl 3 0),.int .i64 (c.pl 3 1),.int .i64 (c.pl 3 2),.int .i64 (c.pl 3 3)] 25):=by rw[h40 _ (by omega)];exact HBX3.out
 have c2:W4.cell? ⟨w.heap.size,2,none⟩=some (.int .i64 (c.W:Int)):=by simp[World.cell?,hbx4]
 have c3:W4.cell? ⟨w.heap.size,3,none⟩=some (.int .i64 (c.need:Int)):=by simp[World.cell?,hbx4]
 have HR4:Hid (W4.heap[w.heap.size+1]?=some (.cells (((((nw0 c).setIfInBounds 22 (.slice rq m rcp)).setIfInBounds 35 (.int .i64 (c.len:Int))).setIfInBounds 36 (.int .i64 (c.late:Int))).setIfInBounds 37 (.int .i64 0) |>.setIfInBounds 38 (.slice none 0 0)) 67)):=hr4;have H40:Hid (∀ b,b≠w.heap.size+1->W4.heap[b]?=W3.heap[b]?):=h40;have HS4:Hid (W4.heap.size=W3.heap.size):=hs4;have HK4:Hid (W4.os=W3.os/\W4.tape=W3.tape/\W4.output=W3.output):=hk4;clear hW4 hr4 h40 hs4 hk4 hbx4 c0 c1 fz3 r35 r36 r37 r38;go_wp2_with fail;refine (HNT.out _).mono ?_;rintro e w5 ⟨rfl,hs5,hrf,hb5⟩;have hsz4:w.heap.size+2<=W4.heap.size:=by have h1:=HS4.out;have h2:=HS3.out;have h3:=HB2.out.size;have h4:=HS1.out;omega
 have hr5:w5.heap[w.heap.size+1]? = _:=(hb5.block _ (by omega)).trans HR4.out;have f39:w5.frozen? ⟨w.heap.size+1,39,none⟩=false:=by simp[World.frozen?,hr5]
 have e39:∃ z,w5.cell? ⟨w.heap.size+1,39,none⟩=some z:=⟨.pointer none,by simp[World.cell?,hr5,nw0]⟩;obtain ⟨z39,e39⟩:=e39
 have HFI:Hid (DaK (w5.setCell ⟨w.heap.size+1,39,none⟩ (.pointer (some ⟨W4.heap.size+1,0,none⟩))) (w.heap.size+1) (fun b=>if b=w.heap.size+1 then 1 else if (Value.slice rq m rcp).ownBlock=some b then 2 else if W4.heap.size<=b/\b<W4.heap.size+2 then 5 else 0) c rs St.zero 0 0/\(∀ b,(if b=w.heap.size+1 then 1 else if (Value.slice rq m rcp).ownBlock=some b then 2 else if W4.heap.size<=b/\b<W4.heap.size+2 then 5 else 0)≠0->w.heap.size<=b)/\Below w.heap.size w (w5.setCell ⟨w.heap.size+1,39,none⟩ (.pointer (some ⟨W4.heap.size+1,0,none⟩)))):=by
  have q1:=HS4.out;have q2:=HS3.out;have q3:=HB2.out.size;have q4:=HS1.out;have hrv:∀ b,(Value.slice rq m rcp).ownBlock=some b->W1.heap.size<=b/\b<w2.heap.size:=fun b hb=>HOWN.out.lt b hb;have hmv:∀ b,b<w2.heap.size->b≠w.heap.size+1->(w5.setCell ⟨w.heap.size+1,39,none⟩ (.pointer (some ⟨W4.heap.size+1,0,none⟩))).heap[b]?=w2.heap[b]?:=fun b hb hne=>by rw[Below.heap_setCell _ _ _ _ hne,hb5.block b (by omega),H40.out b hne,H30.out b hne]
  have hsz:(w5.setCell ⟨w.heap.size+1,39,none⟩ (.pointer (some ⟨W4.heap.size+1,0,none⟩))).heap.size=W4.heap.size+2:=by simp[World.setCell,hs5]
  refine ⟨⟨⟨(.slice rq m rcp),.slice none 0 0,.slice none 0 0,W4.heap.size+1⟩,?_,by simp,fun b hb=>?_,?_,fun b hb=>?_,World.ownsRow_nil _ _ _ _,fun b hb=>by simp[Value.ownBlock] at hb,World.ownsRow_nil _ _ _ _,fun b hb=>by simp[Value.ownBlock] at hb,⟨fun b=>W4.heap.size<=b/\b<W4.heap.size+2,?_,fun b hb=>?_⟩⟩,fun b hb=>?_,?_⟩
  ·rw[EqA.cells_set hr5];rfl
  ·rw[hsz];by_cases h1:b=w.heap.size+1
   ·omega
   ·rw[if_neg h1] at hb;by_cases h2:(Value.slice rq m rcp).ownBlock=some b
    ·have:=hrv b h2;omega
    ·rw[if_neg h2] at hb;by_cases h3:W4.heap.size<=b/\b<W4.heap.size+2
     ·omega
     ·rw[if_neg h3] at hb;exact absurd rfl hb
  ·rw[<- HM.out];exact own_base (own_keep HOWN.out (fun b hb=>by have:=hrv b hb;exact hmv b this.2 (by omega))) (Nat.zero_le _)
  ·have:=hrv b hb;rw[if_neg (by omega),if_pos hb]
  ·rw[show Ep c St.zero 0 = [] from rfl]
   exact hrf.move (by simp[World.setCell]) (fun b hb hF=>Below.heap_setCell _ _ _ _ (by
    have h7:W4.heap.size<=b/\b<W4.heap.size+2:=hF;show b≠w.heap.size+1;omega))
  ·rw[if_neg (by omega),if_neg (fun h=>by have:=hrv b h;omega),if_pos hb]
  ·by_cases h1:b=w.heap.size+1
   ·omega
   ·rw[if_neg h1] at hb;by_cases h2:(Value.slice rq m rcp).ownBlock=some b
    ·have:=hrv b h2;omega
    ·rw[if_neg h2] at hb;by_cases h3:W4.heap.size<=b/\b<W4.heap.size+2
     ·omega
     ·rw[if_neg h3] at hb;exact absurd rfl hb
  ·refine ⟨?_,?_,?_,by rw[hsz];omega,fun b hb=>?_⟩
   ·exact hb5.os.trans (HK4.out.1.trans (HK3.out.1.trans (HB2.out.os.trans HBW.out.os)))
   ·exact hb5.tape.trans (HK4.out.2.1.trans (HK3.out.2.1.trans (HB2.out.tape.trans HBW.out.tape)))
   ·exact hb5.output.trans (HK4.out.2.2.trans (HK3.out.2.2.trans (HB2.out.output.trans HBW.out.output)))
   ·rw[hmv b (by omega) (by omega),HB2.out.block b (by omega)];exact HBW.out.block b hb
 clear hs5 hrf hb5 hr5 hsz4 c2 c3;go_wp2;go_ret;exact ⟨_,_,rfl,HFI.out⟩
end
end WeA
namespace TagA
open Go.RowKit TagM
def bitsL (X:Nat):Nat->List Bool
 | 0=>[]
 | L+1=>bitsL (X/2) L ++ [decide (X%2=1)]
theorem bitsL_len (L:Nat):∀ X,(bitsL X L).length=L:=by
 induction L with
 | zero=>intro X;rfl
 | succ L ih=>intro X;simp[bitsL,ih]
theorem bitsL_at (L:Nat):∀ (X i:Nat),i<L->(bitsL X L)[i]?=some (decide (X/2 ^ (L-1-i)%2=1)):=by
 induction L with
 | zero=>intro X i h;omega
 | succ L ih=>
  intro X i h;unfold bitsL;by_cases hi:i<L
  ·rw[List.getElem?_append_left (by rw[bitsL_len];exact hi),ih _ _ hi,Nat.div_div_eq_div_mul,<- Nat.pow_succ',show (L-1-i).succ=L+1-1-i by omega]
  ·obtain rfl:i=L:=(by omega);rw[List.getElem?_append_right (by rw[bitsL_len];exact Nat.le_refl _),bitsL_len];simp
theorem bits_step (X N m t:Nat) (ht:t<m):(X*2 ^ (t+1)+N/2 ^ (m-(t+1)))/2=X*2 ^ t+N/2 ^ (m-t)/\(X*2 ^ (t+1)+N/2 ^ (m-(t+1)))%2=N/2 ^ (m-(t+1))%2:=by
 have e:N/2 ^ (m-t)=N/2 ^ (m-(t+1))/2:=by rw[Nat.div_div_eq_div_mul,<- Nat.pow_succ,show (m-(t+1)).succ=m-t by omega]
 rw[e,Nat.pow_succ];generalize N/2 ^ (m-(t+1))=z;generalize hY:X*2 ^ t=Y;rw[show X*(2 ^ t*2)=2*Y by rw[<- hY,<- Nat.mul_assoc];omega];omega
theorem i64_and1 (a:Nat) (ha:a<16777216):bits .and .i64 (a:Int) 1=((a%2:Nat):Int):=by
 show IntKind.i64.wrap ((BitVec.ofInt 64 (a:Int) &&& BitVec.ofInt 64 ((1:Nat):Int)).toNat:Int) = _;have e1:(BitVec.ofInt 64 (a:Int)).toNat=a:=by rw[BitVec.ofInt_natCast,BitVec.toNat_ofNat];exact Nat.mod_eq_of_lt (by omega)
 have e2:(BitVec.ofInt 64 ((1:Nat):Int)).toNat=1:=by rw[BitVec.ofInt_natCast,BitVec.toNat_ofNat]
 rw[BitVec.toNat_and,e1,e2,Nat.and_one_is_mod];exact wrapI _ (by omega) (by omega)
theorem bit_val (N t:Nat) (h:N<16777216):(bits .and .i64 ((N:Int)/2 ^ t) 1 == 1)=decide (N/2 ^ t%2=1):=by
 have e:((N:Int)/2 ^ t)=((N/2 ^ t:Nat):Int):=by simp
 rw[e,i64_and1 _ (Nat.lt_of_le_of_lt (Nat.div_le_self _ _) h)];generalize N/2 ^ t%2=z;rw[Bool.eq_iff_iff];simp;omega
theorem info4:(prog.info? 4).map (fun i=>(i.zero,i.size,i.bytes))=some (some (.bool false),1,1):=by kernel_rfl
theorem bits_any (v:Value) (X L N m base:Nat) (w:World) (hown:w.ownsRow base 4 1 v L ((bitsL X L).map Value.bool)) (hb:base<=w.heap.size) (hL:L<=64) (hm:m<=24) (hN:N<2 ^ m) :
  Calls prog 64 #[v,.int .i64 N,.int .i64 m] w fun e w'=>∃ v',e = .returned v'/\w'.ownsRow base 4 1 v' (L+m) ((bitsL (X*2 ^ m+N) (L+m)).map Value.bool)/\Below base w w':=by
 have HO:Hid (w.ownsRow base 4 1 v L ((bitsL X L).map Value.bool)):=hown;have HB:Hid (base<=w.heap.size):=hb;have HN:Hid (N<2 ^ m):=hN;have hN2:N<16777216:=Nat.lt_of_lt_of_le hN (Nat.pow_le_pow_right (by omega) hm);clear hown hb hN;obtain ⟨i0,hi,hz0,hz1,hz2⟩:=info_parts info4;go_enter func64,ntmps64;go_wp2;go_loopw [0,7] (fun u i V=>∃ t:Nat,t<=m/\i = .int .i64 ((m:Int)-1-t)/\V.ownsRow base 4 1 u (L+t) ((bitsL (X*2 ^ t+N/2 ^ (m-t)) (L+t)).map Value.bool)/\Below base w V) (fun _ i _=>(intOf i+1).toNat)
 case atStart=>refine ⟨0,Nat.zero_le _,by go_num,?_,Below.refl _ _⟩;have e:N/2 ^ (m-0)=0:=Nat.div_eq_of_lt HN.out;rw[e];simpa using HO.out
 case round=>
  obtain ⟨t,ht,rfl,hown,hbl⟩:=hrel;by_cases hlt:t<m
  ·go_wp2_with (at_builtin;refine wpList_append_own _ rfl _ _ 155 rfl base 4 i0 (.bool false) 1 1 underlying155 hi hz0 hz1 hz2 rfl (by decide) _ _ _ rfl (hown.alloc _) ⟨wr.heap.size,0,none⟩ 1 1 [.bool (bits .and .i64 ((N:Int)/2 ^ (m-1-t)) 1 == 1)] rfl rfl ?c1 ?c2 ?c3 ?c4 ?c5 ?_)
   case c1=>
    intro j u hj
    match j,hj with
    | 0,hj=>simp at hj;subst hj;simp[Addr.add]
   case c2=>intro u hu;simp at hu;subst hu;rfl
   case c3=>unfold maxLen;omega
   case c4=>omega
   case c5=>have:=hbl.size;have:=HB.out;simp;omega
   ·intro v' w1 hown' hgrow _;have hR:w1.ownsRow base 4 1 v' (L+(t+1)) ((bitsL (X*2 ^ (t+1)+N/2 ^ (m-(t+1))) (L+(t+1))).map Value.bool):=(by rw[bit_val _ _ hN2,show m-1-t=m-(t+1) by omega] at hown';have e:=bits_step X N m t hlt;have e2:(bitsL (X*2 ^ (t+1)+N/2 ^ (m-(t+1))) (L+(t+1))).map Value.bool=(bitsL (X*2 ^ t+N/2 ^ (m-t)) (L+t)).map Value.bool ++ [.bool (decide (N/2 ^ (m-(t+1))%2=1))]:=(by rw[show L+(t+1)=L+t+1 by omega];rw[bitsL,e.1,e.2,List.map_append];rfl);rw[e2];exact hown');have hB':Below base w w1:=(hbl.alloc (Nat.le_trans HB.out hbl.size) _).grown hgrow (by have:=hbl.size;have:=HB.out;simp;omega) (fun k hk=>(hown.lt k hk).1);have HR:Hid _:=hR;have HB':Hid _:=hB';clear hown' hgrow hown hbl hR hB';go_wp2;go_roundw
    case rel=>exact ⟨t+1,by omega,by go_num,HR.out,HB'.out⟩
    case measure=>simp[intOf];omega
  ·obtain rfl:t=m:=(by omega);go_wp2;go_ret;refine ⟨_,rfl,?_,hbl⟩;simpa using hown
end TagA
end Go.Proofs.YtmolafjalaeoaaaGreatDoor
