/-
  WaP InC InD
-/
import Derived.Test.YtmolafjalaeoaaaGreatDoorQaz
set_option maxRecDepth 100000
set_option maxHeartbeats 8000000
namespace Go.Proofs.YtmolafjalaeoaaaGreatDoor
open Tryz
namespace WaB
open Go.RowKit TkW WaM WaW Go.Maps
open TkM (Sg epOf told whr)
open RuM (Rl)
theorem cv_bad (c:Cf) (s:St) (p:Pt) (n:Nat) (j:Nat) (hj:j<39):cv c { s with bad:=n } p j=if j=35 then .int .i64 (n:Int) else cv c s p j:=by
 by_cases h:j<28
 ·rw[if_neg (by omega)];unfold cv;rw[if_pos h,if_pos h]
 ·obtain ⟨m,rfl⟩:∃ m,j=m+28:=⟨j-28,by omega⟩
  match m,hj with
  | 0,_=>rfl
  | 1,_=>rfl
  | 2,_=>rfl
  | 3,_=>rfl
  | 4,_=>rfl
  | 5,_=>rfl
  | 6,_=>rfl
  | 7,_=>rfl
  | 8,_=>rfl
  | 9,_=>rfl
  | 10,_=>rfl
  | m+11,h=>exact absurd h (by omega)
theorem cv_nowh (c:Cf) (s:St) (p:Pt) (n:Nat) (j:Nat) (hj:j<39):cv c { s with nowh:=n } p j=if j=36 then .int .i64 (n:Int) else cv c s p j:=by
 by_cases h:j<28
 ·rw[if_neg (by omega)];unfold cv;rw[if_pos h,if_pos h]
 ·obtain ⟨m,rfl⟩:∃ m,j=m+28:=⟨j-28,by omega⟩
  match m,hj with
  | 0,_=>rfl
  | 1,_=>rfl
  | 2,_=>rfl
  | 3,_=>rfl
  | 4,_=>rfl
  | 5,_=>rfl
  | 6,_=>rfl
  | 7,_=>rfl
  | 8,_=>rfl
  | 9,_=>rfl
  | 10,_=>rfl
  | m+11,h=>exact absurd h (by omega)
theorem cv_late (c:Cf) (s:St) (p:Pt) (n:Nat) (j:Nat) (hj:j<39):cv c { s with late:=n } p j=if j=37 then .int .i64 (n:Int) else cv c s p j:=by
 by_cases h:j<28
 ·rw[if_neg (by omega)];unfold cv;rw[if_pos h,if_pos h]
 ·obtain ⟨m,rfl⟩:∃ m,j=m+28:=⟨j-28,by omega⟩
  match m,hj with
  | 0,_=>rfl
  | 1,_=>rfl
  | 2,_=>rfl
  | 3,_=>rfl
  | 4,_=>rfl
  | 5,_=>rfl
  | 6,_=>rfl
  | 7,_=>rfl
  | 8,_=>rfl
  | 9,_=>rfl
  | 10,_=>rfl
  | m+11,h=>exact absurd h (by omega)
theorem cv_full (c:Cf) (s:St) (p:Pt) (n:Nat) (j:Nat) (hj:j<39):cv c { s with full:=n } p j=if j=38 then .int .i64 (n:Int) else cv c s p j:=by
 by_cases h:j<28
 ·rw[if_neg (by omega)];unfold cv;rw[if_pos h,if_pos h]
 ·obtain ⟨m,rfl⟩:∃ m,j=m+28:=⟨j-28,by omega⟩
  match m,hj with
  | 0,_=>rfl
  | 1,_=>rfl
  | 2,_=>rfl
  | 3,_=>rfl
  | 4,_=>rfl
  | 5,_=>rfl
  | 6,_=>rfl
  | 7,_=>rfl
  | 8,_=>rfl
  | 9,_=>rfl
  | 10,_=>rfl
  | m+11,h=>exact absurd h (by omega)
theorem cv_av (c:Cf) (s:St) (p:Pt) (v:Value) (j:Nat) (hj:j<39):cv c s { p with av:=v } j=if j=33 then v else cv c s p j:=by
 by_cases h:j<28
 ·rw[if_neg (by omega)];unfold cv;rw[if_pos h,if_pos h]
 ·obtain ⟨m,rfl⟩:∃ m,j=m+28:=⟨j-28,by omega⟩
  match m,hj with
  | 0,_=>rfl
  | 1,_=>rfl
  | 2,_=>rfl
  | 3,_=>rfl
  | 4,_=>rfl
  | 5,_=>rfl
  | 6,_=>rfl
  | 7,_=>rfl
  | 8,_=>rfl
  | 9,_=>rfl
  | 10,_=>rfl
  | m+11,h=>exact absurd h (by omega)
theorem cv_warm (c:Cf) (s:St) (p:Pt) {r:Nat} (hr:r<4) (n:Int) (j:Nat):cv c { s with warm:=upd s.warm r n } p j=if j=r*7+6 then .int .i64 n else cv c s p j:=by
 unfold cv;by_cases h3:j<28
 ·rw[if_pos h3,if_pos h3];by_cases h4:j=r*7+6
  ·rw[if_pos h4,if_neg (by omega),if_neg (by omega),if_pos (by omega),show j/7=r by omega];simp only[upd_same]
  ·rw[if_neg h4];by_cases h5:j%7=6
   ·rw[if_neg (by omega),if_neg (by omega),if_pos h5,if_neg (by omega),if_neg (by omega),if_pos h5];simp only;rw[upd_other _ _ (by omega)]
   ·rw[if_neg h5,if_neg h5]
 ·rw[if_neg h3,if_neg h3,if_neg (by omega)]
structure To (w w':World) (wb:Nat) (ow:Nat->Nat) (c:Cf) (rs:List Rl) (s:St) (k:Nat):Prop where
 out:∃ ow',WaK w' wb ow' c rs s k/\Wp w w' ow ow'
section
variable {w w' : World} {wb : Nat} {ow : Nat → Nat} {c : Cf} {rs : List Rl} {s s' : St} {k : Nat} {p : Pt}
theorem Ep_all (h:s'.all=s.all) (k:Nat):Ep c s' k=Ep c s k:=by unfold Ep;rw[h]
theorem alerts_all (h:s'.all=s.all) (k:Nat):alerts c rs s' k=alerts c rs s k:=alerts_congr c rs s' s k (fun j _=>Ep_all h j)
theorem Wa.own (h:Wa w wb ow c rs s k p) (hs:w.heap.size<=w'.heap.size) (hk:∀ b,b<w.heap.size->ow b≠0->b≠wb->w'.heap[b]?=w.heap[b]?)
  (hb:w'.heap[wb]?=some (.cells (wcs c s' p) 116)) (ha:s'.all=s.all) (hn:s'.now=s.now) (hu:s'.sum<=6000):Wa w' wb ow c rs s' k p:=by
 have e1:∀ j,Ep c s' j=Ep c s j:=fun j=>Ep_all ha j;have e2:alerts c rs s' k=alerts c rs s k:=alerts_all ha k;have hne:∀ b n,ow b=n->n≠0->n≠1->ow b≠0/\b≠wb:=fun b n hb h0 h1=>⟨by rw[hb];exact h0,fun e=>by rw[e,h.ob] at hb;exact h1 hb.symm⟩;have hmv:∀ b n,b<w.heap.size->ow b=n->n≠0->n≠1->w'.heap[b]?=w.heap[b]?:=fun b n hlt hb h0 h1=>hk b hlt (hne b n hb h0 h1).1 (hne b n hb h0 h1).2;refine ⟨hb,h.ob,fun b hb=>Nat.lt_of_lt_of_le (h.lim b hb) hs,?_,h.ok,?_,?_,?_,?_,h.orl,?_,h.oal,?_,h.cok,h.rok,?_,?_,?_,?_,hu⟩
 ·rw[ha];exact h.kn.keep (hmv _ 2 h.kn.lt h.ok (by decide) (by decide))
 ·rw[ha,hn];exact h.desk.move (fun b hb h3=>hmv b 3 hb h3 (by decide) (by decide))
 ·obtain ⟨who,h1,h2⟩:=h.trk;rw[e1];exact ⟨who,h1.move hs (fun b hb h4=>hmv b 4 hb (h2 b h4) (by decide) (by decide)),h2⟩
 ·obtain ⟨F,f,h1,h2,h3⟩:=h.ins;rw[e1];exact ⟨F,f,h1.move hs (fun b hb h4=>hmv b 5 hb (h3 b h4) (by decide) (by decide)),h2,h3⟩
 ·exact own_keep h.rul (fun b hb=>hmv b 6 (own_lt h.rul hb) (h.orl b hb) (by decide) (by decide))
 ·rw[e2];exact own_keep h.alr (fun b hb=>hmv b 7 (own_lt h.alr hb) (h.oal b hb) (by decide) (by decide))
 ·rw[e2];exact h.anil
 ·rw[hn];exact h.tim
 ·rw[hn];exact h.cls
 ·rw[ha];exact h.few
 ·rw[ha,hn];exact h.sok
theorem Wa.count (h:Wa w wb ow c rs s k p) {i:Nat} {v:Value} (hc:∀ j,j<39->cv c s' p j=if j=i then v else cv c s p j) (ha:s'.all=s.all) (hn:s'.now=s.now) (hu:s'.sum<=6000):Wa (w.setCell ⟨wb,i,none⟩ v) wb ow c rs s' k p:=
 Wa.own h (by simp[World.setCell]) (fun b _ _ hne=>Below.heap_setCell _ _ _ _ hne) (h.setBlk hc) ha hn hu
theorem To.count (h:Wa w wb ow c rs s k p) {i:Nat} {v:Value} (hc:∀ j,j<39->cv c s' p j=if j=i then v else cv c s p j) (ha:s'.all=s.all) (hn:s'.now=s.now) (hu:s'.sum<=6000):To w (w.setCell ⟨wb,i,none⟩ v) wb ow c rs s' k:=
 ⟨ow,⟨p,Wa.count h hc ha hn hu⟩,⟨set_kp _ _ _ (by show ow wb≠0;rw[h.ob];decide),fun _ h=>Or.inl h⟩⟩
theorem To.from_below {w0:World} (hb:Below w0.heap.size w0 w) (h:To w w' wb ow c rs s k):To w0 w' wb ow c rs s k:=by obtain ⟨ow',h1,h2⟩:=h.out;exact ⟨ow',h1,(Wp.below hb ow).trans h2⟩
theorem To.from_wp {w0:World} {o0:Nat->Nat} (hp:Wp w0 w o0 ow) (h:To w w' wb ow c rs s k):To w0 w' wb o0 c rs s k:=by obtain ⟨ow',h1,h2⟩:=h.out;exact ⟨ow',h1,hp.trans h2⟩
def own3 (ow:Nat->Nat) (w w':World) (l:Nat) (b:Nat):Nat:=if w.heap.size<=b/\b<w'.heap.size then l else ow b
theorem own3_old {l b:Nat} (h:b<w.heap.size):own3 ow w w' l b=ow b:=by unfold own3;rw[if_neg (by omega)]
theorem own3_lim (hl:∀ b,ow b≠0->b<w.heap.size) (hs:w.heap.size<=w'.heap.size) {l b:Nat} (h:own3 ow w w' l b≠0):b<w'.heap.size:=by
 unfold own3 at h;split at h
 ·omega
 ·exact Nat.lt_of_lt_of_le (hl b h) hs
theorem own3_new {l b:Nat} (h:own3 ow w w' l b≠0):ow b≠0\/w.heap.size<=b:=by
 unfold own3 at h;split at h
 ·rename_i h1;exact Or.inr h1.1
 ·exact Or.inl h
theorem Wa.added (h:Wa w wb ow c rs s k p) (x:Sg) (hkp:Kp (fun b=>ow b=3\/b=p.kb) w w')
  (hd:EpW.DeskAt w' p.db (fun b=>ow b=3\/(w.heap.size<=b/\b<w'.heap.size)) c.len c.late s.now (s.all ++ [x]) (EpM.closedN c.len c.late s.now)) (hkn:Kn w' p.kb (kn (s.all ++ [x])))
  (hx:EpM.okS s.now x=true/\0<InA.knd x.g) (hk:k<=EpM.epo c.len x) (hf:(WaM.kn (s.all ++ [x])).length<=12) (hu:s.sum+1<=6000) :
  Wa w' wb (own3 ow w w' 3) c rs { s with all:=s.all ++ [x] } k p:=by
 have e1:∀ j,j<=k->Ep c { s with all:=s.all ++ [x] } j=Ep c s j:=fun j hj=>Ep_snocSight c s x j (by omega);have e2:alerts c rs { s with all:=s.all ++ [x] } k=alerts c rs s k:=alerts_congr c rs _ s k e1
 have hmv:∀ b n,b<w.heap.size->ow b=n->n≠0->n≠2->n≠3->w'.heap[b]?=w.heap[b]?:=fun b n hlt hb h0 h2 h3=>hkp.block b hlt (fun hh=>by
  rcases hh with hh | hh
  ·rw[hb] at hh;exact h3 hh
  ·rw[hh,h.ok] at hb;exact h2 hb.symm)
 have hlt:∀ b n,ow b=n->n≠0->b<w.heap.size:=fun b n hb h0=>h.lim b (by rw[hb];exact h0);have ho:∀ b n,ow b=n->n≠0->own3 ow w w' 3 b=n:=fun b n hb h0=>by rw[own3_old (hlt b n hb h0)];exact hb
 have hs:=hkp.size;refine ⟨?_,ho _ _ h.ob (by decide),fun b hb=>own3_lim h.lim hs hb,hkn,ho _ _ h.ok (by decide),?_,?_,?_,?_,fun b hb=>ho b 6 (h.orl b hb) (by decide),?_,fun b hb=>ho b 7 (h.oal b hb) (by decide),?_,h.cok,h.rok,h.tim,h.cls,hf,?_,?_⟩
 ·have e:wcs c { s with all:=s.all ++ [x] } p=wcs c s p:=rfl;rw[hmv wb 1 (hlt wb 1 h.ob (by decide)) h.ob (by decide) (by decide) (by decide),e];exact h.blk
 ·refine hd.mono (fun b hb hh=>?_);rcases hh with hh | hh
  ·exact ho b 3 hh (by decide)
  ·unfold own3;rw[if_pos hh]
 ·obtain ⟨who,h1,h2⟩:=h.trk;rw[e1 k (Nat.le_refl _)];exact ⟨who,h1.move hs (fun b hb h4=>hmv b 4 hb (h2 b h4) (by decide) (by decide) (by decide)),fun b hb=>ho b 4 (h2 b hb) (by decide)⟩
 ·obtain ⟨F,f,h1,h2,h3⟩:=h.ins;rw[e1 k (Nat.le_refl _)];exact ⟨F,f,h1.move hs (fun b hb h4=>hmv b 5 hb (h3 b h4) (by decide) (by decide) (by decide)),h2,fun b hb=>ho b 5 (h3 b hb) (by decide)⟩
 ·exact own_keep h.rul (fun b hb=>hmv b 6 (own_lt h.rul hb) (h.orl b hb) (by decide) (by decide) (by decide))
 ·rw[e2];exact own_keep h.alr (fun b hb=>hmv b 7 (own_lt h.alr hb) (h.oal b hb) (by decide) (by decide) (by decide))
 ·rw[e2];exact h.anil
 ·intro y hy;rcases List.mem_append.1 hy with hy | hy
  ·exact h.sok y hy
  ·simp at hy;rw[hy];exact hx
 ·refine Nat.le_trans (Nat.le_of_eq ?_) hu;unfold St.sum St.cnt;simp;omega
theorem Wa.refused (h:Wa w wb ow c rs s k p) (hkp:Kp (fun b=>ow b=3) w w')
  (hd:EpW.DeskAt w' p.db (fun b=>ow b=3\/(w.heap.size<=b/\b<w'.heap.size)) c.len c.late s.now s.all (EpM.closedN c.len c.late s.now)):Wa w' wb (own3 ow w w' 3) c rs s k p:=by
 have hmv:∀ b n,b<w.heap.size->ow b=n->n≠0->n≠3->w'.heap[b]?=w.heap[b]?:=fun b n hlt hb h0 h3=>hkp.block b hlt (fun hh=>by rw[hb] at hh;exact h3 hh);have hlt:∀ b n,ow b=n->n≠0->b<w.heap.size:=fun b n hb h0=>h.lim b (by rw[hb];exact h0);have ho:∀ b n,ow b=n->n≠0->own3 ow w w' 3 b=n:=fun b n hb h0=>by rw[own3_old (hlt b n hb h0)];exact hb
 have hs:=hkp.size;refine ⟨?_,ho _ _ h.ob (by decide),fun b hb=>own3_lim h.lim hs hb,h.kn.keep (hmv _ 2 h.kn.lt h.ok (by decide) (by decide)),ho _ _ h.ok (by decide),?_,?_,?_,?_,fun b hb=>ho b 6 (h.orl b hb) (by decide),?_,fun b hb=>ho b 7 (h.oal b hb) (by decide),h.anil,h.cok,h.rok,h.tim,h.cls,h.few,h.sok,h.use⟩
 ·rw[hmv wb 1 (hlt wb 1 h.ob (by decide)) h.ob (by decide) (by decide)];exact h.blk
 ·refine hd.mono (fun b hb hh=>?_);rcases hh with hh | hh
  ·exact ho b 3 hh (by decide)
  ·unfold own3;rw[if_pos hh]
 ·obtain ⟨who,h1,h2⟩:=h.trk;exact ⟨who,h1.move hs (fun b hb h4=>hmv b 4 hb (h2 b h4) (by decide) (by decide)),fun b hb=>ho b 4 (h2 b hb) (by decide)⟩
 ·obtain ⟨F,f,h1,h2,h3⟩:=h.ins;exact ⟨F,f,h1.move hs (fun b hb h4=>hmv b 5 hb (h3 b h4) (by decide) (by decide)),h2,fun b hb=>ho b 5 (h3 b hb) (by decide)⟩
 ·exact own_keep h.rul (fun b hb=>hmv b 6 (own_lt h.rul hb) (h.orl b hb) (by decide) (by decide))
 ·exact own_keep h.alr (fun b hb=>hmv b 7 (own_lt h.alr hb) (h.oal b hb) (by decide) (by decide))
theorem Wp.own3_of {F:Nat->Prop} {l:Nat} (hkp:Kp F w w') (hF:∀ b,F b->ow b≠0):Wp w w' ow (own3 ow w w' l):=
 ⟨hkp.mono (fun b _ hb=>hF b hb),fun _ hb=>own3_new hb⟩
end
end WaB
namespace InA
open Go.RowKit TkM TkW TkA InM Go.Maps
structure PlOn (w:World) (p:Option Addr) (u:Nat->Int) (L n:Nat):Prop where
 at_:∀ j,j<n->∃ b,p=some ⟨b,0,none⟩/\b<w.heap.size/\w.cell? ⟨b,j,none⟩=some (.int .i64 (u (L+j)))
theorem PlOn.below {w w':World} {p:Option Addr} {u:Nat->Int} {L n:Nat} (h:PlOn w p u L n) (hb:Below w.heap.size w w'):PlOn w' p u L n where
 at_:=fun j hj=>by obtain ⟨b,hp,hlt,hc⟩:=h.at_ j hj;exact ⟨b,hp,Nat.lt_of_lt_of_le hlt hb.size,by rw[hb.cell hlt];exact hc⟩
theorem together_any (g h:ByteArray) (kg kh:Int) (p q:Option Addr) (cp cq:Nat) (u v:Nat->Int) (L n:Nat) (w:World) (hp:PlOn w p u L n) (hq:PlOn w q v L n) (hn:n<=8) :
  Calls prog 136 #[.agg #[.string g,.int .i64 kg,.slice p n cp],.agg #[.string h,.int .i64 kh,.slice q n cq]] w fun e w'=>e = .returned (.int .i64 (tg u v L n:Nat))/\Below w.heap.size w w':=by
 have HP:Hid (PlOn w p u L n):=hp;have HQ:Hid (PlOn w q v L n):=hq;have hnI:(n:Int)<=8:=by omega
 clear hp hq;have HB0:Hid (Below w.heap.size w ((w.alloc (.cells #[.string g,.int .i64 kg,.slice p n cp] 209)).alloc (.cells #[.string h,.int .i64 kh,.slice q n cq] 209))):=((Below.refl _ w).alloc (Nat.le_refl _) _).alloc (by simp) _;go_enter func136,ntmps136;go_wp2;go_loopw [5,6,7,11] (fun c _ _ i V=>∃ k:Nat,k<=n/\i = .int .i64 (k:Int)/\c = .int .i64 (tg u v L k:Nat)/\Below w.heap.size w V/\V.cell? ⟨w.heap.size+1,2,none⟩=some (.slice q n cq)) (fun _ _ _ i _=>n-(intOf i).toNat)
 case atStart=>exact ⟨0,Nat.zero_le _,rfl,rfl,HB0.out,by go_simp⟩
 case round=>
  obtain ⟨k,hk,rfl,rfl,hb,hc⟩:=hrel;have HB:Hid (Below w.heap.size w wr):=hb;clear hb;by_cases hlt:k<n
  case neg=>have hkk:k=n:=(by omega);subst hkk;have hII:¬ (k:Int)<k:=(by omega);go_wp2;go_ret;exact ⟨rfl,HB.out⟩
  case pos=>
   have hkI:(k:Int)<n:=(by omega);obtain ⟨b1,rfl,hl1,c1⟩:=(HP.out.below HB.out).at_ k hlt;obtain ⟨b2,rfl,hl2,c2⟩:=(HQ.out.below HB.out).at_ k hlt;have htl:=tg_le u v L k;have htI:((tg u v L k:Nat):Int)<=8:=(by omega);obtain ⟨x,hx⟩:∃ x,x=u (L+k):=⟨_,rfl⟩;obtain ⟨y,hy⟩:∃ y,y=v (L+k):=⟨_,rfl⟩;rw[<- hx] at c1;rw[<- hy] at c2;have HX:Hid (x=u (L+k)/\y=v (L+k)):=⟨hx,hy⟩
   have HT:Hid (tg u v L (k+1)=if 0<=x/\x=y then tg u v L k+1 else tg u v L k):=by
    show _ = _;by_cases hxy : 0<=x/\x=y
    ·rw[if_pos hxy];exact tg_yes (by rw[<- hx,<- hy];exact hxy)
    ·rw[if_neg hxy];exact tg_no (by rw[<- hx,<- hy];exact hxy)
   clear hx hy hl1 hl2;by_cases h0 : 0<=x
   ·have h0d:decide (0<=x)=true:=(by simpa using h0);by_cases hxy:x=y
    ·have hE:(x == y)=true:=(by simpa using hxy);have HT':Hid (tg u v L (k+1)=tg u v L k+1):=(by have:=HT.out;rw[if_pos ⟨h0,hxy⟩] at this;exact this);clear hxy;go_wp2;go_roundw
     case rel=>exact ⟨k+1,by omega,by go_num,by rw[HT'.out];go_num,HB.out,hc⟩
     case measure=>simp[intOf];omega
    ·have hE:(x == y)=false:=(by simpa using hxy);have HT':Hid (tg u v L (k+1)=tg u v L k):=(by have:=HT.out;rw[if_neg (fun h=>hxy h.2)] at this;exact this);clear hxy;go_wp2;go_roundw
     case rel=>exact ⟨k+1,by omega,by go_num,by rw[HT'.out],HB.out,hc⟩
     case measure=>simp[intOf];omega
   ·have h0d:decide (0<=x)=false:=(by simpa using h0);have HT':Hid (tg u v L (k+1)=tg u v L k):=(by have:=HT.out;rw[if_neg (fun h=>h0 h.1)] at this;exact this);go_wp2;go_roundw
    case rel=>exact ⟨k+1,by omega,by go_num,by rw[HT'.out],HB.out,hc⟩
    case measure=>simp[intOf];omega
theorem cbeats_any (c1 c2:Nat) (w1 w2:Bool) (x1 x2:ByteArray) (w:World) :
  Calls prog 137 #[.agg #[.string x1,.int .i64 (c1:Int),.bool w1],.agg #[.string x2,.int .i64 (c2:Int),.bool w2]] w fun e w'=>e = .returned (.bool (bt c1 w1 x1 c2 w2 x2))/\Below w.heap.size w w':=by
 have HB0:Hid (Below w.heap.size w ((w.alloc (.cells #[.string x1,.int .i64 (c1:Int),.bool w1] 211)).alloc (.cells #[.string x2,.int .i64 (c2:Int),.bool w2] 211))):=((Below.refl _ w).alloc (Nat.le_refl _) _).alloc (by simp) _;by_cases hc:c1=c2
 ·have hE:((c1:Int) != c2)=false:=by simp;omega
  by_cases hw:w1=w2
  ·have hW:(!w1 == w2)=false:=(by simpa using hw);have e:bt c1 w1 x1 c2 w2 x2=Op.bytesLess x1.toList x2.toList:=(by unfold bt;rw[if_pos hc,if_pos hw]);rw[e];clear hc hw e;go_enter func137,ntmps137;go_wp2;go_ret;exact ⟨rfl,HB0.out⟩
  ·have hW:(!w1 == w2)=true:=(by simpa using hw);have e:bt c1 w1 x1 c2 w2 x2=w1:=(by unfold bt;rw[if_pos hc,if_neg hw]);rw[e];clear hc hw e;go_enter func137,ntmps137;go_wp2;go_ret;exact ⟨rfl,HB0.out⟩
 ·have hE:((c1:Int) != c2)=true:=by simp;omega
  have e:bt c1 w1 x1 c2 w2 x2=decide (c2<c1):=by unfold bt;rw[if_neg hc]
  rw[e];clear hc e;go_enter func137,ntmps137;go_wp2;go_ret;exact ⟨rfl,HB0.out⟩
end InA
namespace InA
open Go.RowKit TkM TkW TkA InM Go.Maps
theorem infoI:(prog.info? 3).map (fun i=>(i.zero,i.size,i.bytes))=some (some (.int .i64 0),1,8):=by kernel_rfl
def plv (u:Nat->Int) (L j:Nat):List Value:=(List.range j).map (fun i=>.int .i64 (u (L+i)))
theorem plv_snoc (u:Nat->Int) (L j:Nat):plv u L (j+1)=plv u L j ++ [.int .i64 (u (L+j))]:=by simp[plv,List.range_succ]
theorem plv_at {u:Nat->Int} {L j i:Nat} (h:i<j):(plv u L j)[i]?=some (.int .i64 (u (L+i))):=by simp[plv,h]
theorem pl_of {V:World} {B:Nat} {v:Value} {u:Nat->Int} {L j:Nat} (h:V.ownsRow B 3 1 v j (plv u L j)):∃ p cap,v = .slice p j cap/\PlOn V p u L j:=by
 rcases Nat.eq_zero_or_pos j with h0 | h0
 ·subst h0;rcases h.2 with ⟨rfl,_⟩ | ⟨g,cap,cur,hv,_⟩
  ·exact ⟨none,0,rfl,⟨fun j hj=>by omega⟩⟩
  ·exact ⟨_,cap,hv,⟨fun j hj=>by omega⟩⟩
 ·obtain ⟨g,cap,rfl,_,hlt⟩:=h.form h0;refine ⟨some ⟨g,0,none⟩,cap,rfl,⟨fun i hi=>⟨g,rfl,hlt,?_⟩⟩⟩;have:=h.cells (g:=g) rfl i _ (plv_at hi);rw[addr_add] at this;exact this
section
variable {w : World} {tb xb : Nat} {who : Nat → Nat × ByteArray × Nat} {F : Nat → Prop} {W need n r span score k : Nat} {ep : Nat → List Sg} {f : Nat → ByteArray → ByteArray}
theorem places_any (s:ByteArray) (e:Nat) (d:TrAt w tb who W need n r ep) (x:InAt w xb tb F span score k f) (hW:W<=8) (hn:n<=1000) (he:e<n) (hs:s.size<=100000) (ht:∃ e,seenG s (ep e)=true) (h8:span<=8) :
  Calls prog 135 #[.pointer (some ⟨xb,0,none⟩),.string s,.int .i64 (e:Int)] w fun x w'=>∃ p cap,x = .returned (.slice p (e+1-lo span e) cap)/\w'.ownsRow w.heap.size 3 1 (.slice p (e+1-lo span e) cap) (e+1-lo span e) (plv (whr s ep W need) (lo span e) (e+1-lo span e))/\Below w.heap.size w w':=by
 obtain ⟨i3,hi3,hz3,hs3,hb3⟩:=info_parts infoI;have HD:Hid (TrAt w tb who W need n r ep):=d;have HT:Hid (∃ e,seenG s (ep e)=true):=ht;obtain ⟨xv,ms,x⟩:=x.out;have c1:=x.c1;have c0:=x.c0;have HX:Hid (w.cell? ⟨xb,0,none⟩=some (.pointer (some ⟨tb,0,none⟩))/\xb<w.heap.size):=⟨x.c0,x.lt⟩;clear d x ht;have hSI:(span:Int)<=8:=by omega
 have heI:(e:Int)<=1000:=by omega
 have hml:=@max_lo span e;obtain ⟨L,hL⟩:∃ L,L=lo span e:=⟨_,rfl⟩;have hL1:L<=e+1:=by rw[hL];unfold lo;omega
 have HL:Hid (L=lo span e):=hL;rw[<- hL] at hml ⊢;obtain ⟨N,hN⟩:∃ N,N=e+1-L:=⟨_,rfl⟩;have HN:Hid (N=e+1-L):=hN;rw[<- hN];clear hL hN;go_enter func135,ntmps135;go_wp2;clear c1 c0;go_loopw [7,8,9,10] (fun v i _ _ V=>∃ (j:Nat) (p:Option Addr) (cap:Nat),j<=N/\i = .int .i64 ((L+j:Nat):Int)/\v = .slice p j cap/\V.ownsRow w.heap.size 3 1 (.slice p j cap) j (plv (whr s ep W need) L j)/\Below w.heap.size w V) (fun _ i _ _ _=>N-((intOf i).toNat-L))
 case atStart=>exact ⟨0,none,0,Nat.zero_le _,rfl,rfl,World.ownsRow_nil _ _ _ _,Below.refl _ _⟩
 case round=>
  obtain ⟨j,p,cap,hj,rfl,rfl,hrow,hbl⟩:=hrel;by_cases hlt:L+j<=e
  case neg=>have hjj:j=N:=(by have:=HN.out;omega);have hI:¬ ((L+j:Nat):Int)<=e:=(by omega);subst hjj;have HF:Hid (wr.ownsRow w.heap.size 3 1 (.slice p j cap) j (plv (whr s ep W need) L j)/\Below w.heap.size w wr):=⟨hrow,hbl⟩;clear hrow hbl;go_wp2;go_ret;exact ⟨p,cap,rfl,HF.out⟩
  case pos=>
   have hI:((L+j:Nat):Int)<=e:=(by omega);obtain ⟨E,hE⟩:∃ E,E=L+j:=⟨_,rfl⟩;rw[<- hE] at hI ⊢;have hEe:E<n:=(by omega);have hE9:(E:Int)<=1000:=(by omega);obtain ⟨y,hy⟩:∃ y,y=whr s ep W need E:=⟨_,rfl⟩;have HC:Hid (Calls prog 65 #[.pointer (some ⟨tb,0,none⟩),.string s,.int .i64 (E:Int)] wr fun x w'=>x = .returned (.tuple #[.int .i64 y,.nilIface])/\Below wr.heap.size wr w'):=(by have:=where_told s E (HD.out.below hbl) hW hn hEe hs HT.out;rw[<- hy] at this;exact this);have HY:Hid (plv (whr s ep W need) L (j+1)=plv (whr s ep W need) L j ++ [.int .i64 y]):=(by rw[hy,hE];exact plv_snoc _ _ _);have HE:Hid (E=L+j):=hE;have c0:wr.cell? ⟨xb,0,none⟩=some (.pointer (some ⟨tb,0,none⟩)):=(by rw[hbl.cell HX.out.2];exact HX.out.1);have HROW:Hid (wr.ownsRow w.heap.size 3 1 (.slice p j cap) j (plv (whr s ep W need) L j)):=hrow;have HBL:Hid (Below w.heap.size w wr):=hbl;clear hrow hbl hy hE;go_wp2_with fail;refine HC.out.mono ?_;rintro x w1 ⟨rfl,hb1⟩;have hrow1:=own_keep HROW.out (V':=w1) (fun b hb=>hb1.block b (own_lt HROW.out hb));have hpo:=hrow1.alloc (.cells #[.int .i64 y] 3);have HB1:Hid (Below w.heap.size w w1):=HBL.out.trans (hb1.mono HBL.out.size);have hs1:w.heap.size<=w1.heap.size:=HB1.out.size;clear hb1 HC HROW HBL c0;go_wp2_with (at_builtin;refine wpList_append_lies _ rfl _ _ 70 rfl w.heap.size 3 i3 (.int .i64 0) 1 8 underlying70 hi3 hz3 hs3 hb3 rfl (by decide) _ _ _ rfl hpo ⟨w1.heap.size,0,none⟩ 1 1 [.int .i64 y] rfl rfl ?q1 ?q2 (by omega) ?q3 ?q4 ?q5 (w1.heap.size+1) ?q6 ?_)
   try case q1=>
    intro i u hi
    match i,hi with
    | 0,hi=>simp at hi;subst hi;simp[Addr.add]
   try case q2=>first | rfl | (intro u hu;simp at hu;subst hu;rfl)
   try case q3=>unfold maxLen;omega
   try case q4=>omega
   try case q5=>simp;omega
   try case q6=>simp
   intro g3 cv3 V3 hown3 hgrow3 hat3 hlt3;have HO3:Hid (V3.ownsRow w.heap.size 3 1 (.slice (some ⟨g3,0,none⟩) (j+1) cv3) (j+1) (plv (whr s ep W need) L (j+1))):=(by rw[HY.out];exact hown3);have HB3:Hid (Below w.heap.size w V3):=(HB1.out.alloc hs1 _).trans ⟨hgrow3.os,hgrow3.tape,hgrow3.output,hgrow3.size,fun b hb=>hgrow3.block b (by simp;omega) (fun e=>by have:=(hrow1.lt b e.symm).1;omega)⟩;clear hown3 hgrow3 hat3 hlt3 hpo hrow1;go_wp2;go_roundw
   case rel=>exact ⟨j+1,_,_,by have:=HN.out;omega,by rw[HE.out];go_num,rfl,HO3.out,HB3.out⟩
   case measure=>have h1:=HE.out;have h2:=HN.out;simp[intOf];omega
end
end InA
end Go.Proofs.YtmolafjalaeoaaaGreatDoor
