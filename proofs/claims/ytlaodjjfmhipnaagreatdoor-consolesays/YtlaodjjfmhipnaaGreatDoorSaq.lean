/-
  Part of it.
-/
import Derived.Test.YtlaodjjfmhipnaaGreatDoorSan
set_option maxRecDepth 100000
set_option maxHeartbeats 8000000
set_option linter.all false
namespace Go.Proofs.YtlaodjjfmhipnaaGreatDoor
open Go.Proofs.Tryz
open Value renaming int→I,string→Z,pointer→Y,slice→M,tuple→Ψ
open Ending renaming returned→N
open Obj renaming cells→Δ
open Go renaming World→Ω,Calls→Φ
open IntKind renaming i64→Q
open Option renaming some→O,none→J
open RowKit renaming Below→B,Hid→H
section
open Go.RowKit
theorem ng{w:Ω}{a:Addr}{v:Value}(h:w.cell? a=O v)(d:Nat)(c:Array Obj):(Go.Sort.grow (redrawn w d) c).cell? a=O v:=by
 have b:a.block<w.1.size:=by
  rcases gQ a.block w.1.size with h1|h1
  ·exact h1
  simp[World.cell?,j8 h1]at h
 rw[(below_regrown w d c).cell b];exact h
def qr(s:ByteArray)(w:Ω)(e:Ending)(w':Ω):Prop:=
 ∃v,e=N (Ψ #[.agg #[I Q (iK s.1.toList).b,v,I Q (iK s.1.toList).c],I Q (jR s.1.toList:Int)])/\eU w' w.1.size v (iK s.1.toList).a/\B w.1.size w w'
theorem nk{s:ByteArray}{w w':Ω}{e:Ending}(h:cO s.1.toList=J)(a:e=N (Ψ #[.agg #[I Q 0,M J 0 0,I Q 0],I Q 0]))(b:B w.1.size w w'):qr s w e w':=by unfold qr iK jR;rw[h];exact⟨_,a,eU.c _ _,b⟩
theorem wA{s:ByteArray}{w w':Ω}{e:Ending}{f:bf}{v:Value}{d:Int}(h:cO s.1.toList=O f)(g:e=N (Ψ #[.agg #[I Q f.b,v,I Q f.c],I Q d]))(i:d=(aJ f).length)(j:eU w' w.1.size v f.a)(k:B w.1.size w w'):qr s w e w':=by unfold qr iK jR;rw[h];subst i;exact⟨_,g,j,k⟩
def EA(s:ByteArray):Prop:=
 (s.size:Int)<4
 \/ (∃_h4:4<=s.size,((s[0].toNat:Int) != 165)=true)
 \/ (∃_h4:4<=s.size,((s[0].toNat:Int) != 165)=false/\(44:Int)<s[1].toNat)
 \/ (∃_h4:4<=s.size,((s[0].toNat:Int) != 165)=false/\decide ((44:Int)<s[1].toNat)=false/\(s.size:Int)<4+s[1].toNat)
theorem EB{s:ByteArray}(a:2<=s.size):da s.1.toList=if s.1.toList.length<2\/s[0]≠165\/44<s[1].toNat then 0 else 4+s[1].toNat:=by unfold da;rw[jP om,jP om]
theorem Qq(s:ByteArray):(EA s/\cO s.1.toList=J)\/∃d:4<=s.size,((s[0].toNat:Int) != 165)=false/\s[1].toNat<=44/\4+s[1].toNat<=s.size/\da s.1.toList=4+s[1].toNat:=by
 by_cases d:4<=s.size
 case neg=>
  refine af ⟨af om,?_⟩;unfold cO;rw[ak];rw[dQ];by_cases i:2<=s.size
  ·rw[EB i];split
   ·exact af rfl
   right;omega
  left;unfold da;rw[dQ,ak (af om)]
 have c:=EB (s:=s) om;by_cases e:s[0]=165
 case neg=>
  refine af ⟨ah (af ⟨d,?_⟩),?_⟩
  ·have:s[0].toNat≠165:=λh=>e (UInt8.toNat_inj.1 h);simp;omega
  unfold cO;rw[ak];left;rw[c,ak (ah (af e))]
 have b:((s[0].toNat:Int) != 165)=false:=by rw[e];rfl
 by_cases g:44<s[1].toNat
 case pos=>refine af ⟨ah (ah (af ⟨d,b,om⟩)),?_⟩;unfold cO;rw[ak];left;rw[c,ak (ah (ah g))]
 have a:da s.1.toList=4+s[1].toNat:=by
  rw[c,ag];rw[dQ];rintro(h|h|h)
  ·omega
  ·exact h e
  omega
 by_cases f:4+s[1].toNat<=s.size
 ·exact ah ⟨d,b,om,f,a⟩
 refine af ⟨ah (ah (ah ⟨d,b,by simp;omega,om⟩)),?_⟩;unfold cO;rw[ak];right;rw[dQ,a];omega
theorem RK(s:ByteArray)(w:Ω)(f:s.size<=100000)(h:EA s)(d:cO s.1.toList=J):
  Φ prog 82 #[Z s] w (qr s w):=by
 have a:H (cO s.1.toList=J):=d;clear d;rcases h with h|⟨h4,h⟩|⟨h4,h0,h⟩|⟨h4,h0,h1,h⟩
 ·go_enter func82,ntmps82;go_wp2;refine bK (v:=Ψ #[.agg #[I Q 0,M J 0 0,I Q 0],I Q 0]) (by simp[results,results82,go_sem]) rfl ?_;exact nk a.o rfl ((aj _ w).l nl _)
 ·have c:(0:Int)<s.size:=om;have b:decide ((s.size:Int)<4)=false:=by simp;omega
  go_enter func82,ntmps82;go_wp2;refine bK (v:=Ψ #[.agg #[I Q 0,M J 0 0,I Q 0],I Q 0]) (by simp[results,results82,go_sem]) rfl ?_;exact nk a.o rfl ((aj _ w).l nl _)
 ·have c:(0:Int)<s.size:=om;have e:(1:Int)<s.size:=om;have b:decide ((s.size:Int)<4)=false:=by simp;omega
  go_enter func82,ntmps82;go_wp2;refine bK (v:=Ψ #[.agg #[I Q 0,M J 0 0,I Q 0],I Q 0]) (by simp[results,results82,go_sem]) rfl ?_;exact nk a.o rfl ((aj _ w).l nl _)
 have c:(0:Int)<s.size:=om;have e:(1:Int)<s.size:=om;have b:decide ((s.size:Int)<4)=false:=by simp;omega
 have g:=s[1].toNat_lt;go_enter func82,ntmps82;go_wp2;refine bK (v:=Ψ #[.agg #[I Q 0,M J 0 0,I Q 0],I Q 0]) (by simp[results,results82,go_sem]) rfl ?_;exact nk a.o rfl ((aj _ w).l nl _)
end
section
open Go.RowKit
theorem yE{s:ByteArray}{n:Nat}(b:4+n<=s.size)(a:da s.1.toList=4+n):
  cO s.1.toList=if ch (mM (s.extract 0 (4+n)).1.toList)=0/\aJ (mM (s.extract 0 (4+n)).1.toList)=(s.extract 0 (4+n)).1.toList then O (mM (s.extract 0 (4+n)).1.toList) else J:=by
 rw[<-JY];unfold sx;rw[a,ag,kP]
 ·rfl
 rw[dQ];omega
theorem DK{s:ByteArray}{m i:Nat}(b:m<=s.size)(a:i<m):(s.extract 0 m).1.toList.getD i 0=s[i]:=by rw[kP,<-jP om,en,en];show (List.take m (List.drop 0 s.1.toList))[i]?.getD 0=_;rw[rK a,List.drop_zero]
theorem tZ{s:ByteArray}{m:Nat}(a:m<=s.size):(s.extract 0 m).size=m:=by rw[pM];omega
theorem Mf{s:ByteArray}{n:Nat}(a:4+n<=s.size):((s.extract 0 (4+n)).1.toList.drop 3).take ((s.extract 0 (4+n)).1.toList.length-4)=(s.extract 3 (3+n)).1.toList:=by rw[dQ,tZ a,kP,kP,List.drop_zero,List.drop_take,List.take_take];congr 1;omega
theorem zh{s:ByteArray}{n:Nat}(a:4+n<=s.size):mM (s.extract 0 (4+n)).1.toList=⟨s[2].toNat,if s[2].toNat=1 then jd (s.extract 3 (3+n)).1.toList else [],if s[2].toNat=3/\n=1 then ((s.extract 0 (4+n)).1.toList.getD 3 0).toNat else 0⟩:=by
 unfold mM;rw[DK a om,Mf a,dQ,tZ a];congr 1;by_cases h:n=1
 ·subst h;simp
 rw[ag (λb=>h om),ag (λb=>h b.2)]
structure uG (W w:Ω) (G:bf) (p:Option Addr) (cap:Nat):Prop where
 b:W.cell? ⟨w.1.size+1,0,J⟩=O (I Q G.b)
 c:W.cell? ⟨w.1.size+1,1,J⟩=O (M p G.a.length cap)
 d:W.cell? ⟨w.1.size+1,2,J⟩=O (I Q G.c)
 h:mo W w.1.size
 f:eU W (w.1.size+2) (M p G.a.length cap) G.a
 e:de W p G.a
 a:B w.1.size w W
 g:w.1.size+2<=W.1.size
theorem zM(w:Ω)(T i:Int):uG ((w.alloc (Δ #[I Q 0,M J 0 0,I Q 0] 105)).alloc (Δ #[I Q T,M J 0 0,I Q i] 105)) w ⟨T,[],i⟩ J 0 where
 b:=by go_simp
 c:=by go_simp
 d:=by go_simp
 h:=⟨by go_simp,by go_simp,by go_simp,by go_simp,by go_simp,by go_simp⟩
 f:=eU.c _ _
 e:=⟨λr h=>absurd h nj,λh=>absurd rfl h⟩
 a:=((aj _ w).l nl _).l sm _
 g:=by simp
theorem Oq(s:ByteArray)(n:Nat)(w:Ω)(hs:s.size<=100000)(h4:4<=s.size)(h0:((s[0].toNat:Int) != 165)=false)(hn:s[1].toNat=n)(h1:n<=44)(h5:4+n<=s.size)(hsp:da s.1.toList=4+n)(hT:s[2].toNat≠1)(h3:¬(s[2].toNat=3/\n=1)):
  Φ prog 82 #[Z s] w (qr s w):=by
 obtain⟨G,hG⟩:∃G:bf,G=⟨s[2].toNat,[],0⟩:=⟨_,rfl⟩;have hGR:mM (s.extract 0 (4+n)).1.toList=G:=by rw[zh h5,ag hT,ag h3,hG]
 have hFG:=yE h5 hsp;rw[hGR]at hFG;have A:H (cO s.1.toList=if ch G=0/\aJ G=(s.extract 0 (4+n)).1.toList then O G else J):=hFG;have HGG:H (G=⟨s[2].toNat,[],0⟩):=hG;have HN:H (s[1].toNat=n):=hn;have hnI:(s[1].toNat:Int)=n:=om;have a0:(0:Int)<s.size:=om;have a1:(1:Int)<s.size:=om;have a2:(2:Int)<s.size:=om;have a4:decide ((s.size:Int)<4)=false:=by simp;omega
 have b1:decide ((44:Int)<n)=false:=by simp;omega
 have b5:decide ((s.size:Int)<4+n)=false:=by simp;omega
 have b5':4+(n:Int)<=s.size:=om;have b5'':3+(n:Int)<=s.size:=om;have hT1:((s[2].toNat:Int) == 1)=false:=by simp;omega
 have hx:=s[2].toNat_lt
 have h3a:((s[2].toNat:Int) == 3)=false\/(((s[2].toNat:Int) == 3)=true/\((n:Int) == 1)=false):=by
  by_cases e:s[2].toNat=3
  ·right;refine⟨by rw[e];rfl,?_⟩;have:n≠1:=λh=>h3 ⟨e,h⟩;simp;omega
  left;simp;omega
 have HX:H ((4:Int)+n=((4+n:Nat):Int)):=by show _=_;omega
 clear hGR hFG hG hT h3 hn hsp;rcases h3a with h3a|⟨h3a,h3b⟩
 ·go_enter func82,ntmps82;go_upto_region 13 with fail
  obtain⟨p,g,hTl⟩:∃p g,uG ((w.alloc (Δ #[I Q 0,M J 0 0,I Q 0] 105)).alloc (Δ #[I Q (s[2].toNat:Int),M J 0 0,I Q 0] 105)) w G p g:=⟨J,0,by rw[HGG.o];exact zM w _ _⟩;generalize (w.alloc (Δ #[I Q 0,M J 0 0,I Q 0] 105)).alloc (Δ #[I Q (s[2].toNat:Int),M J 0 0,I Q 0] 105)=W at *;obtain⟨D,R,S,hZ,P,E,T,hWs⟩:=hTl;have HZ:H (mo W w.1.size):=hZ;have HRO:H (eU W (w.1.size+2) (M p G.a.length g) G.a):=P;have l:H (de W p G.a):=E;have x:H (B w.1.size w W):=T;clear hZ P E T;have k0:=ng D;have k1:=ng R;have k2:=ng S;by_cases y:ch G=0
  ·have X:H (eC G):=nu.1 y;have hfd:decide ((0:Int)<((ch G:Nat):Int))=false:=(by rw[y];rfl);have hfe:decide (0<ch G)=false:=(by rw[y];rfl);have HFL:H (ch G=0):=y;clear y;by_cases z:aJ G=(s.extract 0 (4+n)).1.toList
   ·have q1:((aM (aJ G)).toList == (s.extract 0 (4+n)).toList)=true:=(by rw[cY,cY,ny,z];simp);have q2:((aM (aJ G)).toList != (s.extract 0 (4+n)).toList)=false:=(by rw[bne,q1];rfl);have q:H (cO s.1.toList=O G):=(by show _=_;rw[A.o,ak ⟨HFL.o,z⟩]);have HEL:H (4+(n:Int)=((aJ G).length:Int)):=(by show _=_;rw[z,dQ,tZ h5];omega);clear z;refine wp_region_quiet_below kr kr ?_
    repeat (go_big_quiet_step (first|with_reducible exact Calls.regrown_of (mN G p g _ (l.o.a (below_regrown _ _ _) nl))|with_reducible exact Calls.regrown_of (qp G p g _ (l.o.a (below_regrown _ _ _) nl) X.o)))
    refine gq ?_;intro _ k;obtain⟨⟨u,i⟩,j⟩:=k;subst j;clear k0 k1 k2;obtain⟨V,r⟩:∃V,V=Go.Sort.grow (redrawn W u) i:=⟨_,rfl⟩;have f:B W.1.size W V:=(by rw[r];exact below_regrown _ _ _);show Exit.then _ _ _ _ (Go.Sort.grow (redrawn W u) i);rw[<-r];clear r;obtain⟨U,C,K,y0,y1,y2⟩:=HZ.o.a f om;have d0:=dC f (by show w.1.size+1<W.1.size;omega) D;have d1:=dC f (by show w.1.size+1<W.1.size;omega) R;have d2:=dC f (by show w.1.size+1<W.1.size;omega) S;have L:H (B w.1.size w V):=x.o.t (f.m om);have F:H (eU V (w.1.size+2) (M p G.a.length g) G.a):=⟨tz HRO.o.a f nl⟩;clear f D R S;go_wp2;refine bK (v:=Ψ #[.agg #[I Q G.b,M p G.a.length g,I Q G.c],I Q (4+n)]) (by simp[results,results82,go_sem,U,C,K]) rfl ?_;refine wA q.o rfl HEL.o ?_ ?_
    ·exact(((F.o.b (by show w.1.size<_;omega) _).b (by show w.1.size<_;omega) _).b (by show w.1.size<_;omega) _).d om
    exact((L.o.c nl _).c nl _).c nl _
   have q1:((aM (aJ G)).toList == (s.extract 0 (4+n)).toList)=false:=(by rw[cY,cY,ny];simpa using z);have q2:((aM (aJ G)).toList != (s.extract 0 (4+n)).toList)=true:=(by rw[bne,q1];rfl);have q:H (cO s.1.toList=J):=(by show _=_;rw[A.o,ag (λh=>z h.2)]);clear z;refine wp_region_quiet_below kr kr ?_
   repeat (go_big_quiet_step (first|with_reducible exact Calls.regrown_of (mN G p g _ (l.o.a (below_regrown _ _ _) nl))|with_reducible exact Calls.regrown_of (qp G p g _ (l.o.a (below_regrown _ _ _) nl) X.o)))
   refine gq ?_;intro _ k;obtain⟨⟨u,i⟩,j⟩:=k;subst j;clear k0 k1 k2;obtain⟨V,r⟩:∃V,V=Go.Sort.grow (redrawn W u) i:=⟨_,rfl⟩;have f:B W.1.size W V:=(by rw[r];exact below_regrown _ _ _);show Exit.then _ _ _ _ (Go.Sort.grow (redrawn W u) i);rw[<-r];clear r;obtain⟨U,C,K,y0,y1,y2⟩:=HZ.o.a f om;have L:H (B w.1.size w V):=x.o.t (f.m om);clear f D R S;go_wp2;refine bK (v:=Ψ #[.agg #[I Q 0,M J 0 0,I Q 0],I Q 0]) (by simp[results,results82,go_sem,U,C,K]) rfl ?_;exact nk q.o rfl (((L.o.c nl _).c nl _).c nl _)
  have hfd:decide ((0:Int)<((ch G:Nat):Int))=true:=(by simp;omega);have hfe:decide (0<ch G)=true:=(by simp;omega);have q:H (cO s.1.toList=J):=(by show _=_;rw[A.o,ag (λh=>y h.1)]);clear y;refine wp_region_quiet_below kr kr ?_
  repeat (go_big_quiet_step (with_reducible exact Calls.regrown_of (mN G p g _ (l.o.a (below_regrown _ _ _) nl))))
  refine gq ?_;intro _ k;obtain⟨⟨u,i⟩,j⟩:=k;subst j;clear k0 k1 k2;obtain⟨V,r⟩:∃V,V=Go.Sort.grow (redrawn W u) i:=⟨_,rfl⟩;have f:B W.1.size W V:=(by rw[r];exact below_regrown _ _ _);show Exit.then _ _ _ _ (Go.Sort.grow (redrawn W u) i);rw[<-r];clear r;obtain⟨U,C,K,y0,y1,y2⟩:=HZ.o.a f om;have L:H (B w.1.size w V):=x.o.t (f.m om);clear f D R S;go_wp2;refine bK (v:=Ψ #[.agg #[I Q 0,M J 0 0,I Q 0],I Q 0]) (by simp[results,results82,go_sem,U,C,K]) rfl ?_;exact nk q.o rfl (((L.o.c nl _).c nl _).c nl _)
 go_enter func82,ntmps82;go_upto_region 13 with fail
 obtain⟨p,g,hTl⟩:∃p g,uG ((w.alloc (Δ #[I Q 0,M J 0 0,I Q 0] 105)).alloc (Δ #[I Q (s[2].toNat:Int),M J 0 0,I Q 0] 105)) w G p g:=⟨J,0,by rw[HGG.o];exact zM w _ _⟩;generalize (w.alloc (Δ #[I Q 0,M J 0 0,I Q 0] 105)).alloc (Δ #[I Q (s[2].toNat:Int),M J 0 0,I Q 0] 105)=W at *;obtain⟨D,R,S,hZ,P,E,T,hWs⟩:=hTl;have HZ:H (mo W w.1.size):=hZ;have HRO:H (eU W (w.1.size+2) (M p G.a.length g) G.a):=P;have l:H (de W p G.a):=E;have x:H (B w.1.size w W):=T;clear hZ P E T;have k0:=ng D;have k1:=ng R;have k2:=ng S;by_cases y:ch G=0
 ·have X:H (eC G):=nu.1 y;have hfd:decide ((0:Int)<((ch G:Nat):Int))=false:=(by rw[y];rfl);have hfe:decide (0<ch G)=false:=(by rw[y];rfl);have HFL:H (ch G=0):=y;clear y;by_cases z:aJ G=(s.extract 0 (4+n)).1.toList
  ·have q1:((aM (aJ G)).toList == (s.extract 0 (4+n)).toList)=true:=(by rw[cY,cY,ny,z];simp);have q2:((aM (aJ G)).toList != (s.extract 0 (4+n)).toList)=false:=(by rw[bne,q1];rfl);have q:H (cO s.1.toList=O G):=(by show _=_;rw[A.o,ak ⟨HFL.o,z⟩]);have HEL:H (4+(n:Int)=((aJ G).length:Int)):=(by show _=_;rw[z,dQ,tZ h5];omega);clear z;refine wp_region_quiet_below kr kr ?_
   repeat (go_big_quiet_step (first|with_reducible exact Calls.regrown_of (mN G p g _ (l.o.a (below_regrown _ _ _) nl))|with_reducible exact Calls.regrown_of (qp G p g _ (l.o.a (below_regrown _ _ _) nl) X.o)))
   refine gq ?_;intro _ k;obtain⟨⟨u,i⟩,j⟩:=k;subst j;clear k0 k1 k2;obtain⟨V,r⟩:∃V,V=Go.Sort.grow (redrawn W u) i:=⟨_,rfl⟩;have f:B W.1.size W V:=(by rw[r];exact below_regrown _ _ _);show Exit.then _ _ _ _ (Go.Sort.grow (redrawn W u) i);rw[<-r];clear r;obtain⟨U,C,K,y0,y1,y2⟩:=HZ.o.a f om;have d0:=dC f (by show w.1.size+1<W.1.size;omega) D;have d1:=dC f (by show w.1.size+1<W.1.size;omega) R;have d2:=dC f (by show w.1.size+1<W.1.size;omega) S;have L:H (B w.1.size w V):=x.o.t (f.m om);have F:H (eU V (w.1.size+2) (M p G.a.length g) G.a):=⟨tz HRO.o.a f nl⟩;clear f D R S;go_wp2;refine bK (v:=Ψ #[.agg #[I Q G.b,M p G.a.length g,I Q G.c],I Q (4+n)]) (by simp[results,results82,go_sem,U,C,K]) rfl ?_;refine wA q.o rfl HEL.o ?_ ?_
   ·exact(((F.o.b (by show w.1.size<_;omega) _).b (by show w.1.size<_;omega) _).b (by show w.1.size<_;omega) _).d om
   exact((L.o.c nl _).c nl _).c nl _
  have q1:((aM (aJ G)).toList == (s.extract 0 (4+n)).toList)=false:=(by rw[cY,cY,ny];simpa using z);have q2:((aM (aJ G)).toList != (s.extract 0 (4+n)).toList)=true:=(by rw[bne,q1];rfl);have q:H (cO s.1.toList=J):=(by show _=_;rw[A.o,ag (λh=>z h.2)]);clear z;refine wp_region_quiet_below kr kr ?_
  repeat (go_big_quiet_step (first|with_reducible exact Calls.regrown_of (mN G p g _ (l.o.a (below_regrown _ _ _) nl))|with_reducible exact Calls.regrown_of (qp G p g _ (l.o.a (below_regrown _ _ _) nl) X.o)))
  refine gq ?_;intro _ k;obtain⟨⟨u,i⟩,j⟩:=k;subst j;clear k0 k1 k2;obtain⟨V,r⟩:∃V,V=Go.Sort.grow (redrawn W u) i:=⟨_,rfl⟩;have f:B W.1.size W V:=(by rw[r];exact below_regrown _ _ _);show Exit.then _ _ _ _ (Go.Sort.grow (redrawn W u) i);rw[<-r];clear r;obtain⟨U,C,K,y0,y1,y2⟩:=HZ.o.a f om;have L:H (B w.1.size w V):=x.o.t (f.m om);clear f D R S;go_wp2;refine bK (v:=Ψ #[.agg #[I Q 0,M J 0 0,I Q 0],I Q 0]) (by simp[results,results82,go_sem,U,C,K]) rfl ?_;exact nk q.o rfl (((L.o.c nl _).c nl _).c nl _)
 have hfd:decide ((0:Int)<((ch G:Nat):Int))=true:=(by simp;omega);have hfe:decide (0<ch G)=true:=(by simp;omega);have q:H (cO s.1.toList=J):=(by show _=_;rw[A.o,ag (λh=>y h.1)]);clear y;refine wp_region_quiet_below kr kr ?_
 repeat (go_big_quiet_step (with_reducible exact Calls.regrown_of (mN G p g _ (l.o.a (below_regrown _ _ _) nl))))
 refine gq ?_;intro _ k;obtain⟨⟨u,i⟩,j⟩:=k;subst j;clear k0 k1 k2;obtain⟨V,r⟩:∃V,V=Go.Sort.grow (redrawn W u) i:=⟨_,rfl⟩;have f:B W.1.size W V:=(by rw[r];exact below_regrown _ _ _);show Exit.then _ _ _ _ (Go.Sort.grow (redrawn W u) i);rw[<-r];clear r;obtain⟨U,C,K,y0,y1,y2⟩:=HZ.o.a f om;have L:H (B w.1.size w V):=x.o.t (f.m om);clear f D R S;go_wp2;refine bK (v:=Ψ #[.agg #[I Q 0,M J 0 0,I Q 0],I Q 0]) (by simp[results,results82,go_sem,U,C,K]) rfl ?_;exact nk q.o rfl (((L.o.c nl _).c nl _).c nl _)
theorem Ou(s:ByteArray)(n:Nat)(w:Ω)(hs:s.size<=100000)(h4:4<=s.size)(h0:((s[0].toNat:Int) != 165)=false)(hn:s[1].toNat=n)(h1:n<=44)(h5:4+n<=s.size)(hsp:da s.1.toList=4+n)(hT:s[2].toNat=3)(h3:n=1):
  Φ prog 82 #[Z s] w (qr s w):=by
 have F:0<(s.extract 3 (3+n)).size:=by rw[pM];omega
 obtain⟨x,hx⟩:∃x:Int,x=((s.extract 3 (3+n))[0].toNat:Int):=⟨_,rfl⟩;obtain⟨G,hG⟩:∃G:bf,G=⟨3,[],x⟩:=⟨_,rfl⟩;have U:mM (s.extract 0 (4+n)).1.toList=G:=by rw[zh h5,ag om,ak ⟨hT,h3⟩,hG,hT,hx,<-jP F,DK h5 om,kP,en,rK om,pR,<-jP om,en];rfl
 have y:=yE h5 hsp;rw[U]at y;have z:H (cO s.1.toList=if ch G=0/\aJ G=(s.extract 0 (4+n)).1.toList then O G else J):=y;have HGG:H (G=⟨3,[],x⟩):=hG;have Hx:H (x=((s.extract 3 (3+n))[0].toNat:Int)):=hx;have HXs:H (0<(s.extract 3 (3+n)).size):=F;have hnI:(s[1].toNat:Int)=n:=om;have a0:(0:Int)<s.size:=om;have a1:(1:Int)<s.size:=om;have a2:(2:Int)<s.size:=om;have a4:decide ((s.size:Int)<4)=false:=by simp;omega
 have b1:decide ((44:Int)<n)=false:=by simp;omega
 have b5:decide ((s.size:Int)<4+n)=false:=by simp;omega
 have b5':4+(n:Int)<=s.size:=om;have b5'':3+(n:Int)<=s.size:=om;have hTI:(s[2].toNat:Int)=3:=om;have hn1:((n:Int) == 1)=true:=by simp;omega
 clear U y hG hT h3 hn hsp hx;go_enter func82,ntmps82;go_upto_region 12 with fail
 obtain⟨X,hX⟩:∃X,X=s.extract 3 (3+n):=⟨_,rfl⟩;have hX0:0<X.size:=by rw[hX];exact HXs.o
 have hX0I:(0:Int)<X.size:=om;have HxX:H (x=(X[0].toNat:Int)):=by subst hX;exact Hx.o
 have hXl:=X[0].toNat_lt;rw[<-hX];clear hX;go_upto_region 13 with fail
 rw[<-HxX.o];obtain⟨p,f,hTl⟩:∃p f,uG ((w.alloc (Δ #[I Q 0,M J 0 0,I Q 0] 105)).alloc (Δ #[I Q 3,M J 0 0,I Q x] 105)) w G p f:=⟨J,0,by rw[HGG.o];exact zM w _ _⟩;generalize (w.alloc (Δ #[I Q 0,M J 0 0,I Q 0] 105)).alloc (Δ #[I Q 3,M J 0 0,I Q x] 105)=W at *;obtain⟨E,T,f2,hZ,S,K,hBW,hWs⟩:=hTl;have HZ:H (mo W w.1.size):=hZ;have HRO:H (eU W (w.1.size+2) (M p G.a.length f) G.a):=S;have k:H (de W p G.a):=K;have u:H (B w.1.size w W):=hBW;clear hZ S K hBW;have k0:=ng E;have k1:=ng T;have k2:=ng f2;by_cases A:ch G=0
 ·have hok:H (eC G):=nu.1 A;have hfd:decide ((0:Int)<((ch G:Nat):Int))=false:=by rw[A];rfl
  have hfe:decide (0<ch G)=false:=by rw[A];rfl
  have HFL:H (ch G=0):=A;clear A;by_cases C:aJ G=(s.extract 0 (4+n)).1.toList
  ·have q1:((aM (aJ G)).toList == (s.extract 0 (4+n)).toList)=true:=(by rw[cY,cY,ny,C];simp);have q2:((aM (aJ G)).toList != (s.extract 0 (4+n)).toList)=false:=(by rw[bne,q1];rfl);have l:H (cO s.1.toList=O G):=(by show _=_;rw[z.o,ak ⟨HFL.o,C⟩]);have HEL:H (4+(n:Int)=((aJ G).length:Int)):=(by show _=_;rw[C,dQ,tZ h5];omega);clear C;refine wp_region_quiet_below kr kr ?_
   repeat (go_big_quiet_step (first|with_reducible exact Calls.regrown_of (mN G p f _ (k.o.a (below_regrown _ _ _) nl))|with_reducible exact Calls.regrown_of (qp G p f _ (k.o.a (below_regrown _ _ _) nl) hok.o)))
   refine gq ?_;intro _ j;obtain⟨⟨r,g⟩,i⟩:=j;subst i;clear k0 k1 k2;obtain⟨V,q⟩:∃V,V=Go.Sort.grow (redrawn W r) g:=⟨_,rfl⟩;have e:B W.1.size W V:=(by rw[q];exact below_regrown _ _ _);show Exit.then _ _ _ _ (Go.Sort.grow (redrawn W r) g);rw[<-q];clear q;obtain⟨z0,D,P,y0,y1,y2⟩:=HZ.o.a e om;have d0:=dC e (by show w.1.size+1<W.1.size;omega) E;have d1:=dC e (by show w.1.size+1<W.1.size;omega) T;have d2:=dC e (by show w.1.size+1<W.1.size;omega) f2;have R:H (B w.1.size w V):=u.o.t (e.m om);have L:H (eU V (w.1.size+2) (M p G.a.length f) G.a):=⟨tz HRO.o.a e nl⟩;clear e E T f2;go_wp2;refine bK (v:=Ψ #[.agg #[I Q G.b,M p G.a.length f,I Q G.c],I Q (4+n)]) (by simp[results,results82,go_sem,z0,D,P]) rfl ?_;refine wA l.o rfl HEL.o ?_ ?_
   ·exact(((L.o.b (by show w.1.size<_;omega) _).b (by show w.1.size<_;omega) _).b (by show w.1.size<_;omega) _).d om
   exact((R.o.c nl _).c nl _).c nl _
  have q1:((aM (aJ G)).toList == (s.extract 0 (4+n)).toList)=false:=(by rw[cY,cY,ny];simpa using C);have q2:((aM (aJ G)).toList != (s.extract 0 (4+n)).toList)=true:=(by rw[bne,q1];rfl);have l:H (cO s.1.toList=J):=(by show _=_;rw[z.o,ag (λh=>C h.2)]);clear C;refine wp_region_quiet_below kr kr ?_
  repeat (go_big_quiet_step (first|with_reducible exact Calls.regrown_of (mN G p f _ (k.o.a (below_regrown _ _ _) nl))|with_reducible exact Calls.regrown_of (qp G p f _ (k.o.a (below_regrown _ _ _) nl) hok.o)))
  refine gq ?_;intro _ j;obtain⟨⟨r,g⟩,i⟩:=j;subst i;clear k0 k1 k2;obtain⟨V,q⟩:∃V,V=Go.Sort.grow (redrawn W r) g:=⟨_,rfl⟩;have e:B W.1.size W V:=(by rw[q];exact below_regrown _ _ _);show Exit.then _ _ _ _ (Go.Sort.grow (redrawn W r) g);rw[<-q];clear q;obtain⟨z0,D,P,y0,y1,y2⟩:=HZ.o.a e om;have R:H (B w.1.size w V):=u.o.t (e.m om);clear e E T f2;go_wp2;refine bK (v:=Ψ #[.agg #[I Q 0,M J 0 0,I Q 0],I Q 0]) (by simp[results,results82,go_sem,z0,D,P]) rfl ?_;exact nk l.o rfl (((R.o.c nl _).c nl _).c nl _)
 have hfd:decide ((0:Int)<((ch G:Nat):Int))=true:=by simp;omega
 have hfe:decide (0<ch G)=true:=by simp;omega
 have l:H (cO s.1.toList=J):=by show _=_;rw[z.o,ag (λh=>A h.1)]
 clear A;refine wp_region_quiet_below kr kr ?_
 repeat (go_big_quiet_step (with_reducible exact Calls.regrown_of (mN G p f _ (k.o.a (below_regrown _ _ _) nl))))
 refine gq ?_;intro _ j;obtain⟨⟨r,g⟩,i⟩:=j;subst i;clear k0 k1 k2;obtain⟨V,q⟩:∃V,V=Go.Sort.grow (redrawn W r) g:=⟨_,rfl⟩;have e:B W.1.size W V:=by rw[q];exact below_regrown _ _ _
 show Exit.then _ _ _ _ (Go.Sort.grow (redrawn W r) g);rw[<-q];clear q;obtain⟨z0,D,P,y0,y1,y2⟩:=HZ.o.a e om;have R:H (B w.1.size w V):=u.o.t (e.m om);clear e E T f2;go_wp2;refine bK (v:=Ψ #[.agg #[I Q 0,M J 0 0,I Q 0],I Q 0]) (by simp[results,results82,go_sem,z0,D,P]) rfl ?_;exact nk l.o rfl (((R.o.c nl _).c nl _).c nl _)
end
section
open Go.RowKit
theorem xW{z:Int}(a:0<=z)(b:z<=10000):IntKind.i64.wrap z=z:=by simp[IntKind.wrap,IntKind.bits,IntKind.signed];omega
structure oz (V w:Ω) (X:ByteArray) (k:Nat) (p:Option Addr) (cap:Nat):Prop where
 d:V.cell? ⟨w.1.size+1,0,J⟩=O (I Q 1)
 b:V.cell? ⟨w.1.size+1,1,J⟩=O (M p k cap)
 f:V.cell? ⟨w.1.size+1,2,J⟩=O (I Q 0)
 g:V.frozen? ⟨w.1.size+1,1,J⟩=false
 h:mo V w.1.size
 c:eU V (w.1.size+2) (M p k cap) ((List.range k).map (fK X.1.toList))
 e:B w.1.size w V
 a:w.1.size+2<=V.1.size
theorem oz.m(w:Ω)(X:ByteArray):oz ((w.alloc (Δ #[I Q 0,M J 0 0,I Q 0] 105)).alloc (Δ #[I Q 1,M J 0 0,I Q 0] 105)) w X 0 J 0 where
 d:=by go_simp
 b:=by go_simp
 f:=by go_simp
 g:=by go_simp
 h:=⟨by go_simp,by go_simp,by go_simp,by go_simp,by go_simp,by go_simp⟩
 c:=eU.c _ _
 e:=((aj _ w).l nl _).l sm _
 a:=by simp
theorem vf{V:Ω}{a b:Addr}{v u:Value}(h:V.cell? a=O v)(d:a.block≠b.block\/a.off≠b.off)(g:a.spot=J)(i:b.spot=J):(V.setCell b u).cell? a=O v:=by
 obtain⟨k,l,j⟩:=a;obtain⟨f,n,m⟩:=b;simp only at g i d;subst g i;unfold World.cell? World.setCell at *;simp only[dU]at *;by_cases e:f=k
 ·subst e;rw[ak rfl];cases hx:V.1[f]? with
 |none=>rw[hx]at h;cases h
 |some o=>
   rw[hx]at h;cases o with
  |cells c t fr=>
    simp at h⊢;rw[oP,ag (by rcases d with h|h;exact absurd rfl h;exact λe=>h e.symm)];exact h
  |_=>simp at h
 rw[ag e];exact h
theorem wI{V:Ω}{a b:Addr}{u:Value}(h:V.frozen? a=false):(V.setCell b u).frozen? a=false:=by
 unfold World.frozen? World.setCell at *;simp only[dU]at *;by_cases e:b.block=a.block
 ·rw[ak e];cases hx:V.1[a.block]? with
 |none=>rfl
 |some o=>
   rw[hx]at h;cases o<;>first|exact h|rfl
 rw[ag e];exact h
theorem mo.h{V:Ω}{r:Nat}{b:Addr}{u:Value}(h:mo V r)(a:r≠b.block)(i:b.spot=J):mo (V.setCell b u) r:=
 ⟨vf h.e (af a) rfl i,vf h.f (af a) rfl i,vf h.g (af a) rfl i,wI h.b,wI h.c,wI h.d⟩
theorem Il{V:Ω}{a:Addr}{v u:Value}(h:V.cell? a=O v)(d:a.spot=J):(V.setCell a u).cell? a=O u:=by
  obtain⟨f,g,e⟩:=a;simp only at d;subst d;unfold World.cell? World.setCell at *;simp only[dU]at *;rw[ak aN];cases hx:V.1[f]? with
 |none=>rw[hx]at h;cases h
 |some o=>
   rw[hx]at h;cases o with
  |cells c t fr=>
    simp at h⊢;rw[oP,ak rfl];obtain⟨b,_⟩:=bP.1 h;simp[b]
  |_=>simp at h
theorem oz.j{V n w:Ω}{X:ByteArray}{k g cap l:Nat}{p:Option Addr}(h:oz V w X k p cap)(q:V.grownBy n (M p k cap).ownBlock)
  (r:eU n (w.1.size+2) (M (O ⟨g,0,J⟩) (k+1) l) ((List.range (k+1)).map (fK X.1.toList))):
  oz (n.setCell ⟨w.1.size+1,1,J⟩ (M (O ⟨g,0,J⟩) (k+1) l)) w X (k+1) (O ⟨g,0,J⟩) l:=by
 have o:=h.c.a.lt;have i:B (w.1.size+2) V n:=br.grown q h.a (λj s=>(o j s).1);have v:=h.a;have u:=i.size
 exact {
  d:=vf (dC i (by show w.1.size+1<_;omega) h.d) (ah sm) rfl rfl
  b:=Il (dC i (by show w.1.size+1<_;omega) h.b) rfl
  f:=vf (dC i (by show w.1.size+1<_;omega) h.f) (ah sm) rfl rfl
  g:=wI (nv i (by show w.1.size+1<_;omega) h.g)
  h:=(h.h.a i om).h (by show w.1.size≠w.1.size+1;omega) rfl
  c:=r.b (by show w.1.size+1<_;omega) _
  e:=(h.e.t (i.m om)).c (by show w.1.size<=w.1.size+1;omega) _
  a:=by show w.1.size+2<=(n.1.modify _ _).size;rw[Array.size_modify];omega }
theorem oz.i{V e w:Ω}{X:ByteArray}{k cap:Nat}{p:Option Addr}(h:oz V w X k p cap)(l:V.grownBy e (M p k cap).ownBlock):
  e.cell? ⟨w.1.size+1,1,J⟩=O (M p k cap)/\e.frozen? ⟨w.1.size+1,1,J⟩=false:=by
 have f:=h.c.a.lt;have d:B (w.1.size+2) V e:=br.grown l h.a (λj m=>(f j m).1);exact⟨dC d (by show w.1.size+1<_;omega) h.b,nv d (by show w.1.size+1<_;omega) h.g⟩
theorem oz.l{V w:Ω}{X:ByteArray}{k cap:Nat}{p:Option Addr}(h:oz V w X k p cap)(o:Obj):oz ((V.alloc o).drew) w X k p cap:=by
 have i:B V.1.size V ((V.alloc o).drew):=((aj _ V).l nl o).drew;have j:=h.a
 exact {
  d:=dC i (by show w.1.size+1<_;omega) h.d
  b:=dC i (by show w.1.size+1<_;omega) h.b
  f:=dC i (by show w.1.size+1<_;omega) h.f
  g:=nv i (by show w.1.size+1<_;omega) h.g
  h:=h.h.a i om
  c:=⟨tz h.c.a i nl⟩
  e:=h.e.t (i.m om)
  a:=aP h.a i.size }
theorem Mg(s:ByteArray)(n:Nat)(w:Ω)(hs:s.size<=100000)(h4:4<=s.size)(h0:((s[0].toNat:Int) != 165)=false)(hn:s[1].toNat=n)(h1:n<=44)(h5:4+n<=s.size)(hsp:da s.1.toList=4+n)(hT:s[2].toNat=1):
  Φ prog 82 #[Z s] w (qr s w):=by
 obtain⟨i0,hi,hz0,hz1,hz2⟩:=tE Fi;have hXs:(s.extract 3 (3+n)).size=n:=by rw[pM];omega
 obtain⟨G,hG⟩:∃G:bf,G=⟨1,jd (s.extract 3 (3+n)).1.toList,0⟩:=⟨_,rfl⟩;have hGR:mM (s.extract 0 (4+n)).1.toList=G:=by rw[zh h5,ak hT,ag om,hG,hT];rfl
 have hFG:=yE h5 hsp;rw[hGR]at hFG;have HFG:H (cO s.1.toList=if ch G=0/\aJ G=(s.extract 0 (4+n)).1.toList then O G else J):=hFG;have HGG:H (G=⟨1,jd (s.extract 3 (3+n)).1.toList,0⟩):=hG;have HXs:H ((s.extract 3 (3+n)).size=n):=hXs;have hnI:(s[1].toNat:Int)=n:=om;have a0:(0:Int)<s.size:=om;have a1:(1:Int)<s.size:=om;have a2:(2:Int)<s.size:=om;have a4:decide ((s.size:Int)<4)=false:=by simp;omega
 have b1:decide ((44:Int)<n)=false:=by simp;omega
 have b5:decide ((s.size:Int)<4+n)=false:=by simp;omega
 have b5':4+(n:Int)<=s.size:=om;have b5'':3+(n:Int)<=s.size:=om;have hTI:(s[2].toNat:Int)=1:=om;clear hGR hFG hG hT hn hsp hXs;go_enter func82,ntmps82;go_upto_region 7 with fail
 obtain⟨X,hX⟩:∃X,X=s.extract 3 (3+n):=⟨_,rfl⟩;have HX:H (X=s.extract 3 (3+n)):=hX;have a6:H (X.size=n):=by show _=_;rw[hX];exact HXs.o
 rw[<-hX];clear hX;have L:=oz.m w X;generalize (w.alloc (Δ #[I Q 0,M J 0 0,I Q 0] 105)).alloc (Δ #[I Q 1,M J 0 0,I Q 0] 105)=V0 at *;have HM:H (oz V0 w X 0 J 0):=L;clear L;go_wp2;go_loopw [7] (λi V=>∃(k r:Nat) (p:Option Addr) (x:Nat),r=11*k/\r<=n/\i=I Q r/\oz V w X k p x) (λi _=>n-(intOf i).toNat)
 case atStart=>exact⟨0,0,J,0,rfl,aX _,rfl,HM.o⟩
 obtain⟨k,r,p,x,hIk,hI,rfl,L⟩:=hrel;have T:H (r=11*k):=hIk;clear hIk;by_cases hlt:r+11<=n
 case pos=>
  have a8:H (∀o,oz ((wr.alloc o).drew) w X k p x):=λo=>L.l o;obtain⟨e0,e1,e2,ge1,hZ,ab,hbw,hsw⟩:=L;have e1':∀o,(wr.alloc o).cell? ⟨w.1.size+1,1,J⟩=O (M p k x):=λo=>(a8.o o).b;have hltD:decide ((r:Int)+11<=n)=true:=(by simp;omega);have hltI:(r:Int)+11<=n:=om;have x0:(r:Int)<X.size:=(by rw[a6.o];omega);have x1:(r:Int)+1<X.size:=(by rw[a6.o];omega);have x2:(r:Int)+2<X.size:=(by rw[a6.o];omega);have x11:(r:Int)+11<=X.size:=(by rw[a6.o];omega);have y0:r<X.size:=om;have y1:r+1<X.size:=om;have y2:r+2<X.size:=om;have y11:r+11<=X.size:=om;have xu0:=X[r].toNat_lt;have xu1:=X[r+1].toNat_lt;have xu2:=X[r+2].toNat_lt;have hI44:(r:Int)<=44:=om;have sl:∀wx:Ω,(Instr.slice 9 (Z X) (O (I Q ((r:Int)+3))) (O (I Q ((r:Int)+11))) J).run prog wx=.ok (Z (X.extract (r+3) (r+11))) wx:=λwx=>(by have:=run_slice_string (P:=prog) wx 9 X Q Q ((r:Int)+3) ((r:Int)+11) underlying9 om om om;rw[this,show ((r:Int)+3).toNat=r+3 by omega,show ((r:Int)+11).toNat=r+11 by omega]);have p1:(0:Int)<=(r:Int)+1:=om;have p2:(0:Int)<=(r:Int)+2:=om;have t1:((r:Int)+1).toNat=r+1:=om;have t2:((r:Int)+2).toNat=r+2:=om;obtain⟨q,hO⟩:∃q:Obj,q=Δ #[I Q (X[r].toNat:Int),I Q (X[r+1].toNat:Int),I Q (X[r+2].toNat:Int),Z (X.extract (r+3) (r+11))] 102:=⟨_,rfl⟩;obtain⟨ys,a3⟩:∃ys:List Value,ys=[I Q (X[r].toNat:Int),I Q (X[r+1].toNat:Int),I Q (X[r+2].toNat:Int),Z (X.extract (r+3) (r+11))]:=⟨_,rfl⟩;have HRD:H (kZ (fK X.1.toList k)=[I Q (X[r].toNat:Int),I Q (X[r+1].toNat:Int),I Q (X[r+2].toNat:Int),Z (X.extract (r+3) (r+11))]):=by show _=_;unfold fK uF kZ;rw[<-T.o,Cd,en,en,en,pR,pR,pR,List.drop_drop,<-en,<-en,<-en,Nat.add_zero,jP y0,jP y1,jP y2,show r+11-(r+3)=8 by omega];rfl
  have HW:H (∀j u,ys[j]?=O u->((wr.alloc q).drew).cell? ((⟨wr.1.size,0,J⟩:Addr).add j)=O u):=by
   intro j u R;subst a3 hO;rw[sh]
   match j,R with
  |0,R=>simp at R;subst R;simp
  |1,R=>simp at R;subst R;simp
  |2,R=>simp at R;subst R;simp
  |3,R=>simp at R;subst R;simp
  have H1:H (∀u∈ys,u.oneCell'=true):=by intro u hu;subst a3;simp at hu;rcases hu with rfl|rfl|rfl|rfl<;>rfl
  have HL:H (((List.range k).map (fK X.1.toList)).length=k):=(by show _=_;simp);have HOW:H (((wr.alloc q).drew).ownsRow (w.1.size+2) 102 4 (M p k x) k (((List.range k).map (fK X.1.toList)).flatMap kZ)):=(by have h:=(ab.a.alloc q);rw[HL.o]at h;exact h);have HYL:H (ys.length=1*4):=(by show _=_;rw[a3];rfl);have HML:H (k+1<=maxLen):=(by show _<=_;have:=T.o;unfold maxLen;omega);have HBY:H ((k+1)*40<=140737488355328):=(by show _<=_;have:=T.o;omega);have HBS:H (w.1.size+2<=((wr.alloc q).drew).1.size):=(by show _<=_;simp;omega);have HHS:H (((wr.alloc q).drew).1.size=wr.1.size+1):=(by show _=_;simp);have HYY:H (ys=[I Q (X[r].toNat:Int),I Q (X[r+1].toNat:Int),I Q (X[r+2].toNat:Int),Z (X.extract (r+3) (r+11))]):=a3;subst hO;clear a3 ab hbw hZ;go_upto_region 10 with fail
  refine fG (S:=λ_=>True) kr aN (λ_=>?_);refine ar 0 51 (Y (O ⟨w.1.size+1,1,J⟩)) aN ?_;refine ar 2 53 (Z X) aN ?_;refine ar 3 54 (I Q r) aN ?_;refine ar 4 55 (I .u8 (X[r].toNat:Int)) aN ?_;refine aF 5 56 (I Q (X[r].toNat:Int)) rfl rfl kr (λ_ _ _ h=>h) (af ⟨by rfl,λwx _=>by go_simp;exact uA _⟩) aN ?_;simp only[Act.put,az,aA,aB];refine ar 6 57 (Z X) aN ?_;refine ar 7 58 (I Q r) aN ?_;refine aF 8 59 (I Q ((r:Int)+1)) rfl rfl kr (λ_ _ _ h=>h) (af ⟨by rfl,λwx _=>by go_simp;exact xW om om⟩) aN ?_;simp only[Act.put,az,aA,aB];refine ar 9 60 (I .u8 (X[r+1].toNat:Int)) aN ?_;refine aF 10 61 (I Q (X[r+1].toNat:Int)) rfl rfl kr (λ_ _ _ h=>h) (af ⟨by rfl,λwx _=>by go_simp;exact uA _⟩) aN ?_;simp only[Act.put,az,aA,aB];refine ar 11 62 (Z X) aN ?_;refine ar 12 63 (I Q r) aN ?_;refine aF 13 64 (I Q ((r:Int)+2)) rfl rfl kr (λ_ _ _ h=>h) (af ⟨by rfl,λwx _=>by go_simp;exact xW om om⟩) aN ?_;simp only[Act.put,az,aA,aB];refine ar 14 65 (I .u8 (X[r+2].toNat:Int)) aN ?_;refine aF 15 66 (I Q (X[r+2].toNat:Int)) rfl rfl kr (λ_ _ _ h=>h) (af ⟨by rfl,λwx _=>by go_simp;exact uA _⟩) aN ?_;simp only[Act.put,az,aA,aB];refine ar 16 67 (Z X) aN ?_;refine ar 17 68 (I Q r) aN ?_;refine aF 18 69 (I Q ((r:Int)+3)) rfl rfl kr (λ_ _ _ h=>h) (af ⟨by rfl,λwx _=>by go_simp;exact xW om om⟩) aN ?_;simp only[Act.put,az,aA,aB];refine ar 19 70 (I Q r) aN ?_;refine aF 20 71 (I Q ((r:Int)+11)) rfl rfl kr (λ_ _ _ h=>h) (af ⟨by rfl,λwx _=>by go_simp;exact xW om om⟩) aN ?_;simp only[Act.put,az,aA,aB];refine ar 21 72 (Z (X.extract (r+3) (r+11))) aN ?_;refine ar 22 73 (.agg #[I Q (X[r].toNat:Int),I Q (X[r+1].toNat:Int),I Q (X[r+2].toNat:Int),Z (X.extract (r+3) (r+11))]) aN ?_;refine a9 (rs:=[1,23]) kr sm ?_;refine aQ rfl (λK C=>?_) (aQ rfl (λK C=>?_) aZ)
  ·go_simp;refine C.out _ _ aN (λ_=>?_);clear C K;refine a9 (rs:=[23]) kr sm ?_;refine aQ rfl (λK C=>?_) aZ;go_simp;refine C.out _ _ aN (λ_=>?_);clear C K;refine a9 (rs:=[24]) kr sm ?_;refine aQ rfl (λK C=>?_) aZ;refine iX _ (by rfl) (.tmp 52) (.tmp 74) 103 (by rfl) (w.1.size+2) 102 i0 (.agg #[I Q 0,I Q 0,I Q 0,Z ⟨#[]⟩]) 4 40 underlying103 hi hz0 hz1 hz2 rfl om (M p k x) k _ (by rfl) HOW.o ⟨wr.1.size,0,J⟩ 1 1 ys (by rfl) HYL.o HW.o H1.o om HML.o HBY.o HBS.o (wr.1.size+1) HHS.o ?_;intro g D w1 A y hat U;refine C.out _ _ aN (λ_=>?_);clear C K;change wpAnyH _ _ _ _ _ _ _ (Act.put _ (O 75) _) _;simp only[Act.put,az,aA,aB];obtain⟨st1,st2⟩:=(a8.o _).i y;have a7:eU w1 (w.1.size+2) (M (O ⟨g,0,J⟩) (k+1) D) ((List.range (k+1)).map (fK X.1.toList)):=(by rw[l8,iY];exact eU.f (by rw[HL.o];exact A) (by rw[HYY.o,HRD.o]));have HNX:H (oz (w1.setCell ⟨w.1.size+1,1,J⟩ (M (O ⟨g,0,J⟩) (k+1) D)) w X (k+1) (O ⟨g,0,J⟩) D):=(a8.o _).j y a7;clear A y hat U a7;refine ar 25 76 (Y (O ⟨w.1.size+1,1,J⟩)) aN ?_;refine a9 (rs:=[26]) kr sm ?_;refine aQ rfl (λK C=>?_) aZ;go_simp;refine C.out _ _ aN (λ_=>?_);clear C K;refine ea kr ?_ _;clear st1 st2;go_wp2;go_roundw
   case rel=>exact⟨k+1,r+11,_,_,by have:=T.o;omega,om,by go_num,HNX.o⟩
   simp[intOf];omega
  go_simp;refine C.out _ _ aN (λ_=>?_);clear C K;refine a9 (rs:=[1]) kr sm ?_;refine aQ rfl (λK C=>?_) aZ;go_simp;refine C.out _ _ aN (λ_=>?_);clear C K;refine a9 (rs:=[24]) kr sm ?_;refine aQ rfl (λK C=>?_) aZ;refine iX _ (by rfl) (.tmp 52) (.tmp 74) 103 (by rfl) (w.1.size+2) 102 i0 (.agg #[I Q 0,I Q 0,I Q 0,Z ⟨#[]⟩]) 4 40 underlying103 hi hz0 hz1 hz2 rfl om (M p k x) k _ (by rfl) HOW.o ⟨wr.1.size,0,J⟩ 1 1 ys (by rfl) HYL.o HW.o H1.o om HML.o HBY.o HBS.o (wr.1.size+1) HHS.o ?_;intro g D w1 A y hat U;refine C.out _ _ aN (λ_=>?_);clear C K;change wpAnyH _ _ _ _ _ _ _ (Act.put _ (O 75) _) _;simp only[Act.put,az,aA,aB];obtain⟨st1,st2⟩:=(a8.o _).i y;have a7:eU w1 (w.1.size+2) (M (O ⟨g,0,J⟩) (k+1) D) ((List.range (k+1)).map (fK X.1.toList)):=(by rw[l8,iY];exact eU.f (by rw[HL.o];exact A) (by rw[HYY.o,HRD.o]));have HNX:H (oz (w1.setCell ⟨w.1.size+1,1,J⟩ (M (O ⟨g,0,J⟩) (k+1) D)) w X (k+1) (O ⟨g,0,J⟩) D):=(a8.o _).j y a7;clear A y hat U a7;refine ar 25 76 (Y (O ⟨w.1.size+1,1,J⟩)) aN ?_;refine a9 (rs:=[26]) kr sm ?_;refine aQ rfl (λK C=>?_) aZ;go_simp;refine C.out _ _ aN (λ_=>?_);clear C K;refine ea kr ?_ _;clear st1 st2;go_wp2;go_roundw
  case rel=>exact⟨k+1,r+11,_,_,by have:=T.o;omega,om,by go_num,HNX.o⟩
  simp[intOf];omega
 have hltI:¬((r:Int)+11<=n):=om;have hltD:decide ((r:Int)+11<=n)=false:=(by simp;omega);have hTl:uG wr w G p x:=(by have hk:jd (s.extract 3 (3+n)).1.toList=(List.range k).map (fK X.1.toList):=(by rw[<-HX.o];unfold jd;rw[dQ,a6.o,show n/11=k by have:=T.o;omega]);have hGk:G=⟨1,(List.range k).map (fK X.1.toList),0⟩:=(by rw[HGG.o,hk]);have hl:((List.range k).map (fK X.1.toList)).length=k:=(by simp);have hon:de wr p ((List.range k).map (fK X.1.toList)):=(by obtain⟨p',c',hv,hr⟩:=L.c.e (by rw[<-hk];exact Ce _);simp at hv;obtain⟨rfl,rfl⟩:=hv;exact hr);rw[hGk];exact⟨L.d,by show _=O (M p ((List.range k).map (fK X.1.toList)).length x);rw[hl];exact L.b,L.f,L.h,by show eU wr _ (M p ((List.range k).map (fK X.1.toList)).length x) _;rw[hl];exact L.c,hon,L.e,L.a⟩);have e0:=L.d;have HTL:H (uG wr w G p x):=hTl
 rename Ω=>W
 clear L hTl;go_upto_region 13 with fail
 clear e0;have hTl:=HTL.o;clear HTL;obtain⟨f0,f1,f2,hZ,hRO,hRN,hBW,hWs⟩:=hTl;have HZ:H (mo W w.1.size):=hZ;have HRO:H (eU W (w.1.size+2) (M p G.a.length x) G.a):=hRO;have ad:H (de W p G.a):=hRN;have HBW:H (B w.1.size w W):=hBW;clear hZ hRO hRN hBW;have k0:=ng f0;have k1:=ng f1;have k2:=ng f2;by_cases hf:ch G=0
 ·have hok:H (eC G):=nu.1 hf;have hfd:decide ((0:Int)<((ch G:Nat):Int))=false:=(by rw[hf];rfl);have hfe:decide (0<ch G)=false:=(by rw[hf];rfl);have HFL:H (ch G=0):=hf;clear hf;by_cases hq:aJ G=(s.extract 0 (4+n)).1.toList
  ·have q1:((aM (aJ G)).toList == (s.extract 0 (4+n)).toList)=true:=(by rw[cY,cY,ny,hq];simp);have q2:((aM (aJ G)).toList != (s.extract 0 (4+n)).toList)=false:=(by rw[bne,q1];rfl);have am:H (cO s.1.toList=O G):=(by show _=_;rw[HFG.o,ak ⟨HFL.o,hq⟩]);have HEL:H (4+(n:Int)=((aJ G).length:Int)):=(by show _=_;rw[hq,dQ,tZ h5];omega);clear hq;refine wp_region_quiet_below kr kr ?_
   repeat (go_big_quiet_step (first|with_reducible exact Calls.regrown_of (mN G p x _ (ad.o.a (below_regrown _ _ _) nl))|with_reducible exact Calls.regrown_of (qp G p x _ (ad.o.a (below_regrown _ _ _) nl) hok.o)))
   refine gq ?_;intro _ a5;obtain⟨⟨dq,E⟩,F⟩:=a5;subst F;clear k0 k1 k2;obtain⟨V,hV⟩:∃V,V=Go.Sort.grow (redrawn W dq) E:=⟨_,rfl⟩;have z:B W.1.size W V:=(by rw[hV];exact below_regrown _ _ _);show Exit.then _ _ _ _ (Go.Sort.grow (redrawn W dq) E);rw[<-hV];clear hV;obtain⟨z0,z1,z2,y0,y1,y2⟩:=HZ.o.a z om;have d0:=dC z (by show w.1.size+1<W.1.size;omega) f0;have d1:=dC z (by show w.1.size+1<W.1.size;omega) f1;have d2:=dC z (by show w.1.size+1<W.1.size;omega) f2;have HB:H (B w.1.size w V):=HBW.o.t (z.m om);have HROV:H (eU V (w.1.size+2) (M p G.a.length x) G.a):=⟨tz HRO.o.a z nl⟩;clear z f0 f1 f2;go_wp2;refine bK (v:=Ψ #[.agg #[I Q G.b,M p G.a.length x,I Q G.c],I Q (4+n)]) (by simp[results,results82,go_sem,z0,z1,z2]) rfl ?_;refine wA am.o rfl HEL.o ?_ ?_
   ·exact(((HROV.o.b (by show w.1.size<_;omega) _).b (by show w.1.size<_;omega) _).b (by show w.1.size<_;omega) _).d om
   exact((HB.o.c nl _).c nl _).c nl _
  have q1:((aM (aJ G)).toList == (s.extract 0 (4+n)).toList)=false:=(by rw[cY,cY,ny];simpa using hq);have q2:((aM (aJ G)).toList != (s.extract 0 (4+n)).toList)=true:=(by rw[bne,q1];rfl);have am:H (cO s.1.toList=J):=(by show _=_;rw[HFG.o,ag (λh=>hq h.2)]);clear hq;refine wp_region_quiet_below kr kr ?_
  repeat (go_big_quiet_step (first|with_reducible exact Calls.regrown_of (mN G p x _ (ad.o.a (below_regrown _ _ _) nl))|with_reducible exact Calls.regrown_of (qp G p x _ (ad.o.a (below_regrown _ _ _) nl) hok.o)))
  refine gq ?_;intro _ a5;obtain⟨⟨dq,E⟩,F⟩:=a5;subst F;clear k0 k1 k2;obtain⟨V,hV⟩:∃V,V=Go.Sort.grow (redrawn W dq) E:=⟨_,rfl⟩;have z:B W.1.size W V:=(by rw[hV];exact below_regrown _ _ _);show Exit.then _ _ _ _ (Go.Sort.grow (redrawn W dq) E);rw[<-hV];clear hV;obtain⟨z0,z1,z2,y0,y1,y2⟩:=HZ.o.a z om;have HB:H (B w.1.size w V):=HBW.o.t (z.m om);clear z f0 f1 f2;go_wp2;refine bK (v:=Ψ #[.agg #[I Q 0,M J 0 0,I Q 0],I Q 0]) (by simp[results,results82,go_sem,z0,z1,z2]) rfl ?_;exact nk am.o rfl (((HB.o.c nl _).c nl _).c nl _)
 have hfd:decide ((0:Int)<((ch G:Nat):Int))=true:=(by simp;omega);have hfe:decide (0<ch G)=true:=(by simp;omega);have am:H (cO s.1.toList=J):=(by show _=_;rw[HFG.o,ag (λh=>hf h.1)]);clear hf;refine wp_region_quiet_below kr kr ?_
 repeat (go_big_quiet_step (with_reducible exact Calls.regrown_of (mN G p x _ (ad.o.a (below_regrown _ _ _) nl))))
 refine gq ?_;intro _ a5;obtain⟨⟨dq,E⟩,F⟩:=a5;subst F;clear k0 k1 k2;obtain⟨V,hV⟩:∃V,V=Go.Sort.grow (redrawn W dq) E:=⟨_,rfl⟩;have z:B W.1.size W V:=(by rw[hV];exact below_regrown _ _ _);show Exit.then _ _ _ _ (Go.Sort.grow (redrawn W dq) E);rw[<-hV];clear hV;obtain⟨z0,z1,z2,y0,y1,y2⟩:=HZ.o.a z om;have HB:H (B w.1.size w V):=HBW.o.t (z.m om);clear z f0 f1 f2;go_wp2;refine bK (v:=Ψ #[.agg #[I Q 0,M J 0 0,I Q 0],I Q 0]) (by simp[results,results82,go_sem,z0,z1,z2]) rfl ?_;exact nk am.o rfl (((HB.o.c nl _).c nl _).c nl _)
theorem IR(s:ByteArray)(w:Ω)(a:s.size<=100000): Φ prog 82 #[Z s] w (qr s w):=by
 rcases Qq s with ⟨h,hf⟩|⟨h4,h0,h1,h5,hsp⟩
 ·exact RK s w a h hf
 by_cases c:s[2].toNat=1
 ·exact Mg s _ w a h4 h0 rfl h1 h5 hsp c
 by_cases b:s[2].toNat=3/\s[1].toNat=1
 ·exact Ou s _ w a h4 h0 rfl h1 h5 hsp b.1 b.2
 exact Oq s _ w a h4 h0 rfl h1 h5 hsp c b
end
section
open Go.RowKit
theorem IS(lb:Nat)(rest s:ByteArray)(n:Nat)(w:Ω){L:qH}(h:dK w lb L rest n)(hs:rest.size+s.size<=100000)(hlo:n<=10000000):
  Φ prog 51 #[Y (O ⟨lb,L.a,J⟩),Z s] w (DG (rest.1.toList++s.1.toList) lb L n w):=by
 obtain⟨i0,hi,hz0,hz1,hz2⟩:=tE Fu;obtain⟨S,hS⟩:∃S,S=rest.1.toList++s.1.toList:=⟨_,rfl⟩;rw[<-hS];have HS:=hid hS;have X:H (S.length=rest.size+s.size):=by show _=_;rw[hS,bU,dQ,dQ]
 have c0:=h.b;have hlb:=h.e;have HL:=hid h;have o1:¬9223372036854775807<rest.size+s.size:=om;clear hS h;go_enter func51,ntmps51;go_wp2;go_loopw [1,5,6,7,8] (λu l _ _ _ V=>∃(t:ByteArray) (y:List bf) (q:Nat),u=Z t/\aW S=(y++(aW t.1.toList).1,q+(aW t.1.toList).2.1,(aW t.1.toList).2.2)/\y.length+q+t.size<=S.length/\gu V w.1.size w.1.size l y/\dK V lb L rest (n+q)/\f7 w.1.size lb w V) (λu _ _ _ _ _=>rh u)
 case atStart=>
  refine⟨rest++s,[],0,rfl,?_,?_,gu.g _ _ _,HL.o,f7.h _ _ _⟩
  ·have e:(rest++s).1.toList=S:=(by rw[HS.o];simp);rw[e];simp
  rw[X.o];simp
 case round=>
  obtain⟨t,y,q,rfl,hfd,hle,hfo,hla,a6⟩:=hrel;rw[X.o]at hle;have a1:=hid hfd;have K:=hid hfo;have x:=hid hla;have C:=hid a6;have hwz:=a6.a;have hts:t.size<=100000:=om;have hal:y.length<=100000:=om;have hqq:q<=100000:=om;have HLE:=hid hle;by_cases a0:t.1.toList=[]
  case pos=>
   have hE:t.size=0:=(by have:=congrArg List.length a0;rw[dQ]at this;exact this);have hEI:¬(0:Int)<t.size:=om;have R:H (aW S=(y,q,t.1.toList)):=(by show _=_;rw[a1.o,a0,sd];simp);have n0:=x.o.b;have nz:=x.o.c L.a;go_wp2;go_ret;refine⟨_,rfl,?_,?_,C.o.f L.a _⟩
   ·rw[R.o];exact K.o.d (by simp[World.setCell]) (λk h1 h2=>bN _ _ _ _ (by show k≠lb;omega))
   rw[R.o];show dK _ lb L (aM t.1.toList) _;rw[tY];exact x.o.f t
  case neg=>
   have HNE:=hid a0;have htp:0<t.size:=(by have:=jl.2 a0;rw[dQ]at this;exact this);have htpI:(0:Int)<t.size:=om;go_wp2_with fail;refine(IR t _ hts).m ?_;rintro e W ⟨v,rfl,G,F⟩;have HB1:=hid F;have hw1:=F.size;have T:=hid (x.o.d (F.block lb x.o.e));have P:=hid (K.o.e F);have E:=hid (C.o.b (oZ (F.m hwz) lb));cases hfr:cO t.1.toList with
  |some f=>
    obtain⟨hok,tl,htl⟩:=rU hfr;have hF:iK t.1.toList=f:=(by unfold iK;rw[hfr]);have hN:jR t.1.toList=(aJ f).length:=(by unfold jR;rw[hfr]);rw[hF]at G⊢;rw[hN];have HFF:=tD hfr;have a5:∀r∈f.a,r.c.size<=maxLen:=λr hr=>(by have:=hok.d r hr;unfold maxLen;omega);obtain⟨p,z,rfl,a3⟩:=G.e a5;have HRON:=hid a3;have a4:f.a≠[]->∃b o,p=O ⟨b,o,J⟩/\wr.1.size<=b/\b<W.1.size:=(by intro hne;obtain⟨g,cp,hv,h1,h2⟩:=G.a.form (jl.2 hne);simp at hv;exact⟨g,0,hv.1,h1,h2⟩);have HBLK:=hid a4;obtain⟨i,a2⟩:∃i,i=(aJ f).length:=⟨_,rfl⟩;have hNp:0<i:=(by rw[a2,jc];omega);have hNt:i<=t.size:=(by have:=congrArg List.length htl;rw[dQ,bU]at this;omega);have hNI:(0:Int)<i:=om;have hNtI:(i:Int)<=t.size:=om;have HNN:=hid a2;have HFFH:H (aW t.1.toList=(f::(aW (t.1.toList.drop (aJ f).length)).1,(aW (t.1.toList.drop (aJ f).length)).2.1,(aW (t.1.toList.drop (aJ f).length)).2.2)):=HFF;rw[<-a2];clear hfr htl hF hN HFF G a3 a4 a2 F hok a5 tl;obtain⟨ps,hpl,a8,hpr⟩:=(P.o.a (Δ #[I Q f.b,M p f.a.length z,I Q f.c] 105)).a (Δ #[I Q f.b,M p f.a.length z,I Q f.c] 105) |>.c;have HPR:=hid hpr;have HPL:=hid hpl;have hnew:∀k,u5.ownBlock=O k->k<wr.1.size:=λk hk=>(by obtain⟨ps',_,ho',_⟩:=K.o.c;exact(ho'.lt k hk).2);have HNEW:=hid hnew;go_wp2_with (at_builtin;refine iB _ rfl _ _ 125 rfl w.1.size 105 i0 (.agg #[I Q 0,M J 0 0,I Q 0]) 3 40 underlying125 hi hz0 hz1 hz2 rfl dc _ _ _ rfl a8 ⟨W.1.size+1,0,J⟩ 1 1 [I Q f.b,M p f.a.length z,I Q f.c] rfl rfl ?q1 ?q2 om ?q3 ?q4 ?q5 (W.1.size+2) ?q6 ?_)
    case q1=>
     intro j u U
     match j,U with
    |0,U=>simp at U;subst U;simp[Addr.add]
    |1,U=>simp at U;subst U;simp[Addr.add]
    |2,U=>simp at U;subst U;simp[Addr.add]
    case q2=>intro u hu;simp at hu;rcases hu with rfl|rfl|rfl<;>rfl
    case q3=>unfold maxLen;omega
    case q4=>omega
    case q5=>simp;omega
    case q6=>simp
    intro g cap' w3 a7 A hat hlt3;have hfo3:gu w3 w.1.size w.1.size (M (O ⟨g,0,J⟩) (y.length+1) cap') (y++[f]):=(by refine gu.h (p:=p) (c:=z) HPL.o HPR.o a7 A (by rcases hat with h|h;exact af h;exact ah (by rw[h];simp)) ((HRON.o.e _).e _) ?_;intro hne;obtain⟨b,o,rfl,h1,h2⟩:=HBLK.o hne;exact⟨b,o,rfl,om,λe=>by have:=HNEW.o b e;omega⟩);have HFO3:=hid hfo3;have hb3:B W.1.size W w3\/True:=ah aN;have hbut3:f7 w.1.size lb w w3:=(by refine E.o.b (oZ ?_ lb);exact(((aj w.1.size W).l om _).l (by simp;omega) _).grown A (by simp;omega) (λk hk=>(a8.lt k hk).1));have HBUT3:=hid hbut3
    have hla3:dK w3 lb L rest (n+q):=T.o.d (by
     have e1:=A.block lb (by simp;omega) (λe=>by have:=(a8.lt lb e.symm).1;omega);rw[e1,cX _ _ _ (by simp;omega),cX _ _ _ om])
    have HLA3:=hid hla3;go_wp2;go_roundw
    case rel=>
     have hd:(t.extract i t.size).1.toList=t.1.toList.drop (aJ f).length:=(by rw[kP,HNN.o,ip];rw[jm,dQ,<-HNN.o];omega);refine⟨t.extract i t.size,y++[f],q,rfl,?_,?_,HFO3.o,HLA3.o,HBUT3.o⟩
     ·rw[hd,a1.o,HFFH.o];simp
     have h1:=HLE.o;rw[X.o,pM];simp;omega
    simp[rh];omega
  |none=>
    have hF:iK t.1.toList=⟨0,[],0⟩:=(by unfold iK;rw[hfr];rfl);have hN:jR t.1.toList=0:=(by unfold jR;rw[hfr]);rw[hF]at G⊢;rw[hN];obtain⟨p,z,rfl,-⟩:=G.e (λr hr=>absurd hr nj);have HFR:=hid hfr;have D:H (∀o,dK (W.alloc o) lb L rest (n+q)):=λo=>T.o.d (cX _ _ _ T.o.e);go_wp2_with fail;refine(Ik t _ hts htp).m ?_;rintro e w2 ⟨rfl,rfl⟩;cases hbg:gU t.1.toList with
   |true=>
     have R:H (aW S=(y,q,t.1.toList)):=(by show _=_;rw[a1.o,wN HNE.o HFR.o hbg];simp);clear hbg x K C;have x:=D;have hla0:dK (W.alloc (Δ #[I Q 0,M p 0 z,I Q 0] 105)) lb L rest (n+q):=D.o _;have hfo0:gu (W.alloc (Δ #[I Q 0,M p 0 z,I Q 0] 105)) w.1.size w.1.size u5 y:=P.o.a _;have hbu0:f7 w.1.size lb w (W.alloc (Δ #[I Q 0,M p 0 z,I Q 0] 105)):=E.o.b (oZ (br.l om _) lb);clear x;have x:=hid hla0;have K:=hid hfo0;have C:=hid hbu0;have n0:=x.o.b;have nz:=x.o.c L.a;go_wp2;go_ret;refine⟨_,rfl,?_,?_,C.o.f L.a _⟩
     ·rw[R.o];exact K.o.d (by simp[World.setCell]) (λk h1 h2=>bN _ _ _ _ (by show k≠lb;omega))
     rw[R.o];show dK _ lb L (aM t.1.toList) _;rw[tY];exact x.o.f t
   |false=>
     have HLO:=hid (ve HNE.o HFR.o hbg);have d1:=(D.o (Δ #[I Q 0,M p 0 z,I Q 0] 105)).g;have dz:=(D.o (Δ #[I Q 0,M p 0 z,I Q 0] 105)).c (L.a+1);have htI:(1:Int)<=t.size:=om;go_wp2;go_roundw
     case rel=>
      have hd:(t.extract 1 t.size).1.toList=t.1.toList.drop 1:=(by rw[kP,ip];rw[jm,dQ];omega);refine⟨t.extract 1 t.size,y,q+1,rfl,?_,?_,?_,?_,?_⟩
      ·rw[hd,a1.o,HLO.o];simp;omega
      ·have h1:=HLE.o;rw[X.o,pM];omega
      ·exact(P.o.a _).d (by simp[World.setCell]) (λk h1 h2=>bN _ _ _ _ (by show k≠lb;omega))
      ·exact(D.o _).h (n+(q+1)) om
      exact(E.o.b (oZ (br.l om _) lb)).f (L.a+1) _
     simp[rh];omega
end
end Go.Proofs.YtlaodjjfmhipnaaGreatDoor
