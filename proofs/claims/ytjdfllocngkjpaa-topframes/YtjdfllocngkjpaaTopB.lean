/-
  TopFrames, walked.
-/
import Derived.Test.YtjdfllocngkjpaaTopC
namespace Go.Proofs.Ytjdfllocngkjpaa.FrmA
open Go.RowKit FrmM
set_option maxRecDepth 100000

theorem bytesOfAll_le (fs : List Fr) (m : Nat) : bytesOfAll (fs.take m) ≤ bytesOfAll fs := by
  have h : bytesOfAll (fs.take m ++ fs.drop m) = bytesOfAll (fs.take m) + bytesOfAll (fs.drop m) := by
    unfold bytesOfAll
    rw [List.map_append, List.sum_append]
  rw [List.take_append_drop] at h
  omega

set_option maxHeartbeats 400000 in
theorem top_large (pl pa : Option Addr) (nl cl na ca : Nat) (raw : ByteArray) (w : World) (h : 12 < nl ∨ (nl ≤ 12 ∧ 600 < raw.size) ∨ (nl ≤ 12 ∧ raw.size ≤ 600 ∧ 40 < na)) :
    Calls Try.prog 5 #[.slice pl nl cl, .string raw, .slice pa na ca] w fun e w' => e = .returned (.bool true) ∧ Below w.heap.size w w' := by
  rcases h with h | ⟨h1, h⟩ | ⟨h1, h2, h⟩
  · have hI : (12 : Int) < nl := by omega
    go_enter Try.func5, Try.ntmps5
    go_wp2
    go_ret
    exact ⟨rfl, Below.refl _ _⟩
  · have h1I : decide ((12 : Int) < nl) = false := by simp; omega
    have hI : (600 : Int) < raw.size := by omega
    go_enter Try.func5, Try.ntmps5
    go_wp2
    go_ret
    exact ⟨rfl, Below.refl _ _⟩
  · have h1I : decide ((12 : Int) < nl) = false := by simp; omega
    have h2I : decide ((600 : Int) < raw.size) = false := by simp; omega
    have hI : (40 : Int) < na := by omega
    go_enter Try.func5, Try.ntmps5
    go_wp2
    go_ret
    exact ⟨rfl, Below.refl _ _⟩

set_option maxHeartbeats 2000000 in
theorem top_small (fs : List Fr) (zs : List Int) (pl pa : Option Addr) (cl ca : Nat) (raw : ByteArray) (w : World) (hf : FramesOn w pl fs) (hz : IntsOn w pa zs) (hl : fs.length ≤ 12) (hr : raw.size ≤ 600) (ha : zs.length ≤ 40) :
    Calls Try.prog 5 #[.slice pl fs.length cl, .string raw, .slice pa zs.length ca] w fun e w' => e = .returned (.bool true) ∧ Below w.heap.size w w' := by
  obtain ⟨i0, hi, hz0, hz1, hz2⟩ := info_parts info24
  obtain ⟨nl, hnl⟩ : ∃ n, n = fs.length := ⟨_, rfl⟩
  obtain ⟨na, hna⟩ : ∃ n, n = zs.length := ⟨_, rfl⟩
  have HNL : Hid (nl = fs.length) := hnl
  have HNA : Hid (na = zs.length) := hna
  have HF : Hid (FramesOn w pl fs) := hf
  have HZ : Hid (IntsOn w pa zs) := hz
  rw [← hnl] at hl ⊢
  rw [← hna] at ha ⊢
  have h1I : decide ((12 : Int) < nl) = false := by simp; omega
  have h2I : decide ((600 : Int) < raw.size) = false := by simp; omega
  have h3I : decide ((40 : Int) < na) = false := by simp; omega
  clear hnl hna hf hz
  go_enter Try.func5, Try.ntmps5
  go_wp2
  go_loopw [7, 8, 9, 10, 11] (fun a g i _ _ V => ∃ k : Nat, k ≤ nl ∧ i = .int .i64 k ∧ a = .string (str ((oks (fs.take k)).flatMap enc)) ∧ FramesOwn V w.heap.size 0 g (oks (fs.take k)) ∧ Below w.heap.size w V) (fun _ _ i _ _ _ => nl - (intOf i).toNat)
  case atStart => exact ⟨0, Nat.zero_le _, rfl, rfl, FramesOwn.nil _ _ _, Below.refl _ _⟩
  case round =>
    obtain ⟨k, hk, rfl, rfl, hfo, hbl⟩ := hrel
    by_cases hlt : k < nl
    case pos =>
      have hkI : (k : Int) < nl := by omega
      have hk' : k < fs.length := by rw [← HNL.out]; exact hlt
      obtain ⟨b, o, rfl, hb, hc⟩ := HF.out.at_ (by intro e; rw [e] at hk'; simp at hk')
      obtain ⟨p, cap, hfa⟩ := hc k _ (List.getElem?_eq_getElem hk')
      have HTK : Hid (fs.take (k + 1) = fs.take k ++ [fs[k]]) := List.take_succ_eq_append_getElem hk'
      have hblk : fs[k].rs ≠ [] → ∃ rb ro, p = some ⟨rb, ro, none⟩ ∧ rb < w.heap.size := fun hne => by
        obtain ⟨rb, ro, h1, h2, _⟩ := hfa.rs.at_ hne
        exact ⟨rb, ro, h1, h2⟩
      have hfa' := hfa.below hbl (Nat.le_refl _) hb
      have hol : (oks (fs.take k)).length ≤ 12 := by have := oks_len (fs.take k); rw [List.length_take] at this; omega
      have hsl : (str ((oks (fs.take k)).flatMap enc)).size ≤ 576 := by rw [str_size]; have := flat_le _ (oks_ok (fs.take k)); omega
      generalize fs[k] = f at *
      obtain ⟨c0, c1, c2, hrs⟩ := hfa'
      have c2' : wr.cell? ⟨b, o + k * 3 + 1 + 1, none⟩ = some (.int .i64 f.wm) := c2
      have HRS : Hid (ReadsOn wr p f.rs) := hrs
      have HBK : Hid (f.rs ≠ [] → ∃ rb ro, p = some ⟨rb, ro, none⟩ ∧ rb < w.heap.size) := hblk
      have HFO : Hid (FramesOwn wr w.heap.size 0 u8 (oks (fs.take k))) := hfo
      have HBL : Hid (Below w.heap.size w wr) := hbl
      have hsz : w.heap.size ≤ wr.heap.size := hbl.size
      clear hc hfa hblk hrs hfo hbl
      by_cases h10 : 10 < f.rs.length
      · have h10I : (10 : Int) < f.rs.length := by omega
        go_wp2
        go_ret
        exact ⟨rfl, HBL.out⟩
      · have h10I : decide ((10 : Int) < f.rs.length) = false := by simp; omega
        go_wp2_with fail
        refine (bytes_any f p cap _ HRS.out).mono ?_
        rintro e w1 ⟨rfl, hb1⟩
        have HB1 : Hid (Below w.heap.size w w1) := HBL.out.trans (hb1.mono hsz)
        have HFO1 : Hid (FramesOwn w1 w.heap.size 0 u8 (oks (fs.take k))) := HFO.out.below hb1
        have hw1 : wr.heap.size ≤ w1.heap.size := hb1.size
        have HRS1 : Hid (ReadsOn w1 p f.rs) := HRS.out.below hb1 (Nat.le_refl _)
        have d0 := keepCell hb1 (by show b < wr.heap.size; omega) c0
        have d1 := keepCell hb1 (by show b < wr.heap.size; omega) c1
        have d2 := keepCell hb1 (by show b < wr.heap.size; omega) c2'
        clear hb1 c0 c1 c2 c2'
        by_cases hft : fault f = 0
        · have hbv : bytesV f = str (enc f) := by unfold bytesV; rw [if_pos hft]
          have hev : errV (fault f) = .nilIface := by rw [hft]; rfl
          rw [hbv, hev]
          have hok := fault_zero.1 hft
          have hel : (str (enc f)).size ≤ 48 := by rw [str_size]; exact enc_le hok
          have HOK : Hid (oks (fs.take (k + 1)) = oks (fs.take k) ++ [f]) := by show _ = _; rw [HTK.out, oks_snoc_yes hft]
          have HST : Hid (str ((oks (fs.take (k + 1))).flatMap enc) = str ((oks (fs.take k)).flatMap enc) ++ str (enc f)) := by show _ = _; rw [HOK.out, List.flatMap_append, str_append]; simp
          have o1 : ¬ 9223372036854775807 < (str ((oks (fs.take k)).flatMap enc)).size + (str (enc f)).size := by omega
          obtain ⟨ps, hpl, hpo, hpr⟩ := (HFO1.out.alloc (.cells #[.int .i64 f.ty, .slice p f.rs.length cap, .int .i64 f.wm] 24)).out
          have HPR : Hid (∀ (j : Nat) (g : Fr) (pc : Option Addr × Nat), (oks (fs.take k))[j]? = some g → ps[j]? = some pc → ReadsOn (w1.alloc (.cells #[.int .i64 f.ty, .slice p f.rs.length cap, .int .i64 f.wm] 24)) pc.1 g.rs ∧ (g.rs ≠ [] → ∃ b o, pc.1 = some ⟨b, o, none⟩ ∧ 0 ≤ b ∧ u8.ownBlock ≠ some b)) := hpr
          have HPL : Hid (ps.length = (oks (fs.take k)).length) := hpl
          have HNEW : Hid (∀ j, u8.ownBlock = some j → w.heap.size ≤ j) := fun j hj => (hpo.lt j hj).1
          clear hbv hev hft hok hpl hpr
          generalize str ((oks (fs.take k)).flatMap enc) = SA at *
          generalize str (enc f) = SB at *
          go_wp2_with (at_builtin; refine wpList_append_lies _ rfl _ _ 36 rfl w.heap.size 24 i0 (.agg #[.int .i64 0, .slice none 0 0, .int .i64 0]) 3 40 Try.underlying36 hi hz0 hz1 hz2 rfl (by decide) _ _ _ rfl hpo ⟨w1.heap.size, 0, none⟩ 1 1 [.int .i64 f.ty, .slice p f.rs.length cap, .int .i64 f.wm] rfl rfl ?q1 ?q2 (by omega) ?q3 ?q4 ?q5 (w1.heap.size + 1) ?q6 ?_)
          case q1 =>
            intro j u hj
            match j, hj with
            | 0, hj => simp at hj; subst hj; simp [Addr.add]
            | 1, hj => simp at hj; subst hj; simp [Addr.add]
            | 2, hj => simp at hj; subst hj; simp [Addr.add]
          case q2 => intro u hu; simp at hu; rcases hu with rfl | rfl | rfl <;> rfl
          case q3 => unfold maxLen; omega
          case q4 => omega
          case q5 => simp; omega
          case q6 => simp
          intro g cap' w3 hown3 hgrow3 hat hlt3
          have hfo3 : FramesOwn w3 w.heap.size 0 (.slice (some ⟨g, 0, none⟩) ((oks (fs.take k)).length + 1) cap') (oks (fs.take k) ++ [f]) := by
            refine FramesOwn.snoc (p := p) (c := cap) HPL.out HPR.out hown3 hgrow3 (by rcases hat with h | h; exact Or.inl h; exact Or.inr (by rw [h]; simp)) (HRS1.out.alloc _) ?_
            intro hne
            obtain ⟨rb, ro, rfl, h1⟩ := HBK.out hne
            exact ⟨rb, ro, rfl, by omega, fun e => by have := HNEW.out rb e; omega⟩
          have hbl3 : Below w.heap.size w w3 := (HB1.out.alloc (by omega) _).grown hgrow3 (by simp; omega) (fun j hj => (hpo.lt j hj).1)
          rw [← HOK.out] at hfo3
          have HFO3 : Hid (FramesOwn w3 w.heap.size 0 (.slice (some ⟨g, 0, none⟩) ((oks (fs.take k)).length + 1) cap') (oks (fs.take (k + 1)))) := hfo3
          have HBL3 : Hid (Below w.heap.size w w3) := hbl3
          clear hown3 hgrow3 hat hlt3 hfo3 hbl3 hpo d0 d1 d2
          go_wp2
          go_roundw
          case rel => exact ⟨k + 1, by omega, by go_num, by rw [HST.out], HFO3.out, HBL3.out⟩
          case measure => simp [intOf]; omega
        · rw [errV_pos hft]
          have HOK : Hid (oks (fs.take (k + 1)) = oks (fs.take k)) := by show _ = _; rw [HTK.out, oks_snoc_no hft]
          clear hft d0 d1 d2
          generalize bytesV f = bv at *
          go_wp2
          go_roundw
          case rel => exact ⟨k + 1, by omega, by go_num, by rw [HOK.out], by rw [HOK.out]; exact HFO1.out, HB1.out⟩
          case measure => simp [intOf]; omega
    case neg =>
      obtain rfl : k = nl := by omega
      have hTK : fs.take k = fs := by rw [HNL.out, List.take_length]
      rw [hTK] at hfo ⊢
      obtain ⟨A, hA⟩ : ∃ A, A = (oks fs).flatMap enc := ⟨_, rfl⟩
      rw [← hA]
      have hAl : A.length ≤ 576 := by rw [hA]; have := flat_le _ (oks_ok fs); have := oks_len fs; have := HNL.out; omega
      have HFA : Hid (feed A = (oks fs, 0, [])) := by show _ = _; rw [hA]; exact feed_whole _ (oks_ok fs)
      have hgl : (oks fs).length ≤ 12 := by have := oks_len fs; have := HNL.out; omega
      have hgk : ∀ f ∈ oks fs, f.rs.length ≤ 100000 := fun f hf => by have := (oks_ok fs f hf).len; omega
      generalize oks fs = gs at *
      have HGK : Hid (∀ f ∈ gs, f.rs.length ≤ 100000) := hgk
      obtain ⟨pg, cg, rfl, hog⟩ := hfo.on
      have HOG : Hid (FramesOn wr pg gs) := hog
      have HBL : Hid (Below w.heap.size w wr) := hbl
      have hsz : w.heap.size ≤ wr.heap.size := hbl.size
      clear hTK hA hfo hog hbl hgk
      go_wp2_with fail
      refine (feed_any wr.heap.size ⟨#[]⟩ (str A) 0 _ (line0 wr 42) (by rw [str_size]; exact (by omega : 0 + A.length ≤ 100000)) (by omega)).mono ?_
      rintro e V1 ⟨v1, rfl, hfo1, hla1, hbu1⟩
      have hSS : (⟨#[]⟩ : ByteArray).data.toList ++ (str A).data.toList = A := by rw [str_list]; rfl
      rw [hSS, HFA.out] at hfo1 hla1
      have hb1 : Below wr.heap.size wr V1 := ((Below.refl _ wr).alloc (Nat.le_refl _) _).trans ((hbu1.mono (by simp)).below (Nat.le_refl _))
      obtain ⟨p1, c1, rfl, hon1⟩ := hfo1.on
      have HON1 : Hid (FramesOn V1 p1 gs) := hon1
      have HOG1 : Hid (FramesOn V1 pg gs) := HOG.out.below hb1 (Nat.le_refl _)
      have HLA1 : Hid (LineAt V1 wr.heap.size 42 (str []) 0) := hla1
      have HB1 : Hid (Below w.heap.size w V1) := HBL.out.trans (hb1.mono hsz)
      have hs1 : wr.heap.size ≤ V1.heap.size := hb1.size
      clear hfo1 hla1 hbu1 hSS hb1 hon1
      go_wp2_with fail
      refine (sameFrames_any gs p1 pg c1 cg _ (by omega) HON1.out HOG1.out HGK.out).mono ?_
      rintro e V2 ⟨rfl, hb2⟩
      have HLA2 : Hid (LineAt V2 wr.heap.size 42 (str []) 0) := HLA1.out.keep (hb2.block _ HLA1.out.lt)
      have HB2 : Hid (Below w.heap.size w V2) := HB1.out.trans (hb2.mono (by omega))
      have hs2 : w.heap.size ≤ V2.heap.size := by have := hb2.size; omega
      clear hb2
      go_wp2_with fail
      refine (lost_any _ _ _ _ HLA2.out).mono ?_
      rintro e V2' ⟨rfl, rfl⟩
      go_wp2_with fail
      refine (waits_any _ _ _ _ HLA2.out).mono ?_
      rintro e V2'' ⟨rfl, rfl⟩
      have hs0 : (str []).size = 0 := rfl
      rename World => V2
      have o1 : ¬ 9223372036854775807 < raw.size + (str A).size := by rw [str_size]; omega
      obtain ⟨S, hS⟩ : ∃ S, S = raw.data.toList ++ A := ⟨_, rfl⟩
      have HSS : Hid (raw ++ str A = str S) := by show _ = _; rw [hS, ← str_append, str_self]
      have hSl : S.length ≤ 1200 := by rw [hS, List.length_append, len_list]; omega
      clear hS
      go_upto_region 18 with fail
      rw [HSS.out]
      clear hs0
      go_wp2_with fail
      refine (feed_any V2.heap.size ⟨#[]⟩ (str S) 0 _ (line0 V2 42) (by rw [str_size]; exact (by omega : 0 + S.length ≤ 100000)) (by omega)).mono ?_
      rintro e V3 ⟨v3, rfl, hfo3, hla3, hbu3⟩
      have hSS : (⟨#[]⟩ : ByteArray).data.toList ++ (str S).data.toList = S := by rw [str_list]; rfl
      rw [hSS] at hfo3 hla3
      rw [Nat.zero_add] at hla3
      have hb3 : Below V2.heap.size V2 V3 := ((Below.refl _ V2).alloc (Nat.le_refl _) _).trans ((hbu3.mono (by simp)).below (Nat.le_refl _))
      obtain ⟨pw, cw, rfl, hon3⟩ := hfo3.on
      have HON3 : Hid (FramesOn V3 pw (feed S).1) := hon3
      have HLA3 : Hid (LineAt V3 V2.heap.size 42 (str (feed S).2.2) (feed S).2.1) := hla3
      have HB3 : Hid (Below w.heap.size w V3) := HB2.out.trans (hb3.mono hs2)
      have hs3 : V2.heap.size < V3.heap.size := hla3.lt
      clear hfo3 hla3 hbu3 hSS hb3 hon3
      go_wp2
      go_loopw [16, 17, 18, 19] (fun pv u i _ V => ∃ (j : Nat) (A1 R1 : List UInt8), j ≤ na ∧ i = .int .i64 j ∧ u = .string (str R1) ∧ A1 ++ R1 = S ∧ LineAt V V3.heap.size 42 (str (feed A1).2.2) (feed A1).2.1 ∧ FramesOwn V (V3.heap.size + 1) (V3.heap.size + 1) pv (feed A1).1 ∧ But (V3.heap.size + 1) V3.heap.size (V3.alloc (.cells #[.string ⟨#[]⟩, .int .i64 0] 42)) V) (fun _ _ i _ _ => na - (intOf i).toNat)
      case atStart =>
        refine ⟨0, [], S, Nat.zero_le _, rfl, rfl, rfl, ?_, ?_, But.refl _ _ _⟩
        · rw [feed_nil]; exact line0 V3 42
        · rw [feed_nil]; exact FramesOwn.nil _ _ _
      case round =>
        obtain ⟨j, A1, R1, hj, rfl, rfl, hcut, hla, hfo, hbu⟩ := hrel
        have HCUT : Hid (A1 ++ R1 = S) := hcut
        have HLA : Hid (LineAt wr V3.heap.size 42 (str (feed A1).2.2) (feed A1).2.1) := hla
        have HFO : Hid (FramesOwn wr (V3.heap.size + 1) (V3.heap.size + 1) u16 (feed A1).1) := hfo
        have HBU : Hid (But (V3.heap.size + 1) V3.heap.size (V3.alloc (.cells #[.string ⟨#[]⟩, .int .i64 0] 42)) wr) := hbu
        have hARl : A1.length + R1.length ≤ 1200 := by have := congrArg List.length hcut; rw [List.length_append] at this; omega
        have hfs := feed_sum A1
        have hfl := feed_len A1
        have hrr : (feed A1).2.2.length ≤ 1200 := by omega
        have hqq : (feed A1).2.1 ≤ 1200 := by omega
        have hpl : (feed A1).1.length ≤ 1200 := by omega
        have hsr : V3.heap.size + 1 ≤ wr.heap.size := by have := hbu.size; simpa using this
        have HBW : Hid (Below w.heap.size w wr) := HB3.out.trans ((((Below.refl _ V3).alloc (Nat.le_refl _) _).trans ((hbu.mono (by omega)).below (Nat.le_refl _))).mono (by have := HB3.out.size; omega))
        have hw3 : w.heap.size ≤ V3.heap.size := HB3.out.size
        clear hcut hla hfo hbu hfs hfl
        by_cases hlt : j < na
        case pos =>
          have hjI : (j : Int) < na := by omega
          have hj' : j < zs.length := by rw [← HNA.out]; exact hlt
          obtain ⟨zb, zo, rfl, hzb, hzc⟩ := HZ.out.at_ (by intro e; rw [e] at hj'; simp at hj')
          have cz := keepCell HBW.out (by show zb < w.heap.size; omega) (hzc j _ (List.getElem?_eq_getElem hj'))
          generalize zs[j] = z at *
          clear hzc
          obtain ⟨K, hKe, hKR⟩ : ∃ K : Nat, min (max z 0) ((str R1).size : Int) = (K : Int) ∧ K ≤ R1.length := ⟨(min (max z 0) ((str R1).size : Int)).toNat, by rw [str_size]; omega, by rw [str_size]; omega⟩
          have hKI : (K : Int) ≤ (str R1).size := by rw [str_size]; omega
          have hKN : K ≤ (str R1).size := by rw [str_size]; omega
          have hla0 := HLA.out
          go_wp2_with fail
          refine (feed_any V3.heap.size (str (feed A1).2.2) ((str R1).extract 0 K) (feed A1).2.1 _ hla0 (by rw [str_size]; rw [ByteArray.size_extract]; omega) (by omega)).mono ?_
          rintro e V5 ⟨v5, rfl, hfo5, hla5, hbu5⟩
          have hAL : ((str R1).extract 0 K).data.toList = R1.take K := by rw [extract_list, str_list]; rfl
          rw [str_list, hAL] at hfo5 hla5
          have hap := feed_append A1 (R1.take K)
          have hXl := feed_len ((feed A1).2.2 ++ R1.take K)
          rw [List.length_append] at hXl
          have hfo05 : FramesOwn V5 (V3.heap.size + 1) (V3.heap.size + 1) u16 (feed A1).1 := HFO.out.move hbu5.size (fun x h1 h2 => hbu5.block x h1 (by omega))
          have hbu05 : But (V3.heap.size + 1) V3.heap.size (V3.alloc (.cells #[.string ⟨#[]⟩, .int .i64 0] 42)) V5 := HBU.out.trans (hbu5.mono hsr)
          have hs5 : wr.heap.size ≤ V5.heap.size := hbu5.size
          have hob : ∀ x, u16.ownBlock = some x → x < wr.heap.size := fun x hx => by
            obtain ⟨ps', _, ho', _⟩ := HFO.out.out
            exact (ho'.lt x hx).2
          have HLA5 : Hid (LineAt V5 V3.heap.size 42 (str (feed (A1 ++ R1.take K)).2.2) (feed (A1 ++ R1.take K)).2.1) := by show LineAt _ _ _ _ _; rw [hap]; exact hla5
          have HAP : Hid ((feed (A1 ++ R1.take K)).1 = (feed A1).1 ++ (feed ((feed A1).2.2 ++ R1.take K)).1) := by show _ = _; rw [hap]
          have HBU5 : Hid (But (V3.heap.size + 1) V3.heap.size (V3.alloc (.cells #[.string ⟨#[]⟩, .int .i64 0] 42)) V5) := hbu05
          have hTl : (R1.take K).length ≤ 1200 := by rw [List.length_take]; omega
          have HLL : Hid ((feed A1).1.length + (feed ((feed A1).2.2 ++ R1.take K)).1.length ≤ 100000) := by show _ ≤ _; omega
          clear hla5 hbu5 hap hXl hbu05 hAL hla0
          go_wp2_with (at_builtin; refine wpList_append_frames _ rfl _ _ rfl (V3.heap.size + 1) wr.heap.size _ _ (feed A1).1 (feed ((feed A1).2.2 ++ R1.take K)).1 rfl rfl hfo05 hfo5 hsr hob ?qn1 HLL.out ?_)
          case qn1 => omega
          intro pv V6 hfo6 hgr6
          rw [← HAP.out] at hfo6
          have hb56 : Below (V3.heap.size + 1) V5 V6 := (Below.refl _ _).grown hgr6 (by omega) (fun x hx => by
            obtain ⟨ps', _, ho', _⟩ := hfo05.out
            exact (ho'.lt x hx).1)
          have HFO6 : Hid (FramesOwn V6 (V3.heap.size + 1) (V3.heap.size + 1) pv (feed (A1 ++ R1.take K)).1) := hfo6
          have HLA6 : Hid (LineAt V6 V3.heap.size 42 (str (feed (A1 ++ R1.take K)).2.2) (feed (A1 ++ R1.take K)).2.1) := HLA5.out.keep (hb56.block _ (by omega))
          have HBU6 : Hid (But (V3.heap.size + 1) V3.heap.size (V3.alloc (.cells #[.string ⟨#[]⟩, .int .i64 0] 42)) V6) := HBU5.out.trans (below_but hb56 _)
          have hs6 : V5.heap.size ≤ V6.heap.size := hb56.size
          clear hfo6 hgr6 hb56 hfo05 hfo5 hob
          go_wp2
          go_roundw
          case rel =>
            refine ⟨j + 1, A1 ++ R1.take K, R1.drop K, by omega, by go_num, ?_, ?_, HLA6.out, HFO6.out, HBU6.out⟩
            · rw [extract_str, str_list, List.take_of_length_le]
              rw [List.length_drop, str_size]
              exact Nat.le_refl _
            · rw [List.append_assoc, List.take_append_drop]; exact HCUT.out
          case measure => simp [intOf]; omega
        case neg =>
          obtain rfl : j = na := by omega
          have hla0 := HLA.out
          go_wp2_with fail
          refine (feed_any V3.heap.size (str (feed A1).2.2) (str R1) (feed A1).2.1 _ hla0 (by rw [str_size]; rw [str_size]; omega) (by omega)).mono ?_
          rintro e V5 ⟨v5, rfl, hfo5, hla5, hbu5⟩
          have hAL : (str R1).data.toList = R1 := str_list R1
          rw [str_list, hAL] at hfo5 hla5
          have hap := feed_append A1 (R1)
          have hXl := feed_len ((feed A1).2.2 ++ R1)
          rw [List.length_append] at hXl
          have hfo05 : FramesOwn V5 (V3.heap.size + 1) (V3.heap.size + 1) u16 (feed A1).1 := HFO.out.move hbu5.size (fun x h1 h2 => hbu5.block x h1 (by omega))
          have hbu05 : But (V3.heap.size + 1) V3.heap.size (V3.alloc (.cells #[.string ⟨#[]⟩, .int .i64 0] 42)) V5 := HBU.out.trans (hbu5.mono hsr)
          have hs5 : wr.heap.size ≤ V5.heap.size := hbu5.size
          have hob : ∀ x, u16.ownBlock = some x → x < wr.heap.size := fun x hx => by
            obtain ⟨ps', _, ho', _⟩ := HFO.out.out
            exact (ho'.lt x hx).2
          have HLA5 : Hid (LineAt V5 V3.heap.size 42 (str (feed (A1 ++ R1)).2.2) (feed (A1 ++ R1)).2.1) := by show LineAt _ _ _ _ _; rw [hap]; exact hla5
          have HAP : Hid ((feed (A1 ++ R1)).1 = (feed A1).1 ++ (feed ((feed A1).2.2 ++ R1)).1) := by show _ = _; rw [hap]
          have HBU5 : Hid (But (V3.heap.size + 1) V3.heap.size (V3.alloc (.cells #[.string ⟨#[]⟩, .int .i64 0] 42)) V5) := hbu05
          have hTl : (R1).length ≤ 1200 := by omega
          have HLL : Hid ((feed A1).1.length + (feed ((feed A1).2.2 ++ R1)).1.length ≤ 100000) := by show _ ≤ _; omega
          clear hla5 hbu5 hap hXl hbu05 hAL hla0
          go_wp2_with (at_builtin; refine wpList_append_frames _ rfl _ _ rfl (V3.heap.size + 1) wr.heap.size _ _ (feed A1).1 (feed ((feed A1).2.2 ++ R1)).1 rfl rfl hfo05 hfo5 hsr hob ?qn2 HLL.out ?_)
          case qn2 => omega
          intro pv V6 hfo6 hgr6
          rw [← HAP.out] at hfo6
          have hb56 : Below (V3.heap.size + 1) V5 V6 := (Below.refl _ _).grown hgr6 (by omega) (fun x hx => by
            obtain ⟨ps', _, ho', _⟩ := hfo05.out
            exact (ho'.lt x hx).1)
          have HFO6 : Hid (FramesOwn V6 (V3.heap.size + 1) (V3.heap.size + 1) pv (feed (A1 ++ R1)).1) := hfo6
          have HLA6 : Hid (LineAt V6 V3.heap.size 42 (str (feed (A1 ++ R1)).2.2) (feed (A1 ++ R1)).2.1) := HLA5.out.keep (hb56.block _ (by omega))
          have HBU6 : Hid (But (V3.heap.size + 1) V3.heap.size (V3.alloc (.cells #[.string ⟨#[]⟩, .int .i64 0] 42)) V6) := HBU5.out.trans (below_but hb56 _)
          have hs6 : V5.heap.size ≤ V6.heap.size := hb56.size
          clear hfo6 hgr6 hb56 hfo05 hfo5 hob
          rw [HCUT.out] at HFO6 HLA6
          have hb36 : Below V3.heap.size V3 V6 := ((Below.refl _ V3).alloc (Nat.le_refl _) _).trans ((HBU6.out.mono (by omega)).below (Nat.le_refl _))
          have HON6 : Hid (FramesOn V6 pw (feed S).1) := HON3.out.below hb36 (Nat.le_refl _)
          have HONE6 : Hid (LineAt V6 V2.heap.size 42 (str (feed S).2.2) (feed S).2.1) := HLA3.out.keep (hb36.block _ (by omega))
          have HB6 : Hid (Below w.heap.size w V6) := HB3.out.trans (hb36.mono hw3)
          have HSUM : Hid (bytesOfAll (feed S).1 + (feed S).2.1 + (feed S).2.2.length = S.length) := feed_sum S
          have HFOK : Hid (∀ f ∈ (feed S).1, Ok f) := feed_ok S
          have hFSl := feed_len S
          obtain ⟨pp, cp, rfl, honp⟩ := HFO6.out.on
          have HONP : Hid (FramesOn V6 pp (feed S).1) := honp
          clear hb36 honp HFO6
          generalize (feed S).1 = FS at *
          generalize (feed S).2.1 = LS at *
          generalize (feed S).2.2 = RS at *
          have hLS : LS ≤ 1200 := by have := HSUM.out; omega
          have hRS : RS.length ≤ 1200 := by have := HSUM.out; omega
          have hRSs : (str RS).size ≤ 1200 := by rw [str_size]; exact hRS
          obtain ⟨nf, hnf⟩ : ∃ nf, nf = FS.length := ⟨_, rfl⟩
          have HNF : Hid (nf = FS.length) := hnf
          rw [← hnf]
          clear hnf
          go_wp2_with fail
          refine (lost_any _ _ _ _ HONE6.out).mono ?_
          rintro e V6' ⟨rfl, rfl⟩
          go_wp2_with fail
          refine (waits_any _ _ _ _ HONE6.out).mono ?_
          rintro e V6'' ⟨rfl, rfl⟩
          rename World => V6
          go_wp2
          go_loopw [20, 21, 22, 23] (fun y i _ _ V => ∃ m : Nat, m ≤ nf ∧ i = .int .i64 m ∧ y = .int .i64 ((LS : Int) + ((str RS).size : Int) + (bytesOfAll (FS.take m) : Nat)) ∧ Below V6.heap.size V6 V) (fun _ i _ _ _ => nf - (intOf i).toNat)
          case atStart => exact ⟨0, Nat.zero_le _, rfl, by simp [bytesOfAll], Below.refl _ _⟩
          case round =>
            obtain ⟨m, hm, rfl, rfl, hbm⟩ := hrel
            by_cases hmt : m < nf
            case pos =>
              have hmI : (m : Int) < nf := by omega
              have hm' : m < FS.length := by rw [← HNF.out]; exact hmt
              obtain ⟨wb, wo, rfl, hwb, hwc⟩ := HON6.out.at_ (by intro e; rw [e] at hm'; simp at hm')
              obtain ⟨fp, fcap, hfa⟩ := hwc m _ (List.getElem?_eq_getElem hm')
              have hfa' := hfa.below hbm (Nat.le_refl _) hwb
              have hok := HFOK.out _ (List.getElem_mem hm')
              have HBT : Hid (bytesOfAll (FS.take (m + 1)) = bytesOfAll (FS.take m) + (enc FS[m]).length) := bytesOfAll_take hm'
              have hbt := bytesOfAll_le FS m
              have hsm := HSUM.out
              have hb12 : bytesOfAll (FS.take m) ≤ 1200 := by omega
              generalize FS[m] = f at *
              obtain ⟨g0, g1, g2, hrs⟩ := hfa'
              have g2' : wr.cell? ⟨wb, wo + m * 3 + 1 + 1, none⟩ = some (.int .i64 f.wm) := g2
              have HRS : Hid (ReadsOn wr fp f.rs) := hrs
              have HBM : Hid (Below V6.heap.size V6 wr) := hbm
              have hel : (str (enc f)).size ≤ 48 := by rw [str_size]; exact enc_le hok
              have HELL : Hid ((str (enc f)).size = (enc f).length) := str_size _
              have HOKF : Hid (Ok f) := hok
              clear hwc hfa hrs hbm hok hbt hsm
              go_wp2_with fail
              refine (bytes_ok f fp fcap _ HRS.out HOKF.out).mono ?_
              rintro e V7 ⟨rfl, hb7⟩
              have HBM7 : Hid (Below V6.heap.size V6 V7) := HBM.out.trans (hb7.mono HBM.out.size)
              clear hb7 g0 g1 g2 g2'
              generalize bytesOfAll (FS.take m) = bt at *
              generalize str (enc f) = sf at *
              go_wp2
              go_roundw
              case rel => exact ⟨m + 1, by omega, by go_num, by rw [HBT.out]; congr 1; have := HELL.out; omega, HBM7.out⟩
              case measure => simp [intOf]; omega
            case neg =>
              obtain rfl : m = nf := by omega
              have hTK : FS.take m = FS := by rw [HNF.out, List.take_length]
              rw [hTK]
              have HBM : Hid (Below V6.heap.size V6 wr) := hbm
              have hs7 : V6.heap.size ≤ wr.heap.size := hbm.size
              have hbt : ((LS : Int) + ((str RS).size : Int) + ((bytesOfAll FS : Nat) : Int)) = ((str S).size : Int) := by rw [str_size, str_size]; have := HSUM.out; omega
              rw [hbt]
              have hm0 := HNF.out
              subst hm0
              have HA7 : Hid (∀ V, Below V6.heap.size V6 V → FramesOn V pw FS ∧ FramesOn V pp FS ∧ LineAt V V2.heap.size 42 (str RS) LS ∧ LineAt V V3.heap.size 42 (str RS) LS ∧ Below w.heap.size w V) := fun V hV => ⟨HON6.out.below hV (Nat.le_refl _), HONP.out.below hV (Nat.le_refl _), HONE6.out.keep (hV.block _ HONE6.out.lt), HLA6.out.keep (hV.block _ HLA6.out.lt), HB6.out.trans (hV.mono HB6.out.size)⟩
              have HFK : Hid (∀ f ∈ FS, f.rs.length ≤ 100000) := fun f hf => by have := (HFOK.out f hf).len; omega
              have q1 : (((str S).size : Int) == ((str S).size : Int)) = true := by simp
              have q2 : ((LS : Int) == (LS : Int)) = true := by simp
              have q3 : (((str RS).size : Int) == ((str RS).size : Int)) = true := by simp
              clear hTK hbm hbt
              rename World => V7
              have hb8 : Below V6.heap.size V6 (V7.alloc (.cells #[.string ⟨#[]⟩, .int .i64 0] 42)) := HBM.out.alloc hs7 _
              have HB8 : Hid (Below V6.heap.size V6 (V7.alloc (.cells #[.string ⟨#[]⟩, .int .i64 0] 42))) := hb8
              clear hb8
              go_wp2_with fail
              refine (sameFrames_any FS pw pp cw cp _ (by omega) (HA7.out _ HB8.out).1 (HA7.out _ HB8.out).2.1 HFK.out).mono ?_
              rintro e V9 ⟨rfl, hb9⟩
              have HUP : Hid (LineAt V9 V7.heap.size 42 ⟨#[]⟩ 0) := (line0 V7 42).keep (hb9.block _ (by simp))
              have HB9 : Hid (Below V6.heap.size V6 V9) := HB8.out.trans (hb9.mono (by have := HB8.out.size; omega))
              clear hb9
              go_wp2_with fail
              refine (lost_any _ _ _ _ (HA7.out _ HB9.out).2.2.1).mono ?_
              rintro e V9a ⟨rfl, rfl⟩
              go_wp2_with fail
              refine (lost_any _ _ _ _ (HA7.out _ HB9.out).2.2.2.1).mono ?_
              rintro e V9b ⟨rfl, rfl⟩
              go_wp2_with fail
              refine (waits_any _ _ _ _ (HA7.out _ HB9.out).2.2.1).mono ?_
              rintro e V9c ⟨rfl, rfl⟩
              go_wp2_with fail
              refine (waits_any _ _ _ _ (HA7.out _ HB9.out).2.2.2.1).mono ?_
              rintro e V9d ⟨rfl, rfl⟩
              go_wp2_with fail
              refine (feed_any V7.heap.size ⟨#[]⟩ _ 0 _ HUP.out ?_ (by omega)).mono ?_
              · exact (by decide : 0 + 4 ≤ 100000)
              rintro e V10 ⟨v10, rfl, hfo10, -, hbu10⟩
              have hal : (feed ((⟨#[]⟩ : ByteArray).data.toList ++ (⟨#[165, 0, 2, 88]⟩ : ByteArray).data.toList)).1.length = 1 := alive_feed
              obtain ⟨p10, c10, rfl, -⟩ := hfo10.on
              rw [hal]
              have HB10 : Hid (Below w.heap.size w V10) := (HA7.out _ HB9.out).2.2.2.2.trans ((hbu10.mono (by have := (HA7.out _ HB9.out).2.2.2.2.size; omega)).below (by have := HB6.out.size; omega))
              clear hfo10 hbu10 hal
              go_wp2
              go_ret
              exact ⟨rfl, HB10.out⟩
end Go.Proofs.Ytjdfllocngkjpaa.FrmA
