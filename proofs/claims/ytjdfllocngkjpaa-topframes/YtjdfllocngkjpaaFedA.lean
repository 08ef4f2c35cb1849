/-
  FeedSays, walked.
-/
import Derived.Test.YtjdfllocngkjpaaFrmR
import Derived.Test.YtjdfllocngkjpaaFrmS
import Derived.Deep.Cut
namespace Go.Proofs.Ytjdfllocngkjpaa.FrmA
open Go.RowKit FrmM
set_option maxRecDepth 100000

/-- A list of texts, wherever it lies: of its slice's address. -/
structure TextsOn (w : World) (p : Option Addr) (ts : List ByteArray) : Prop where
  len : ∀ t ∈ ts, t.size ≤ maxLen
  at_ : ts ≠ [] → ∃ b o, p = some ⟨b, o, none⟩ ∧ b < w.heap.size ∧ ∀ (k : Nat) (t : ByteArray), ts[k]? = some t → w.cell? ⟨b, o + k, none⟩ = some (.string t)
theorem lost_below (lb : Nat) (rest : ByteArray) (lost : Nat) (w : World) (h : LineAt w lb 42 rest lost) :
    Calls Try.prog 16 #[.pointer (some ⟨lb, 0, none⟩)] w fun e w' => e = .returned (.int .i64 (lost : Int)) ∧ Below w.heap.size w w' :=
  (lost_any lb rest lost w h).mono fun e w' ⟨h1, h2⟩ => ⟨h1, by rw [h2]; exact Below.refl _ _⟩
theorem waits_below (lb : Nat) (rest : ByteArray) (lost : Nat) (w : World) (h : LineAt w lb 42 rest lost) :
    Calls Try.prog 17 #[.pointer (some ⟨lb, 0, none⟩)] w fun e w' => e = .returned (.int .i64 (rest.size : Int)) ∧ Below w.heap.size w w' :=
  (waits_any lb rest lost w h).mono fun e w' ⟨h1, h2⟩ => ⟨h1, by rw [h2]; exact Below.refl _ _⟩
theorem LineAt.below {w w' : World} {lb : Nat} {t : TypeId} {rest : ByteArray} {lost : Nat} (h : LineAt w lb t rest lost) (hb : Below w.heap.size w w') : LineAt w' lb t rest lost := h.keep (hb.block lb h.lt)

set_option maxHeartbeats 400000 in
theorem fed_many (p : Option Addr) (n cap : Nat) (w : World) (hn : 40 < n) :
    Calls Try.prog 4 #[.slice p n cap] w fun e w' => e = .returned (.bool true) ∧ Below w.heap.size w w' := by
  have hI : (40 : Int) < n := by omega
  go_enter Try.func4, Try.ntmps4
  go_wp2_with fail
  refine (frames_any _).mono ?_
  rintro e w1 ⟨rfl, hb1⟩
  have HB : Hid (Below w.heap.size w w1) := hb1
  clear hb1
  go_wp2
  go_ret
  exact ⟨rfl, HB.out⟩

/-- Two lines side by side: the program's and the document's. -/
structure Both (V w : World) (nb mb : Nat) (r : List UInt8) (q : Nat) : Prop where
  mine : LineAt V nb 42 (str r) q
  theirs : LineAt V mb 45 (str r) q
  ne : nb ≠ mb
  n0 : w.heap.size ≤ nb
  m0 : w.heap.size ≤ mb
  below : Below w.heap.size w V

set_option maxHeartbeats 2000000 in
theorem fed_few (ts : List ByteArray) (p : Option Addr) (cap : Nat) (w : World) (ht : TextsOn w p ts) (hn : ts.length ≤ 40) :
    Calls Try.prog 4 #[.slice p ts.length cap] w fun e w' => e = .returned (.bool true) ∧ Below w.heap.size w w' := by
  obtain ⟨n, hnn⟩ : ∃ n, n = ts.length := ⟨_, rfl⟩
  have HN : Hid (n = ts.length) := hnn
  have HT : Hid (TextsOn w p ts) := ht
  rw [← hnn] at hn ⊢
  have hI : decide ((40 : Int) < n) = false := by simp; omega
  clear hnn ht
  go_enter Try.func4, Try.ntmps4
  go_wp2_with fail
  refine (frames_any _).mono ?_
  rintro e w1 ⟨rfl, hb1⟩
  have HB : Hid (Below w.heap.size w w1) := hb1
  have hw1 : w.heap.size ≤ w1.heap.size := hb1.size
  clear hb1
  go_wp2
  go_loopw [4, 6, 7, 8, 9] (fun u i _ _ _ V => ∃ (k nb : Nat) (r : List UInt8) (q : Nat), k ≤ n ∧ i = .int .i64 k ∧ u = .pointer (some ⟨nb, 0, none⟩) ∧ r.length + q ≤ 500 * k ∧ Both V w nb (w1.heap.size + 1) r q) (fun _ i _ _ _ _ => n - (intOf i).toNat)
  case atStart =>
    refine ⟨0, w1.heap.size, [], 0, Nat.zero_le _, rfl, rfl, by simp, ?_⟩
    exact ⟨(line0 w1 42).below ((Below.refl _ _).alloc (Nat.le_refl _) _), by show LineAt _ _ 45 ⟨#[]⟩ 0; have h := line0 (w1.alloc (.cells #[.string ⟨#[]⟩, .int .i64 0] 42)) 45; simpa using h, by omega, hw1, by omega, HB.out.trans (((Below.refl _ w1).alloc (Nat.le_refl _) _).alloc (by simp) _ |>.mono hw1)⟩
  case round =>
    obtain ⟨k, nb, r, q, hk, rfl, rfl, hrq, hbo⟩ := hrel
    have HBO : Hid (Both wr w nb (w1.heap.size + 1) r q) := hbo
    clear hbo
    by_cases hlt : k < n
    case neg =>
      obtain rfl : k = n := by omega
      go_wp2
      go_ret
      exact ⟨rfl, HBO.out.below⟩
    case pos =>
      have hkI : (k : Int) < n := by omega
      have hk' : k < ts.length := by rw [← HN.out]; exact hlt
      obtain ⟨b, o, rfl, hb, hc⟩ := HT.out.at_ (by intro e; rw [e] at hk'; simp at hk')
      have ct := hc k _ (List.getElem?_eq_getElem hk')
      have HCT : Hid (∀ V, Below w.heap.size w V → V.cell? ⟨b, o + k, none⟩ = some (.string ts[k])) := fun V hV => keepCell hV hb ct
      have hml := HT.out.len _ (List.getElem_mem hk')
      generalize ts[k] = t at *
      have ct0 := HCT.out wr HBO.out.below
      clear hc ct
      by_cases ht5 : 500 < t.size
      · have ht5I : (500 : Int) < t.size := by omega
        go_wp2
        go_ret
        exact ⟨rfl, HBO.out.below⟩
      · have ht5I : decide ((500 : Int) < t.size) = false := by simp; omega
        by_cases hmod : k % 3 = 2
        · have hm : ((k : Int) % 3 == 2) = true := by simp; omega
          go_wp2_with fail
          refine (copy_any nb (str r) q wr HBO.out.mine).mono ?_
          rintro e wC ⟨rfl, rfl⟩
          have hlaC : LineAt (wr.alloc (.cells #[.string (str r), .int .i64 (q : Int)] 42)) nb 42 (str r) q := HBO.out.mine.below ((Below.refl _ _).alloc (Nat.le_refl _) _)
          go_wp2_with fail
          refine (feed_any nb (str r) _ q _ hlaC ?_ (by omega)).mono ?_
          · rw [str_size]
            exact (by omega : ∀ x : Nat, r.length ≤ 20000 → x ≤ 5 → r.length + x ≤ 100000) _ (by omega) (by decide)
          rintro e W0 ⟨v0, rfl, -, -, hbu0⟩
          have hnbl := HBO.out.mine.lt
          have hmbl := HBO.out.theirs.lt
          have hszC := hbu0.size
          have HBX : Hid (Both W0 w wr.heap.size (w1.heap.size + 1) r q) := by
            have hnew : LineAt (wr.alloc (.cells #[.string (str r), .int .i64 (q : Int)] 42)) wr.heap.size 42 (str r) q := LineAt.made wr 42 (str r) q
            have hold : LineAt (wr.alloc (.cells #[.string (str r), .int .i64 (q : Int)] 42)) (w1.heap.size + 1) 45 (str r) q := HBO.out.theirs.below ((Below.refl _ _).alloc (Nat.le_refl _) _)
            exact ⟨hnew.keep (hbu0.block _ (by simp) (by omega)), hold.keep (hbu0.block _ (by simp; omega) HBO.out.ne.symm), by omega, by have := HBO.out.below.size; omega, HBO.out.m0, (HBO.out.below.alloc HBO.out.below.size _).trans ((hbu0.mono (by have := HBO.out.below.size; simp; omega)).below HBO.out.n0)⟩
          clear hbu0 hlaC hszC
          have hla := HBX.out.mine
          have ct1 := HCT.out _ HBX.out.below
          go_wp2_with fail
          refine (feed_any wr.heap.size (str r) t q _ hla (by rw [str_size]; omega) (by omega)).mono ?_
          rintro e V1 ⟨v1, rfl, hfo1, hla1, hbu1⟩
          rw [str_list] at hfo1 hla1
          have hlt1 : LineAt V1 (w1.heap.size + 1) 45 (str r) q := HBX.out.theirs.keep (hbu1.block _ HBX.out.theirs.lt HBX.out.ne.symm)
          have hV1 : Below w.heap.size w V1 := HBX.out.below.trans ((hbu1.mono HBX.out.below.size).below HBX.out.n0)
          have ct2 := HCT.out _ hV1
          have HFO1 : Hid (FramesOwn V1 W0.heap.size W0.heap.size v1 (feed (r ++ t.data.toList)).1) := hfo1
          have HLA1 : Hid (LineAt V1 wr.heap.size 42 (str (feed (r ++ t.data.toList)).2.2) (q + (feed (r ++ t.data.toList)).2.1)) := hla1
          have HBU1 : Hid (But W0.heap.size wr.heap.size W0 V1) := hbu1
          have HV1 : Hid (Below w.heap.size w V1) := hV1
          have hmlt : w1.heap.size + 1 < W0.heap.size := HBX.out.theirs.lt
          have HNE : Hid (wr.heap.size ≠ w1.heap.size + 1) := HBX.out.ne
          have HN0 : Hid (w.heap.size ≤ wr.heap.size) := HBX.out.n0
          have HM0 : Hid (w.heap.size ≤ w1.heap.size + 1) := HBX.out.m0
          clear hfo1 hla1 hbu1 hV1 hla ct1
          go_wp2_with fail
          refine (refFeed_any (w1.heap.size + 1) (str r) t q _ hlt1 (by rw [str_size]; omega) (by omega)).mono ?_
          rintro e V2 ⟨v2, rfl, hfo2, hla2, hbu2⟩
          rw [str_list] at hfo2 hla2
          have hsum := feed_sum (r ++ t.data.toList)
          have hflen := feed_len (r ++ t.data.toList)
          have hfok := feed_ok (r ++ t.data.toList)
          rw [List.length_append, len_list] at hsum hflen
          have hs1 := HBU1.out.size
          have hs2 := hbu2.size
          have hfo12 : FramesOwn V2 W0.heap.size W0.heap.size v1 (feed (r ++ t.data.toList)).1 := HFO1.out.move hs2 (fun j h1 h2 => hbu2.block j h1 (by omega))
          have hla12 : LineAt V2 wr.heap.size 42 (str (feed (r ++ t.data.toList)).2.2) (q + (feed (r ++ t.data.toList)).2.1) := HLA1.out.keep (hbu2.block _ HLA1.out.lt HNE.out)
          have hV2 : Below w.heap.size w V2 := HV1.out.trans ((hbu2.mono HV1.out.size).below HM0.out)
          generalize (feed (r ++ t.data.toList)).1 = fs at *
          generalize (feed (r ++ t.data.toList)).2.1 = dq at *
          generalize (feed (r ++ t.data.toList)).2.2 = r' at *
          obtain ⟨p1, cap1, rfl, hon1⟩ := hfo12.on
          obtain ⟨p2, cap2, rfl, hon2⟩ := hfo2.on
          have HON1 : Hid (FramesOn V2 p1 fs) := hon1
          have HON2 : Hid (FramesOn V2 p2 fs) := hon2
          have HLA2 : Hid (LineAt V2 wr.heap.size 42 (str r') (q + dq)) := hla12
          have HLT2 : Hid (LineAt V2 (w1.heap.size + 1) 45 (str r') (q + dq)) := hla2
          have HV2 : Hid (Below w.heap.size w V2) := hV2
          have hrq' : r'.length + (q + dq) ≤ 500 * (k + 1) := by omega
          have HFL : Hid (fs.length ≤ 100000) := by show _ ≤ _; omega
          have HFK : Hid (∀ f ∈ fs, f.rs.length ≤ 100000) := fun f hf => by have := (hfok f hf).len; omega
          have k0 := cell_regrown hla2.c0
          have k1 := cell_regrown hla2.c1
          have e1 : (((q + dq : Nat) : Int) != ((q + dq : Nat) : Int)) = false := by simp
          have e2 : (((str r').size : Int) != ((str r').size : Int)) = false := by simp
          clear hsum hflen hfok hfo12 hla12 hV2 hon1 hon2 hfo2 hla2 hbu2 hs1 hs2 HFO1 HLA1 HBU1 hlt1 ct2
          generalize hQQ : q + dq = Q at *
          go_upto_region 19 with fail
          refine wp_region_quiet_below (by kernel_rfl) (by kernel_rfl) ?_
          repeat (go_big_quiet_step (first | with_reducible exact Calls.regrown_of (sameFrames_any fs p1 p2 cap1 cap2 _ HFL.out (HON1.out.below (below_regrown _ _ _) (Nat.le_refl _)) (HON2.out.below (below_regrown _ _ _) (Nat.le_refl _)) HFK.out) | with_reducible exact Calls.regrown_of (lost_below wr.heap.size (str r') Q _ (HLA2.out.below (below_regrown _ _ _))) | with_reducible exact Calls.regrown_of (waits_below wr.heap.size (str r') Q _ (HLA2.out.below (below_regrown _ _ _)))))
          refine wpQuiet_nil ?_
          intro _ hw'
          obtain ⟨⟨dr, osr⟩, hw''⟩ := hw'
          subst hw''
          obtain ⟨V3, hV3⟩ : ∃ V3, V3 = Go.Sort.grow (redrawn V2 dr) osr := ⟨_, rfl⟩
          have hb3 : Below V2.heap.size V2 V3 := by rw [hV3]; exact below_regrown _ _ _
          show Exit.then _ _ _ _ (Go.Sort.grow (redrawn V2 dr) osr)
          rw [← hV3]
          clear hV3 k0 k1
          have HBF : Hid (Both V3 w wr.heap.size (w1.heap.size + 1) r' Q) := ⟨HLA2.out.below hb3, HLT2.out.below hb3, HNE.out, HN0.out, HM0.out, HV2.out.trans (hb3.mono HV2.out.size)⟩
          clear hb3
          go_wp2
          go_roundw
          case rel => exact ⟨k + 1, wr.heap.size, r', Q, by omega, by go_num, rfl, hrq', HBF.out⟩
          case measure => simp [intOf]; omega
        · have hm : ((k : Int) % 3 == 2) = false := by simp; omega
          have HBX : Hid (Both wr w nb (w1.heap.size + 1) r q) := HBO.out
          have hla := HBX.out.mine
          have ct1 := HCT.out _ HBX.out.below
          go_wp2_with fail
          refine (feed_any nb (str r) t q _ hla (by rw [str_size]; omega) (by omega)).mono ?_
          rintro e V1 ⟨v1, rfl, hfo1, hla1, hbu1⟩
          rw [str_list] at hfo1 hla1
          have hlt1 : LineAt V1 (w1.heap.size + 1) 45 (str r) q := HBX.out.theirs.keep (hbu1.block _ HBX.out.theirs.lt HBX.out.ne.symm)
          have hV1 : Below w.heap.size w V1 := HBX.out.below.trans ((hbu1.mono HBX.out.below.size).below HBX.out.n0)
          have ct2 := HCT.out _ hV1
          have HFO1 : Hid (FramesOwn V1 wr.heap.size wr.heap.size v1 (feed (r ++ t.data.toList)).1) := hfo1
          have HLA1 : Hid (LineAt V1 nb 42 (str (feed (r ++ t.data.toList)).2.2) (q + (feed (r ++ t.data.toList)).2.1)) := hla1
          have HBU1 : Hid (But wr.heap.size nb wr V1) := hbu1
          have HV1 : Hid (Below w.heap.size w V1) := hV1
          have hmlt : w1.heap.size + 1 < wr.heap.size := HBX.out.theirs.lt
          have HNE : Hid (nb ≠ w1.heap.size + 1) := HBX.out.ne
          have HN0 : Hid (w.heap.size ≤ nb) := HBX.out.n0
          have HM0 : Hid (w.heap.size ≤ w1.heap.size + 1) := HBX.out.m0
          clear hfo1 hla1 hbu1 hV1 hla ct1
          go_wp2_with fail
          refine (refFeed_any (w1.heap.size + 1) (str r) t q _ hlt1 (by rw [str_size]; omega) (by omega)).mono ?_
          rintro e V2 ⟨v2, rfl, hfo2, hla2, hbu2⟩
          rw [str_list] at hfo2 hla2
          have hsum := feed_sum (r ++ t.data.toList)
          have hflen := feed_len (r ++ t.data.toList)
          have hfok := feed_ok (r ++ t.data.toList)
          rw [List.length_append, len_list] at hsum hflen
          have hs1 := HBU1.out.size
          have hs2 := hbu2.size
          have hfo12 : FramesOwn V2 wr.heap.size wr.heap.size v1 (feed (r ++ t.data.toList)).1 := HFO1.out.move hs2 (fun j h1 h2 => hbu2.block j h1 (by omega))
          have hla12 : LineAt V2 nb 42 (str (feed (r ++ t.data.toList)).2.2) (q + (feed (r ++ t.data.toList)).2.1) := HLA1.out.keep (hbu2.block _ HLA1.out.lt HNE.out)
          have hV2 : Below w.heap.size w V2 := HV1.out.trans ((hbu2.mono HV1.out.size).below HM0.out)
          generalize (feed (r ++ t.data.toList)).1 = fs at *
          generalize (feed (r ++ t.data.toList)).2.1 = dq at *
          generalize (feed (r ++ t.data.toList)).2.2 = r' at *
          obtain ⟨p1, cap1, rfl, hon1⟩ := hfo12.on
          obtain ⟨p2, cap2, rfl, hon2⟩ := hfo2.on
          have HON1 : Hid (FramesOn V2 p1 fs) := hon1
          have HON2 : Hid (FramesOn V2 p2 fs) := hon2
          have HLA2 : Hid (LineAt V2 nb 42 (str r') (q + dq)) := hla12
          have HLT2 : Hid (LineAt V2 (w1.heap.size + 1) 45 (str r') (q + dq)) := hla2
          have HV2 : Hid (Below w.heap.size w V2) := hV2
          have hrq' : r'.length + (q + dq) ≤ 500 * (k + 1) := by omega
          have HFL : Hid (fs.length ≤ 100000) := by show _ ≤ _; omega
          have HFK : Hid (∀ f ∈ fs, f.rs.length ≤ 100000) := fun f hf => by have := (hfok f hf).len; omega
          have k0 := cell_regrown hla2.c0
          have k1 := cell_regrown hla2.c1
          have e1 : (((q + dq : Nat) : Int) != ((q + dq : Nat) : Int)) = false := by simp
          have e2 : (((str r').size : Int) != ((str r').size : Int)) = false := by simp
          clear hsum hflen hfok hfo12 hla12 hV2 hon1 hon2 hfo2 hla2 hbu2 hs1 hs2 HFO1 HLA1 HBU1 hlt1 ct2
          generalize hQQ : q + dq = Q at *
          go_upto_region 19 with fail
          refine wp_region_quiet_below (by kernel_rfl) (by kernel_rfl) ?_
          repeat (go_big_quiet_step (first | with_reducible exact Calls.regrown_of (sameFrames_any fs p1 p2 cap1 cap2 _ HFL.out (HON1.out.below (below_regrown _ _ _) (Nat.le_refl _)) (HON2.out.below (below_regrown _ _ _) (Nat.le_refl _)) HFK.out) | with_reducible exact Calls.regrown_of (lost_below nb (str r') Q _ (HLA2.out.below (below_regrown _ _ _))) | with_reducible exact Calls.regrown_of (waits_below nb (str r') Q _ (HLA2.out.below (below_regrown _ _ _)))))
          refine wpQuiet_nil ?_
          intro _ hw'
          obtain ⟨⟨dr, osr⟩, hw''⟩ := hw'
          subst hw''
          obtain ⟨V3, hV3⟩ : ∃ V3, V3 = Go.Sort.grow (redrawn V2 dr) osr := ⟨_, rfl⟩
          have hb3 : Below V2.heap.size V2 V3 := by rw [hV3]; exact below_regrown _ _ _
          show Exit.then _ _ _ _ (Go.Sort.grow (redrawn V2 dr) osr)
          rw [← hV3]
          clear hV3 k0 k1
          have HBF : Hid (Both V3 w nb (w1.heap.size + 1) r' Q) := ⟨HLA2.out.below hb3, HLT2.out.below hb3, HNE.out, HN0.out, HM0.out, HV2.out.trans (hb3.mono HV2.out.size)⟩
          clear hb3
          go_wp2
          go_roundw
          case rel => exact ⟨k + 1, nb, r', Q, by omega, by go_num, rfl, hrq', HBF.out⟩
          case measure => simp [intOf]; omega
theorem fed_any (ts : List ByteArray) (p : Option Addr) (cap : Nat) (w : World) (ht : TextsOn w p ts) :
    Calls Try.prog 4 #[.slice p ts.length cap] w fun e w' => e = .returned (.bool true) ∧ Below w.heap.size w w' := by
  by_cases hn : ts.length ≤ 40
  · exact fed_few ts p cap w ht hn
  · exact fed_many p ts.length cap w (by omega)
end Go.Proofs.Ytjdfllocngkjpaa.FrmA
