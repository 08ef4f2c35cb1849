/-
  TopInside's walk.
-/
import Derived.Test.YtblkbogoelfjlaaDoorInV
namespace Go.Proofs.YtblkbogoelfjlaaDoor.InA
open Go.RowKit TkM TkW TkA InM Go.Maps Go.Shelf
set_option maxRecDepth 100000

theorem T1.new {w B w3 V11 w4 V13 : World} {W need span score : Nat} {a : Option Addr} {N cap tb b11 xb b13 : Nat} (hB : B = boxes (span : Int) (score : Int) a N cap w) (htb : tb = B.heap.size + 1) (hs3 : w3.heap.size = B.heap.size + 2) (ht3 : TrAt w3 tb (who0 B.heap.size tb) W need 0 0 (epOf [])) (hb3 : Below B.heap.size B w3) (h11 : b11 = w3.heap.size) (hV11 : V11 = w3.alloc (.cells #[.pointer (some ⟨tb, 0, none⟩)] 47)) (hxb : xb = V11.heap.size) (hs4 : w4.heap.size = V11.heap.size + 1) (hx4 : InAt w4 xb tb (fun b => b = xb) span score 0 (fun _ _ => ⟨#[]⟩)) (hb4 : Below V11.heap.size V11 w4) (h13 : b13 = w4.heap.size) (hV13 : V13 = w4.alloc (.cells #[.pointer (some ⟨xb, 0, none⟩)] 51)) :
    T1 w V13 b11 b13 tb xb W need span score a N cap [] := by
  obtain ⟨hb0, hs0, q7, q8, q9, q10⟩ := boxes_is (span := (span : Int)) (score := (score : Int)) (a := a) (N := N) (cap := cap) (w := w)
  rw [← hB] at hb0 hs0 q7 q8 q9 q10
  have hb11 : Below w3.heap.size w3 V11 := by rw [hV11]; exact (Below.refl _ w3).alloc (Nat.le_refl _) _
  have hs11 : V11.heap.size = w3.heap.size + 1 := by rw [hV11]; simp
  have hb13 : Below w4.heap.size w4 V13 := by rw [hV13]; exact (Below.refl _ w4).alloc (Nat.le_refl _) _
  have c11 : Below B.heap.size B V11 := hb3.trans (hb11.mono hb3.size)
  have c4 : Below B.heap.size B w4 := c11.trans (hb4.mono c11.size)
  have c13 : Below B.heap.size B V13 := c4.trans (hb13.mono c4.size)
  have hs13 : V13.heap.size = w4.heap.size + 1 := by rw [hV13]; simp
  have e11 : V11.heap[b11]? = some (.cells #[.pointer (some ⟨tb, 0, none⟩)] 47) := by rw [hV11, h11]; exact Go.heap_alloc_new w3 _
  have e11' : V13.heap[b11]? = some (.cells #[.pointer (some ⟨tb, 0, none⟩)] 47) := by
    rw [hb13.block b11 (by omega), hb4.block b11 (by omega)]; exact e11
  have e13 : V13.heap[b13]? = some (.cells #[.pointer (some ⟨xb, 0, none⟩)] 51) := by rw [hV13, h13]; exact Go.heap_alloc_new w4 _
  refine ⟨⟨who0 B.heap.size tb, fun b => b = xb, fun _ _ => ⟨#[]⟩, 0, ⟨?_, hx4.below hb13, Prs.zero, ?_, ?_, ?_⟩, by simp⟩, ⟨?_, ?_, ?_, ?_, e11', e13⟩, hb0.trans (c13.mono hb0.size)⟩
  · exact ((ht3.below hb11).below (hb4)).below hb13
  · intro b ho hf
    have hf : b = xb := hf
    rcases of_who0 ho with h | h <;> omega
  · intro b hg
    have hg : isBx w.heap.size b11 b13 b ∨ b < w.heap.size := hg
    unfold isBx at hg
    refine ⟨by omega, fun ho => ?_⟩
    rcases of_who0 ho with h | h <;> omega
  · intro b hg hf
    have hg : isBx w.heap.size b11 b13 b ∨ b < w.heap.size := hg
    have hf : b = xb := hf
    unfold isBx at hg
    omega
  · exact (c13.block _ (by omega)).trans q7
  · exact (c13.block _ (by omega)).trans q8
  · exact (c13.block _ (by omega)).trans q9
  · exact (c13.block _ (by omega)).trans q10
theorem below_from {α : Type} {w1 : World} : OwnFrom w1.heap.size (fun (_ : List α) U => Below w1.heap.size w1 U) := fun s U U' row hs hg hr =>
  ⟨hg.os.trans hs.os, hg.tape.trans hs.tape, hg.output.trans hs.output, Nat.le_trans hs.size hg.size, fun k hk => (hg.block k (Nat.lt_of_lt_of_le hk hs.size) (fun e => by have := (hr k e.symm).1; omega)).trans (hs.block k hk)⟩
section
variable (E : List (List Sg)) (a : Option Addr) (cap : Nat) (w : World)
attribute [local go_sem] Oper.semAt_some
set_option maxHeartbeats 4000000 in
theorem in_main (W need span score : Nat) (hE : EsOn w a E) (hl : light E = true) (h14 : E.length ≤ 14) (hT : TagA.Tabs w) (hW1 : 1 ≤ W) (hW8 : W ≤ 8) (hn1 : 1 ≤ need) (hn8 : need ≤ W) (hp1 : 1 ≤ span) (hp8 : span ≤ 8) (hc1 : 1 ≤ score) (hc8 : score ≤ span) :
    Calls Tryd.prog 7 #[.int .i64 (W : Int), .int .i64 (need : Int), .int .i64 (span : Int), .int .i64 (score : Int), .slice a E.length cap] w fun e w' => e = .returned (.bool true) ∧ Below w.heap.size w w' := by
  have mixed : Tryd.prog.follows .mixedOrders = true := by kernel_rfl
  obtain ⟨hb0, hs0, hb7, hb8, hb9, hb10⟩ := boxes_is (span := (span : Int)) (score := (score : Int)) (a := a) (N := E.length) (cap := cap) (w := w)
  have HLT : Hid (Calls Tryd.prog 23 #[.slice a E.length cap] (boxes (span : Int) (score : Int) a E.length cap w) fun e w' => e = .returned (.bool (light E)) ∧ w' = boxes (span : Int) (score : Int) a E.length cap w) := light_any E a cap _ (hE.below hb0) (light_b hl)
  have HE : Hid (EsOn w a E) := hE
  have HT : Hid (TagA.Tabs w) := hT
  have HLI : Hid (light E = true) := hl
  have k9 := cell_of (i := 0) hb9 rfl
  obtain ⟨N, hN⟩ : ∃ N, N = E.length := ⟨_, rfl⟩
  have HN : Hid (N = E.length) := hN
  rw [← hN] at HLT hb0 hs0 hb7 hb8 hb9 hb10 k9 h14 ⊢
  have h14I : ¬ (14 : Int) < N := by omega
  have hNI : (N : Int) ≤ 14 := by omega
  obtain ⟨B, hB⟩ : ∃ B, B = boxes (span : Int) (score : Int) a N cap w := ⟨_, rfl⟩
  rw [← hB] at HLT hb0 hs0 hb7 hb8 hb10 k9
  have HB0 : Hid (B = boxes (span : Int) (score : Int) a N cap w) := hB
  have HBB : Hid (Below w.heap.size w B ∧ B.heap[w.heap.size]? = some (.cells #[.int .i64 (span : Int)] 3) ∧ B.heap[w.heap.size + 1]? = some (.cells #[.int .i64 (score : Int)] 3) ∧ B.heap[w.heap.size + 1 + 1 + 1]? = some (.cells #[.bool false] 4)) := ⟨hb0, hb7, hb8, hb10⟩
  have hB' := hB
  unfold boxes at hB'
  clear hb0 hs0 hb7 hb8 hb9 hb10 hE hT hB hN
  refine (callsIn_wide (n := 3)).1 ?_
  refine callsIn_of_wp_marks Tryd.func7 rfl trivial ?_ rfl
  refine wpIn_wide.2 ?_
  simp only [Tryd.ntmps7, List.size_toArray, List.length_cons, List.length_nil, Nat.reduceAdd, Nat.reduceSub, Array.replicate_succ, Array.replicate_zero, List.push_toArray, List.append_toArray, List.nil_append, List.cons_append]
  go_wp2_with fail
  rw [← hB']
  clear hB'
  refine HLT.out.mono ?_
  rintro e w2 ⟨rfl, hw2⟩
  subst hw2
  rw [hl]
  go_wp2_with fail
  refine (new_ok W need _ hW1 hW8 hn1 hn8).mono ?_
  rintro e w3 ⟨rfl, hs3, ht3, hb3⟩
  obtain ⟨tb, htb⟩ : ∃ tb, tb = w2.heap.size + 1 := ⟨_, rfl⟩
  rw [← htb] at ht3 ⊢
  have HW3 : Hid (tb = w2.heap.size + 1 ∧ w3.heap.size = w2.heap.size + 2 ∧ TrAt w3 tb (who0 w2.heap.size tb) W need 0 0 (epOf []) ∧ Below w2.heap.size w2 w3) := ⟨htb, hs3, ht3, hb3⟩
  have m1 : ∀ o, (w3.alloc o).cell? ⟨w.heap.size, 0, none⟩ = some (.int .i64 (span : Int)) := fun o => TagA.allocCell o (TagA.keepCell hb3 (cell_of (i := 0) HBB.out.2.1 rfl))
  have m2 : ∀ o, (w3.alloc o).cell? ⟨w.heap.size + 1, 0, none⟩ = some (.int .i64 (score : Int)) := fun o => TagA.allocCell o (TagA.keepCell hb3 (cell_of (i := 0) HBB.out.2.2.1 rfl))
  clear htb hs3 ht3 hb3 k9
  obtain ⟨b11, h11⟩ : ∃ b11, b11 = w3.heap.size := ⟨_, rfl⟩
  obtain ⟨V11, hV11⟩ : ∃ V11, V11 = w3.alloc (.cells #[.pointer (some ⟨tb, 0, none⟩)] 47) := ⟨_, rfl⟩
  have HV11 : Hid (b11 = w3.heap.size ∧ V11 = w3.alloc (.cells #[.pointer (some ⟨tb, 0, none⟩)] 47)) := ⟨h11, hV11⟩
  go_wp2_with fail
  rw [← hV11, ← h11]
  clear hV11 m1 m2
  refine (inNew_ok tb span score _ hp1 hp8 hc1 hc8).mono ?_
  rintro e w4 ⟨rfl, hs4, hx4, hb4⟩
  obtain ⟨xb, hxb⟩ : ∃ xb, xb = V11.heap.size := ⟨_, rfl⟩
  rw [← hxb] at hx4 ⊢
  obtain ⟨b13, h13⟩ : ∃ b13, b13 = w4.heap.size := ⟨_, rfl⟩
  obtain ⟨V13, hV13⟩ : ∃ V13, V13 = w4.alloc (.cells #[.pointer (some ⟨xb, 0, none⟩)] 51) := ⟨_, rfl⟩
  have HT1 : Hid (T1 w V13 b11 b13 tb xb W need span score a N cap []) := T1.new HB0.out HW3.out.1 HW3.out.2.1 HW3.out.2.2.1 HW3.out.2.2.2 HV11.out.1 HV11.out.2 hxb hs4 hx4 hb4 h13 hV13
  have m3 : (w4.alloc (.cells #[.pointer (some ⟨xb, 0, none⟩)] 51)).cell? ⟨b11, 0, none⟩ = some (.pointer (some ⟨tb, 0, none⟩)) := by rw [← hV13]; exact cell_of (i := 0) HT1.out.bx.bt rfl
  have m4 : (w4.alloc (.cells #[.pointer (some ⟨xb, 0, none⟩)] 51)).cell? ⟨b13, 0, none⟩ = some (.pointer (some ⟨xb, 0, none⟩)) := by rw [← hV13]; exact cell_of (i := 0) HT1.out.bx.bx rfl
  rw [h13] at m4
  have H13 : Hid (b13 = w4.heap.size) := h13
  clear hs4 hx4 hb4 hxb HW3 HV11 HBB HB0 HLT h13 h11
  go_wp2
  rw [← hV13, ← H13.out]
  clear hV13 m3 m4
  go_loopw [14] (fun i V => ∃ k : Nat, k ≤ N ∧ i = .int .i64 (k : Int) ∧ T1 w V b11 b13 tb xb W need span score a N cap (E.take k)) (fun i _ => N - (intOf i).toNat)
  case atStart => exact ⟨0, Nat.zero_le _, rfl, HT1.out⟩
  case round =>
    clear HT1 H13
    obtain ⟨k, hk, rfl, hI⟩ := hrel
    have HI : Hid (T1 w wr b11 b13 tb xb W need span score a N cap (E.take k)) := hI
    have k9 := cell_of (i := 0) hI.bx.b9 rfl
    have kt := cell_of (i := 0) hI.bx.bt rfl
    have kx := cell_of (i := 0) hI.bx.bx rfl
    clear hI
    by_cases hlt : k < N
    case neg =>
      have hkk : k = N := by omega
      subst hkk
      have hII : ¬ (k : Int) < k := by omega
      have HK : Hid (E.take k = E) := by rw [HN.out]; exact List.take_length
      go_wp2_with fail
      obtain ⟨who, F, f, r, hX, hr⟩ := HI.out.out
      rw [HK.out] at hX hr
      have h25 : E.length ≤ 14 := by have := HN.out; omega
      refine (tags_any hX.t (by omega)).mono ?_
      rintro x w1 ⟨rfl, v, ss, hcv, hown, hl9, hnd, hmem, hb1, hsz1⟩
      obtain ⟨xs, hxs⟩ := mkxs (A := fun x => ∃ e, seenG x (epOf E e) = true) ss (fun l hl => (hmem ⟨l.toArray⟩).1 (by simpa using hl))
      have hxl : xs.length = ss.length := by rw [← hxs]; simp
      obtain ⟨pv, cv, hve, hcells⟩ := own_strs hown
      subst hve
      obtain ⟨TB, hTB⟩ : ∃ TB, TB = wr.heap.size := ⟨_, rfl⟩
      rw [← hTB] at hcv hown hsz1 ⊢
      have HTG1 : Hid (TgOn w1 TB pv xs cv) := by
        refine ⟨by rw [hxl]; exact hcv, fun j x hx => ?_⟩
        obtain ⟨g, hp, hc⟩ := hcells j x.1.data.toList (by rw [← hxs, List.getElem?_map, hx]; rfl)
        exact ⟨g, hp, hc⟩
      have HOB : Hid (∀ b, (b = TB ∨ (∃ o, pv = some ⟨b, o, none⟩)) → b < w1.heap.size) := fun b hb => by
        rcases hb with rfl | ⟨o, hp⟩
        · exact hsz1
        · have hown' := hown
          rw [hp] at hown'
          exact (hown'.lt b (own_zero hown')).2
      have HX1 : Hid (TX w1 tb xb who F (fun b => isBx w.heap.size b11 b13 b ∨ b < w.heap.size) W need span score r E.length E f) := hX.below hb1
      have HBX1 : Hid (Bx w1 w.heap.size b11 b13 tb xb span score a k cap) := HI.out.bx.below hb1
      have HBW1 : Hid (Below w.heap.size w w1) := HI.out.kp.trans (hb1.mono HI.out.kp.size)
      have hx9 : xs.length ≤ 90000 := by omega
      have HSZ : Hid (∀ g, (∃ e, seenG g (epOf E e) = true) → g.size ≤ 100000) := by
        have := light_size (k := k) hl
        rw [HK.out] at this
        exact this
      clear hown hcells hnd hmem hb1 hxs hcv hTB hl9 hxl hX hr HI k9 kt kx hsz1
      go_wp2
      refine (wpIn_wide (n := 3)).1 ?_
      refine wpIn_rangeFunc_ownF rfl (by omega) (gf := 63) (lb := #[.pointer (some ⟨TB, 0, none⟩)]) rfl trivial (enters_of Tryd.func63 (by kernel_rfl) rfl)
        (tseq_stops (A := fun x => ∃ e, seenG x (epOf E e) = true) 2 (by omega) w1 TB pv cv xs (fun b => b = TB ∨ (∃ o, pv = some ⟨b, o, none⟩)) (Or.inl rfl) (fun b o h => Or.inr ⟨o, h⟩) hx9 (fun b hb => HOB.out b hb) HTG1.out) kpB_t (kpB_b (fun b hb => HOB.out b hb)) (Below.refl _ _) (fun _ => rfl)
        (fun _ U => Below w1.heap.size w1 U) (fun _ _ _ => False) ?hI (fun _ _ _ _ _ hs _ _ => hs) (Below.refl _ _) ?a1 ?assign ?body ?done ?stop
      case hI => exact below_from
      case assign =>
        intro l x U K hK
        gi_wp2
        exact hK
      case body =>
        rintro l pre ⟨x, hx⟩ U hU hlen
        have hxs20 : x.size ≤ 100000 := HSZ.out x hx
        have HU : Hid (Below w1.heap.size w1 U) := hU
        have HXT : Hid (∃ e, seenG x (epOf E e) = true) := hx
        have hd1 : 1 ≤ 3 - 1 - 1 := by omega
        clear hU
        gi_wp2
        gi_loopw [16, 17, 18, 19, 20, 21, 22, 23, 24, 25, 26, 27, 28] (fun i _ _ _ _ _ _ _ _ _ _ _ _ V => ∃ e : Nat, e ≤ k ∧ i = .int .i64 (e : Int) ∧ Below U.heap.size U V) (fun i _ _ _ _ _ _ _ _ _ _ _ _ _ => k - (intOf i).toNat)
        case atStart => exact ⟨0, Nat.zero_le _, rfl, Below.refl _ _⟩
        case round =>
          obtain ⟨e, he, rfl, hV⟩ := hrel
          have HV : Hid (Below U.heap.size U wr) := hV
          have HV1 : Hid (Below w1.heap.size w1 wr) := HU.out.trans (hV.mono HU.out.size)
          have k9 := cell_of (i := 0) (HBX1.out.below HV1.out).b9 rfl
          have kx := cell_of (i := 0) (HBX1.out.below HV1.out).bx rfl
          clear hV
          by_cases hek : e < k
          case neg =>
            have hee : e = k := by omega
            subst hee
            have hII : ¬ (e : Int) < e := by omega
            have HPO : Hid (KeepsOthers U wr ∧ KpB (fun b => b = TB ∨ (∃ o, pv = some ⟨b, o, none⟩)) U wr ∧ Below w1.heap.size w1 wr) :=
              ⟨⟨HV.out.size, fun k o hk _ => (HV.out.block k (Array.getElem?_eq_some_iff.1 hk).1).trans hk⟩, fun b hb => HV.out.block b (by have h1 := HOB.out b hb; have h2 := HU.out.size; omega), HV1.out⟩
            gi_wp2
            exact HPO.out
          case pos =>
            have heI : (e : Int) < k := by omega
            have HXV : Hid (TX wr tb xb who F (fun b => isBx w.heap.size b11 b13 b ∨ b < w.heap.size) W need span score r E.length E f) := HX1.out.below HV1.out
            have HTV : Hid (TagA.Tabs wr) := by
              have hww : Below w.heap.size w wr := HBW1.out.trans (HV1.out.mono HBW1.out.size)
              exact HT.out.below hww HT.out.size
            have heE : e < E.length := by rw [← HN.out]; exact hek
            have HPC : Hid (Calls Tryd.prog 33 #[.pointer (some ⟨xb, 0, none⟩), .string x, .int .i64 (e : Int)] wr fun x' w' => x' = .returned (.tuple #[.string (f e x), .nilIface]) ∧ w' = wr) := parent_in x e HXV.out.x (by omega) heE hxs20
            have HPR : Hid (Par knd (tog (epOf E) W need span e x) score x (ahd f e x) (f e x)) := HXV.out.p e x heE
            obtain ⟨p, hp⟩ : ∃ p, p = f e x := ⟨_, rfl⟩
            rw [← hp] at HPC HPR
            clear hp heE
            gi_wp2_with fail
            refine ⟨trivial, (CallsIn.inRound l (callsIn_wide.2 HPC.out)).mono ?_⟩
            rintro e2 w7 ⟨rfl, hw7⟩
            subst hw7
            clear HPC
            by_cases hpe : p = ⟨#[]⟩
            · subst hpe
              clear HPR
              gi_wp2
              go_roundw
              case rel => exact ⟨e + 1, by omega, by go_num, HV.out⟩
              case measure => simp [intOf]; omega
            · have hpl : ¬ p.toList = [] := fun h => hpe (toL_inj (by rw [h, ByteArray.toList_eq]))
              have hpl1 : (p.toList == []) = false := by simpa using hpl
              have hpl2 : p.toList.isEmpty = false := by cases h : p.toList with | nil => exact absurd h hpl | cons _ _ => rfl
              obtain ⟨hk1, hsc, _⟩ : (0 < knd x ∧ knd x < knd p) ∧ score ≤ tog (epOf E) W need span e x p ∧ True := by
                rcases HPR.out with h | h
                · exact absurd h.1 hpe
                · exact ⟨h.1, h.2.1, trivial⟩
              have HSC : Hid (score ≤ tog (epOf E) W need span e x p) := hsc
              have HPT : Hid (∃ e, seenG p (epOf E e) = true) := by
                refine Classical.byContradiction (fun hn => ?_)
                rw [tog_unseen2 hn1 (unseen_of hn)] at hsc
                omega
              have hps : p.size ≤ 100000 := HSZ.out p HPT.out
              rcases parse_knd x with ⟨_, xF, xP, xC, xR, xS, hpx⟩ | ⟨h0, _⟩
              case inr => omega
              rcases parse_knd p with ⟨_, pF, pP, pC, pR, pS, hpp⟩ | ⟨h0, _⟩
              case inr => omega
              have HPX : Hid (∀ V, Below w7.heap.size w7 V → Calls Tryd.prog 18 #[.string x] V fun e w' => e = .returned (.tuple #[.agg #[.int .i64 (knd x : Int), .int .i64 xF, .int .i64 xP, .int .i64 xC, .int .i64 xR, .int .i64 xS], .nilIface]) ∧ Below V.heap.size V w') := fun V hV => by
                have := TagA.parse_any x V (HTV.out.below hV HTV.out.size) (by unfold maxLen; omega)
                rw [hpx] at this
                exact this
              have HPP : Hid (∀ V, Below w7.heap.size w7 V → Calls Tryd.prog 18 #[.string p] V fun e w' => e = .returned (.tuple #[.agg #[.int .i64 (knd p : Int), .int .i64 pF, .int .i64 pP, .int .i64 pC, .int .i64 pR, .int .i64 pS], .nilIface]) ∧ Below V.heap.size V w') := fun V hV => by
                have := TagA.parse_any p V (HTV.out.below hV HTV.out.size) (by unfold maxLen; omega)
                rw [hpp] at this
                exact this
              obtain ⟨kx', hkx'⟩ : ∃ kx', kx' = knd x := ⟨_, rfl⟩
              obtain ⟨kp', hkp'⟩ : ∃ kp', kp' = knd p := ⟨_, rfl⟩
              rw [← hkx'] at HPX hk1
              rw [← hkp'] at HPP hk1
              have hkk1 : ¬ (kp' : Int) ≤ kx' := by omega
              have hkk2 : ¬ kp' ≤ kx' := by omega
              have hkk3 : decide (kp' ≤ kx') = false := by simpa using hkk2
              clear hpx hpp hkx' hkp' hsc HPR hk1 hpe hpl
              gi_wp2_with fail
              refine ⟨trivial, (CallsIn.inRound l (callsIn_wide.2 (HPX.out _ (Below.refl _ _)))).mono ?_⟩
              rintro e3 w8 ⟨rfl, hb8⟩
              obtain ⟨o8, ho8⟩ : ∃ o8, o8 = Obj.cells #[.int .i64 (kx' : Int), .int .i64 xF, .int .i64 xP, .int .i64 xC, .int .i64 xR, .int .i64 xS] 32 := ⟨_, rfl⟩
              obtain ⟨V8, hV8⟩ : ∃ V8, V8 = w8.alloc o8 := ⟨_, rfl⟩
              have HB8 : Hid (Below w7.heap.size w7 V8) := by rw [hV8]; exact hb8.alloc hb8.size _
              have hh8 : V8.heap[w8.heap.size]? = some o8 := by rw [hV8]; exact Go.heap_alloc_new w8 _
              rw [ho8] at hh8 hV8
              clear hb8 HPX ho8
              gi_wp2_with fail
              rw [← hV8]
              clear hV8
              refine ⟨trivial, (CallsIn.inRound l (callsIn_wide.2 (HPP.out _ HB8.out))).mono ?_⟩
              rintro e4 w9 ⟨rfl, hb9⟩
              have k8 : ∀ o, (w9.alloc o).cell? ⟨w8.heap.size, 0, none⟩ = some (.int .i64 (kx' : Int)) := fun o => TagA.allocCell o (TagA.keepCell hb9 (cell_of (i := 0) hh8 rfl))
              have HB9 : Hid (∀ o, Below w7.heap.size w7 (w9.alloc o)) := fun o => by
                have h1 := HB8.out.trans (hb9.mono HB8.out.size)
                exact h1.alloc h1.size o
              have k7 : ∀ o, (w9.alloc o).cell? ⟨w.heap.size, 0, none⟩ = some (.int .i64 (span : Int)) := fun o => cell_of (i := 0) ((HBX1.out.below HV1.out).below (HB9.out o)).b7 rfl
              have hml := @max_lo span e
              obtain ⟨L, hL⟩ : ∃ L, L = lo span e := ⟨_, rfl⟩
              have hL1 : L ≤ e + 1 := by rw [hL]; unfold lo; omega
              have HL : Hid (L = lo span e) := hL
              rw [← hL] at hml
              clear hL hb9 hh8 HPP
              have hspI : (span : Int) ≤ 8 := by omega
              gi_wp2
              obtain ⟨M, hM⟩ : ∃ M, M = e + 1 - L := ⟨_, rfl⟩
              have HM : Hid (M = e + 1 - L) := hM
              obtain ⟨u, hu⟩ : ∃ u, u = whr x (epOf E) W need := ⟨_, rfl⟩
              obtain ⟨v, hv⟩ : ∃ v, v = whr p (epOf E) W need := ⟨_, rfl⟩
              have HUV : Hid (u = whr x (epOf E) W need ∧ v = whr p (epOf E) W need) := ⟨hu, hv⟩
              have HSC2 : Hid (score ≤ tg u v L M) := by
                have := HSC.out
                unfold tog at this
                rw [← HL.out, ← hM, ← hu, ← hv] at this
                exact this
              have hM8 : M ≤ 8 := by have := HL.out; unfold lo at this; omega
              have heE : e < E.length := by rw [← HN.out]; exact hek
              have HWX : Hid (∀ V i, Below w7.heap.size w7 V → i ≤ e → Calls Tryd.prog 36 #[.pointer (some ⟨tb, 0, none⟩), .string x, .int .i64 ((i : Nat) : Int)] V fun x' w' => x' = .returned (.tuple #[.int .i64 (u i), .nilIface]) ∧ Below V.heap.size V w') := fun V i hV hi => by
                rw [hu]
                exact where_told x i (HXV.out.t.below hV) hW8 (by omega) (by omega) hxs20 HXT.out
              have HWP : Hid (∀ V i, Below w7.heap.size w7 V → i ≤ e → Calls Tryd.prog 36 #[.pointer (some ⟨tb, 0, none⟩), .string p, .int .i64 ((i : Nat) : Int)] V fun x' w' => x' = .returned (.tuple #[.int .i64 (v i), .nilIface]) ∧ Below V.heap.size V w') := fun V i hV hi => by
                rw [hv]
                exact where_told p i (HXV.out.t.below hV) hW8 (by omega) (by omega) hps HPT.out
              have HKT : Hid (∀ V, Below w7.heap.size w7 V → V.cell? ⟨b11, 0, none⟩ = some (.pointer (some ⟨tb, 0, none⟩)) ∧ V.cell? ⟨w.heap.size + 1, 0, none⟩ = some (.int .i64 (score : Int))) := fun V hV => ⟨cell_of (i := 0) ((HBX1.out.below HV1.out).below hV).bt rfl, cell_of (i := 0) ((HBX1.out.below HV1.out).below hV).b8 rfl⟩
              clear hM hu hv k7 k8 heE
              gi_loopw [23, 24, 25, 26, 27, 28] (fun nn i _ _ _ _ V => ∃ j : Nat, j ≤ M ∧ i = .int .i64 ((L + j : Nat) : Int) ∧ nn = .int .i64 ((tg u v L j : Nat) : Int) ∧ Below w7.heap.size w7 V) (fun _ i _ _ _ _ _ => M - ((intOf i).toNat - L))
              case atStart => exact ⟨0, Nat.zero_le _, rfl, rfl, HB9.out _⟩
              case round =>
                obtain ⟨j, hj, rfl, rfl, hV'⟩ := hrel
                have HV' : Hid (Below w7.heap.size w7 wr) := hV'
                obtain ⟨kt, k8⟩ := HKT.out wr hV'
                clear hV'
                by_cases hjl : L + j ≤ e
                case neg =>
                  have hjM : j = M := by have := HM.out; omega
                  have hI : ¬ ((L + j : Nat) : Int) ≤ e := by omega
                  subst hjM
                  have hsc1 : ¬ ((tg u v L j : Nat) : Int) < score := by have := HSC2.out; omega
                  have hsc2 : ¬ tg u v L j < score := by have := HSC2.out; omega
                  have HVU : Hid (Below U.heap.size U wr) := HV.out.trans (HV'.out.mono HV.out.size)
                  gi_wp2
                  go_roundw
                  case rel => exact ⟨e + 1, by omega, by go_num, HVU.out⟩
                  case measure => simp [intOf]; omega
                case pos =>
                  have hI : ((L + j : Nat) : Int) ≤ e := by omega
                  obtain ⟨I, hIe⟩ : ∃ I, I = L + j := ⟨_, rfl⟩
                  rw [← hIe] at hI hjl ⊢
                  have HIE : Hid (I = L + j) := hIe
                  have hI14 : (I : Int) ≤ 1000 := by omega
                  have htl := tg_le u v L j
                  have htI : ((tg u v L j : Nat) : Int) ≤ 8 := by omega
                  have HTT : Hid (tg u v L (j + 1) = if 0 ≤ u I ∧ u I = v I then tg u v L j + 1 else tg u v L j) := by
                    show _ = _
                    rw [hIe]
                    by_cases hxy : 0 ≤ u (L + j) ∧ u (L + j) = v (L + j)
                    · rw [if_pos hxy]; exact tg_yes hxy
                    · rw [if_neg hxy]; exact tg_no hxy
                  have HC1 := HWX.out wr I HV'.out hjl
                  have HC1 : Hid _ := HC1
                  have HC2 : Hid (∀ V, Below w7.heap.size w7 V → Calls Tryd.prog 36 #[.pointer (some ⟨tb, 0, none⟩), .string p, .int .i64 ((I : Nat) : Int)] V fun x' w' => x' = .returned (.tuple #[.int .i64 (v I), .nilIface]) ∧ Below V.heap.size V w') := fun V hV => HWP.out V I hV hjl
                  obtain ⟨uu, huu⟩ : ∃ uu, uu = u I := ⟨_, rfl⟩
                  obtain ⟨vv, hvv⟩ : ∃ vv, vv = v I := ⟨_, rfl⟩
                  rw [← huu, ← hvv] at HTT
                  rw [← huu] at HC1
                  rw [← hvv] at HC2
                  clear hIe huu hvv
                  gi_wp2_with fail
                  refine ⟨trivial, (CallsIn.inRound l (callsIn_wide.2 HC1.out)).mono ?_⟩
                  rintro e5 w10 ⟨rfl, hb10⟩
                  have HB10 : Hid (Below w7.heap.size w7 w10) := HV'.out.trans (hb10.mono HV'.out.size)
                  have kt10 := (HKT.out w10 HB10.out).1
                  clear hb10 HC1
                  gi_wp2_with fail
                  refine ⟨trivial, (CallsIn.inRound l (callsIn_wide.2 (HC2.out w10 HB10.out))).mono ?_⟩
                  rintro e6 w11 ⟨rfl, hb11⟩
                  have HB11 : Hid (Below w7.heap.size w7 w11) := HB10.out.trans (hb11.mono HB10.out.size)
                  clear hb11 HC2
                  by_cases h0 : 0 ≤ uu
                  · have h0d : decide (0 ≤ uu) = true := by simpa using h0
                    by_cases hxy : uu = vv
                    · have hEq : (uu == vv) = true := by simpa using hxy
                      have HT' : Hid (tg u v L (j + 1) = tg u v L j + 1) := by have := HTT.out; rw [if_pos ⟨h0, hxy⟩] at this; exact this
                      clear hxy HTT
                      gi_wp2
                      go_roundw
                      case rel => exact ⟨j + 1, by have := HM.out; have := HIE.out; omega, by rw [HIE.out]; go_num, by rw [HT'.out]; go_num, HB11.out⟩
                      case measure => have h1 := HIE.out; have h2 := HM.out; simp [intOf]; omega
                    · have hEq : (uu == vv) = false := by simpa using hxy
                      have HT' : Hid (tg u v L (j + 1) = tg u v L j) := by have := HTT.out; rw [if_neg (fun h => hxy h.2)] at this; exact this
                      clear hxy HTT
                      gi_wp2
                      go_roundw
                      case rel => exact ⟨j + 1, by have := HM.out; have := HIE.out; omega, by rw [HIE.out]; go_num, by rw [HT'.out], HB11.out⟩
                      case measure => have h1 := HIE.out; have h2 := HM.out; simp [intOf]; omega
                  · have h0d : decide (0 ≤ uu) = false := by simpa using h0
                    have HT' : Hid (tg u v L (j + 1) = tg u v L j) := by have := HTT.out; rw [if_neg (fun h => h0 h.1)] at this; exact this
                    clear HTT
                    gi_wp2
                    go_roundw
                    case rel => exact ⟨j + 1, by have := HM.out; have := HIE.out; omega, by rw [HIE.out]; go_num, by rw [HT'.out], HB11.out⟩
                    case measure => have h1 := HIE.out; have h2 := HM.out; simp [intOf]; omega
      case done =>
        rintro D ys U hD hys hU hK
        have HU : Hid (Below w1.heap.size w1 U) := hU
        have hDU : D < U.heap.size := (Array.getElem?_eq_some_iff.1 hK).1
        have HBU : Hid (Bx U w.heap.size b11 b13 tb xb span score a k cap) := HBX1.out.below hU
        have k13 : U.drew.cell? ⟨b13, 0, none⟩ = some (.pointer (some ⟨xb, 0, none⟩)) := cell_of (i := 0) HBU.out.bx rfl
        have k9 : U.drew.cell? ⟨w.heap.size + 1 + 1, 0, none⟩ = some (.slice a k cap) := cell_of (i := 0) HBU.out.b9 rfl
        have HEP : Hid (Calls Tryd.prog 30 #[.pointer (some ⟨xb, 0, none⟩)] U.drew fun e w' => e = .returned (.int .i64 (k : Int)) ∧ w' = U.drew) := by
          have h := inEpochs_any ((HX1.out.x.below hU).below (drewN_below U 1))
          rw [← HN.out] at h
          exact h
        have hkk : ((k : Int) == k) = true := by simp
        have k10 : U.drew.cell? ⟨w.heap.size + 1 + 1 + 1, 0, none⟩ = some (.bool false) := cell_of (i := 0) HBU.out.b10 rfl
        have f10 : U.drew.frozen? ⟨w.heap.size + 1 + 1 + 1, 0, none⟩ = false := fz_of (i := 0) HBU.out.b10
        have HFF : Hid ((U.drew.setCell ⟨w.heap.size + 1 + 1 + 1, 0, none⟩ (.bool true)).heap[D]? = some (.deferred (some [])) ∧ Below w.heap.size w ((U.drew.setCell ⟨w.heap.size + 1 + 1 + 1, 0, none⟩ (.bool true)).putObj D (.deferred none)) ∧ ((U.drew.setCell ⟨w.heap.size + 1 + 1 + 1, 0, none⟩ (.bool true)).putObj D (.deferred none)).cell? ⟨w.heap.size + 1 + 1 + 1, 0, none⟩ = some (.bool true)) := by
          have hDne : D ≠ w.heap.size + 1 + 1 + 1 := fun e => by
            have := HBU.out.b10
            rw [← e, hK] at this
            cases this
          have h1 : (U.drew.setCell ⟨w.heap.size + 1 + 1 + 1, 0, none⟩ (.bool true)).heap[D]? = some (.deferred (some [])) := by
            rw [Below.heap_setCell _ _ _ _ hDne]; exact hK
          have h2 : U.drew.heap[w.heap.size + 1 + 1 + 1]? = some (.cells #[.bool false] 4) := HBU.out.b10
          have h3 : (U.drew.setCell ⟨w.heap.size + 1 + 1 + 1, 0, none⟩ (.bool true)).heap[w.heap.size + 1 + 1 + 1]? = some (.cells #[.bool true] 4) := by simp [World.setCell, Array.getElem?_modify, h2]
          have g1 := grownBy_putObj' (U.drew.setCell ⟨w.heap.size + 1 + 1 + 1, 0, none⟩ (.bool true)) D (.deferred none)
          have hwU : Below w.heap.size w U.drew := (HBW1.out.trans (hU.mono HBW1.out.size)).drew
          have hwS : Below w.heap.size w (U.drew.setCell ⟨w.heap.size + 1 + 1 + 1, 0, none⟩ (.bool true)) := hwU.setCell (p := ⟨w.heap.size + 1 + 1 + 1, 0, none⟩) (by show _ ≤ w.heap.size + 1 + 1 + 1; omega) _
          refine ⟨h1, ⟨g1.os.trans hwS.os, g1.tape.trans hwS.tape, g1.output.trans hwS.output, Nat.le_trans hwS.size g1.size, fun b hb => (g1.block b (Nat.lt_of_lt_of_le hb hwS.size) (fun e => ?_)).trans (hwS.block b hb)⟩, ?_⟩
          · have e : b = D := by simpa using e
            have := HBW1.out.size
            omega
          · exact cell_of (i := 0) ((g1.block _ (Array.getElem?_eq_some_iff.1 h3).1 (fun e => hDne (by simpa using e.symm))).trans h3) rfl
        have n1 : ¬ b13 = w.heap.size + 1 + 1 + 1 := fun e => by
          have h1 := HBU.out.bx
          have h2 := HBU.out.b10
          rw [e, h2] at h1
          simp at h1
        have n1' : ¬ w.heap.size + 1 + 1 + 1 = b13 := fun e => n1 e.symm
        have HSF : Hid ((U.setCell ⟨w.heap.size + 1 + 1 + 1, 0, none⟩ (.bool true)).drew.cell? ⟨b13, 0, none⟩ = some (.pointer (some ⟨xb, 0, none⟩)) ∧ (U.setCell ⟨w.heap.size + 1 + 1 + 1, 0, none⟩ (.bool true)).drew.cell? ⟨w.heap.size + 1 + 1, 0, none⟩ = some (.slice a k cap)) := by
          constructor
          · show (U.setCell ⟨w.heap.size + 1 + 1 + 1, 0, none⟩ (.bool true)).cell? _ = _
            rw [World.cell?_setCell_far _ _ _ _ (by show w.heap.size + 1 + 1 + 1 ≠ b13; exact n1')]
            exact k13
          · show (U.setCell ⟨w.heap.size + 1 + 1 + 1, 0, none⟩ (.bool true)).cell? _ = _
            rw [World.cell?_setCell_far _ _ _ _ (by show w.heap.size + 1 + 1 + 1 ≠ w.heap.size + 1 + 1; omega)]
            exact k9
        clear hU hK hys
        go_wp2
        go_region_held3 (fun X => X.cell? ⟨b13, 0, none⟩ = some (.pointer (some ⟨xb, 0, none⟩)) ∧ X.cell? ⟨w.heap.size + 1 + 1, 0, none⟩ = some (.slice a k cap)) (first | exact HSF.out | go_keep) (first | (go_at_call 30; refine HEP.out.mono ?_; rintro e w3 ⟨rfl, rfl⟩))
        go_wp2
        obtain ⟨f1, f2, f3⟩ := HFF.out
        refine ⟨by simp, .inl ⟨_, _, rfl, run_takeDeferred f1, ?_⟩⟩
        refine ⟨.bool true, ?_, rfl, f2⟩
        have f3' : ((U.setCell ⟨w.heap.size + 1 + 1 + 1, 0, none⟩ (.bool true)).drew.putObj D (.deferred none)).cell? ⟨w.heap.size + 1 + 1 + 1, 0, none⟩ = some (.bool true) := f3
        simp [results, Tryd.f7, go_sem, f3']
      case stop =>
        rintro D c pre U _ _ h _
        exact h.elim
    case pos =>
      have hkI : (k : Int) < N := by omega
      have hk' : k < E.length := by rw [← HN.out]; exact hlt
      have HKL : Hid ((E.take k).length = k) := by show _ = _; rw [List.length_take]; omega
      obtain ⟨bl, ol, rfl, hbl, hcl⟩ := HE.out.at_ (fun e => by rw [e] at hk'; simp at hk')
      obtain ⟨p, cp, hcp, hsg⟩ := hcl k _ (List.getElem?_eq_getElem hk')
      have HTK : Hid (E.take (k + 1) = E.take k ++ [E[k]]) := by show _ = _; rw [List.take_add_one, List.getElem?_eq_getElem hk']; rfl
      have hgd : goodL E[k] = true := (light_iff.1 hl).2 _ (List.getElem_mem hk')
      have HSZ : Hid (∀ g, (∃ e, seenG g (epOf (E.take k ++ [E[k]]) e) = true) → g.size ≤ 100000) := by
        have := light_size (k := k + 1) hl
        rw [HTK.out] at this
        exact this
      have kc : wr.cell? ⟨bl, ol + k, none⟩ = some (.slice p E[k].length cp) := by rw [HI.out.kp.cell hbl]; exact hcp
      obtain ⟨l, hl0⟩ : ∃ l, l = E[k] := ⟨_, rfl⟩
      rw [← hl0] at kc hsg HTK hgd HSZ
      have HTL : Hid (Calls Tryd.prog 28 #[.pointer (some ⟨tb, 0, none⟩), .slice p l.length cp] wr.drew fun e w' => (l.all okS = true → e = .returned .nilIface ∧ T2 w w' b11 b13 tb xb W need span score (some ⟨bl, ol, none⟩) N cap (E.take k) l) ∧ (l.all okS = false → e = .returned (.iface 23 (.int .i64 1)) ∧ T1 w w' b11 b13 tb xb W need span score (some ⟨bl, ol, none⟩) N cap (E.take k))) :=
        (HI.out.below (drewN_below wr 1)).tell p cp hgd ((hsg.below HI.out.kp).below (drewN_below wr 1)) (fun hne b o hp => by
          obtain ⟨b', o', hp', hlt', _⟩ := hsg.at_ hne
          rw [hp] at hp'
          simp at hp'
          omega) (by rw [HKL.out]; omega)
      have HCB : Hid (bl < w.heap.size ∧ w.cell? ⟨bl, ol + k, none⟩ = some (.slice p l.length cp)) := ⟨hbl, by rw [hl0]; exact hcp⟩
      have hkm : ¬ (9223372036854775807 : Int) < (ol : Int) + k ∨ True := Or.inr trivial
      clear hcp hsg hcl hl0 hkm hgd
      have HS2 : Hid (∀ w', T2 w w' b11 b13 tb xb W need span score (some ⟨bl, ol, none⟩) N cap (E.take k) l → w'.cell? ⟨b11, 0, none⟩ = some (.pointer (some ⟨tb, 0, none⟩)) ∧ w'.cell? ⟨w.heap.size + 1 + 1, 0, none⟩ = some (.slice (some ⟨bl, ol, none⟩) N cap) ∧ w'.cell? ⟨bl, ol + k, none⟩ = some (.slice p l.length cp)) := fun w' h => ⟨cell_of (i := 0) h.bx.bt rfl, cell_of (i := 0) h.bx.b9 rfl, by rw [h.kp.cell HCB.out.1]; exact HCB.out.2⟩
      have HS1 : Hid (∀ w', T1 w w' b11 b13 tb xb W need span score (some ⟨bl, ol, none⟩) N cap (E.take k) → w'.cell? ⟨b11, 0, none⟩ = some (.pointer (some ⟨tb, 0, none⟩)) ∧ w'.cell? ⟨w.heap.size + 1 + 1, 0, none⟩ = some (.slice (some ⟨bl, ol, none⟩) N cap) ∧ w'.cell? ⟨bl, ol + k, none⟩ = some (.slice p l.length cp)) := fun w' h => ⟨cell_of (i := 0) h.bx.bt rfl, cell_of (i := 0) h.bx.b9 rfl, by rw [h.kp.cell HCB.out.1]; exact HCB.out.2⟩
      cases hok : l.all okS with
      | false =>
        go_wp2_with fail
        go_region_held3 (fun X => X.cell? ⟨b11, 0, none⟩ = some (.pointer (some ⟨tb, 0, none⟩)) ∧ X.cell? ⟨w.heap.size + 1 + 1, 0, none⟩ = some (.slice (some ⟨bl, ol, none⟩) N cap) ∧ X.cell? ⟨bl, ol + k, none⟩ = some (.slice p l.length cp)) (first | exact ⟨TagA.drewCell ‹_›, TagA.drewCell ‹_›, TagA.drewCell ‹_›⟩ | exact HS1.out _ hT3)
          (first | (go_at_call 28; refine HTL.out.mono ?_; rintro e w5 ⟨_, h2⟩; obtain ⟨rfl, hT3⟩ := h2 hok))
        have k10 := cell_of (i := 0) hT3.bx.b10 rfl
        have f10 := fz_of (i := 0) hT3.bx.b10
        have HF : Hid (Below w.heap.size w (w5.setCell ⟨w.heap.size + 1 + 1 + 1, 0, none⟩ (.bool true)) ∧ (w5.setCell ⟨w.heap.size + 1 + 1 + 1, 0, none⟩ (.bool true)).heap[w.heap.size + 1 + 1 + 1]? = some (.cells #[.bool true] 4)) := by
          refine ⟨hT3.kp.setCell (p := ⟨w.heap.size + 1 + 1 + 1, 0, none⟩) (by show _ ≤ w.heap.size + 1 + 1 + 1; omega) _, ?_⟩
          simp [World.setCell, Array.getElem?_modify, hT3.bx.b10]
        clear hT3 HTL
        go_wp2
        have h0 := cell_of (i := 0) HF.out.2 rfl
        exact ⟨.bool true, by simp [results, Tryd.f7, go_sem, h0], rfl, HF.out.1⟩
      | true =>
        go_wp2_with fail
        go_region_held3 (fun X => X.cell? ⟨b11, 0, none⟩ = some (.pointer (some ⟨tb, 0, none⟩)) ∧ X.cell? ⟨w.heap.size + 1 + 1, 0, none⟩ = some (.slice (some ⟨bl, ol, none⟩) N cap) ∧ X.cell? ⟨bl, ol + k, none⟩ = some (.slice p l.length cp)) (first | exact ⟨TagA.drewCell ‹_›, TagA.drewCell ‹_›, TagA.drewCell ‹_›⟩ | exact HS2.out _ hT3)
          (first | (go_at_call 28; refine HTL.out.mono ?_; rintro e w5 ⟨h1, _⟩; obtain ⟨rfl, hT3⟩ := h1 hok))
        have kx5 := cell_of (i := 0) hT3.bx.bx rfl
        have HT3 : Hid (T2 w w5 b11 b13 tb xb W need span score (some ⟨bl, ol, none⟩) N cap (E.take k) l) := hT3
        clear hT3 HTL
        go_wp2_with fail
        refine (HT3.out.next HT.out hW8 hn1 HSZ.out hp8 hc1 (by omega) (by rw [HKL.out]; omega)).mono ?_
        rintro e w6 ⟨rfl, hT6⟩
        have HT6 : Hid (T1 w w6 b11 b13 tb xb W need span score (some ⟨bl, ol, none⟩) N cap (E.take (k + 1))) := by rw [HTK.out]; exact hT6
        clear hT6 HT3
        go_wp2
        go_roundw
        case rel => exact ⟨k + 1, by omega, by go_num, HT6.out⟩
        case measure => simp [intOf]; omega
end
end Go.Proofs.YtblkbogoelfjlaaDoor.InA
