/-
  What TopTrack does to the world.
-/
import Derived.Test.YtbmaioklmcgkbaaTtN
import Derived.Deep.CutRange
import Derived.Deep.DeepCutAuto
namespace Go.Proofs.Ytbmaioklmcgkbaa.TkA
open Go.RowKit TkM TkW Go.Maps
set_option maxRecDepth 100000

section
set_option maxHeartbeats 40000000 in
theorem top_main (W need : Nat) (E : List (List Sg)) (a : Option Addr) (cap : Nat) (w : World) (h0 : 1 ≤ W) (h1 : W ≤ 8) (h2 : 1 ≤ need) (h3 : need ≤ W) (hE : EsOn w a E) (hl : light E = true) (h12 : E.length ≤ 12) :
    Calls Try.prog 9 #[.int .i64 (W : Int), .int .i64 (need : Int), .slice a E.length cap] w fun e w' => e = .returned (.bool true) ∧ Below w.heap.size w w' := by
  have mixed : Try.prog.follows .mixedOrders = true := by kernel_rfl
  obtain ⟨hl25, hgl⟩ := light_iff.1 hl
  have HB : Hid (∀ l, l ∈ E → l.length ≤ 9223372036854775807 ∧ ∀ x, x ∈ l → x.g.size ≤ 9223372036854775807) := fun l hlE => by
    have h := goodL_iff.1 (hgl l hlE)
    exact ⟨by omega, fun x hx => by have := h.2 x hx; omega⟩
  have HE : Hid (EsOn w a E) := hE
  have HGL : Hid (∀ l, l ∈ E → goodL l = true) := hgl
  have h12I : ¬ (12 : Int) < E.length := by omega
  clear hE hgl
  go_enter Try.func9, Try.ntmps9
  go_wp2_with fail
  refine (light_any E a cap _ HE.out HB.out).mono ?_
  rintro e w2 ⟨rfl, hw2⟩
  subst hw2
  rw [hl]
  obtain ⟨N, hN⟩ : ∃ N, N = E.length := ⟨_, rfl⟩
  have HN : Hid (N = E.length) := hN
  rw [← hN] at h12 h12I hl25 ⊢
  clear hN hl HB
  go_wp2_with fail
  refine (new_ok W need _ h0 h1 h2 h3).mono ?_
  rintro e w1 ⟨rfl, hs1, hd1, hb1⟩
  have HD1 : Hid (TrAt w1 (w2.heap.size + 1) (who0 w2.heap.size (w2.heap.size + 1)) W need 0 0 (epOf [])) := hd1
  have HB1 : Hid (Below w2.heap.size w2 w1) := hb1
  have HS1 : Hid (w1.heap.size = w2.heap.size + 2) := hs1
  clear hd1 hb1 hs1
  go_wp2_with fail
  refine (new_ok W need _ h0 h1 h2 h3).mono ?_
  rintro e w3 ⟨rfl, hs3, hd3, hb3⟩
  have HD3 : Hid (TrAt w3 (w1.heap.size + 1) (who0 w1.heap.size (w1.heap.size + 1)) W need 0 0 (epOf [])) := hd3
  have HB3 : Hid (Below w1.heap.size w1 w3) := hb3
  clear hd3 hb3 hs3
  have HW3 : Hid (EsOn w3 a E) := (HE.out.below HB1.out).below HB3.out
  go_upto_region 10 with fail
  go_cut [84] from 75 to 84 (fun c wx => ∃ bb, c = .bool bb ∧ (bb = true → ∃ l E', E = l :: E' ∧ l ≠ []) ∧ w3 = wx)
  case first =>
    by_cases hn0 : N = 0
    · have hI : ¬ (0 : Int) < N := by omega
      subst hn0
      go_wp2
      go_meet
      exact ⟨false, rfl, (fun h => absurd h (by decide)), rfl⟩
    · have hI : (0 : Int) < N := by omega
      have hk' : 0 < E.length := by rw [← HN.out]; omega
      obtain ⟨b, o, hpe, hb, hc⟩ := HW3.out.at_ (by intro e; rw [e] at hk'; simp at hk')
      subst hpe
      obtain ⟨q, cp, k0, hs⟩ := hc 0 _ (List.getElem?_eq_getElem hk')
      obtain ⟨m, hm⟩ : ∃ m, m = E[0].length := ⟨_, rfl⟩
      have HM : Hid (m = E[0].length) := hm
      rw [← hm, Nat.add_zero] at k0
      have hml : m ≤ 25 := by rw [hm]; exact (goodL_iff.1 (HGL.out _ (List.getElem_mem hk'))).1
      clear hc hm hs
      by_cases hm0 : 0 < m
      · have hmI : (0 : Int) < m := by omega
        go_wp2
        go_meet
        refine ⟨true, rfl, fun _ => ?_, rfl⟩
        have HM' := HM.out
        match E, hk', HM' with
        | l :: E', _, HM' => exact ⟨l, E', rfl, fun e => by rw [e] at HM'; simp at HM'; omega⟩
      · have hmI : ¬ (0 : Int) < m := by omega
        go_wp2
        go_meet
        exact ⟨false, rfl, (fun h => absurd h (by decide)), rfl⟩
  case rest =>
  obtain ⟨bb, rfl, hbb, rfl⟩ := hcut
  have HBB : Hid (bb = true → ∃ l E', E = l :: E' ∧ l ≠ []) := hbb
  clear hbb
  go_upto_if 84 with fail
  go_cut [11] from 75 to 90 (fun c wx => ∃ g, c = .string g ∧ g.size ≤ 20 ∧ w3 = wx)
  case first =>
    cases hbt : bb with
    | false =>
      subst hbt
      go_wp2
      go_meet
      exact ⟨_, rfl, by decide, rfl⟩
    | true =>
      subst hbt
      obtain ⟨l, E', hE', hln⟩ := HBB.out rfl
      obtain ⟨b, o, hpe, hb, hc⟩ := HW3.out.at_ (by rw [hE']; simp)
      subst hpe
      obtain ⟨q, cp, k0, hs⟩ := hc 0 l (by rw [hE']; rfl)
      rw [Nat.add_zero] at k0
      obtain ⟨b1, o1, hpe1, hb1, hc1⟩ := hs.at_ hln
      subst hpe1
      obtain ⟨m, hm⟩ : ∃ m, m = l.length := ⟨_, rfl⟩
      have hm0 : 0 < m := by rw [hm]; exact List.length_pos_iff.2 hln
      have hl0 : (0 : Int) < m := by omega
      rw [← hm] at k0
      have hN0 : (0 : Int) < N := by rw [HN.out, hE']; simp
      have hll : 0 < l.length := List.length_pos_iff.2 hln
      have y3 := (hc1 0 l[0] (List.getElem?_eq_getElem hll)).c3
      rw [Nat.zero_mul, Nat.add_zero] at y3
      have hxs : l[0].g.size ≤ 20 := (goodL_iff.1 (HGL.out l (by rw [hE']; simp))).2 l[0] (List.getElem_mem hll)
      generalize l[0].g = xg at *
      have HXS : Hid (xg.size ≤ 20) := hxs
      clear hc hc1 hs hE' hxs hm hll hln
      go_wp2
      go_meet
      exact ⟨_, rfl, HXS.out, rfl⟩
  case rest =>
  obtain ⟨g, rfl, hgs, rfl⟩ := hcut
  have HTW : Hid (Two w2.heap.size w3 (w2.heap.size + 1) (w1.heap.size + 1) (who0 w2.heap.size (w2.heap.size + 1)) (who0 w1.heap.size (w1.heap.size + 1)) W need 0 0 g (.slice none 0 0) [] []) := by
    have e1 := HS1.out
    refine ⟨HD1.out.below HB3.out, HD3.out, Kpt.zero, fun b hb => ?_, fun b hb => ?_, fun b hb hf => ?_, fun b hb hf => ?_, fun b hb hf => ?_⟩
    · rcases of_who0 hb with h | h <;> omega
    · rcases of_who0 hb with h | h <;> omega
    · rcases of_who0 hb with h | h <;> rcases of_who0 hf with h' | h' <;> omega
    · rcases hf with hf | ⟨pc, hm, _⟩
      · simp [Value.ownBlock] at hf
      · exact absurd hm List.not_mem_nil
    · rcases hf with hf | ⟨pc, hm, _⟩
      · simp [Value.ownBlock] at hf
      · exact absurd hm List.not_mem_nil
  have HBW : Hid (Below w2.heap.size w2 w3) := HB1.out.trans (HB3.out.mono HB1.out.size)
  obtain ⟨tb, htb⟩ : ∃ tb, tb = w2.heap.size + 1 := ⟨_, rfl⟩
  obtain ⟨ob, hob⟩ : ∃ ob, ob = w1.heap.size + 1 := ⟨_, rfl⟩
  rw [← htb, ← hob] at HTW ⊢
  clear HD1 HD3 HB1 HB3 HS1 HW3 HBB htb hob
  go_wp2_with fail
  go_loopw [6, 12, 13, 14, 15] (fun u v i _ _ V => u = .bool false ∧ ∃ (k : Nat) (ht ho : Nat → Nat × ByteArray × Nat) (r s : Nat) (ps : List (Option Addr × Nat)), k ≤ N ∧ i = .int .i64 (k : Int) ∧ Two w2.heap.size V tb ob ht ho W need r s g v ps (E.take k) ∧ r ≤ k * 25 ∧ s ≤ k * 25 ∧ (∀ l, l ∈ E.take k → l.all okS = true) ∧ Below w2.heap.size w2 V) (fun _ _ i _ _ _ => N - (intOf i).toNat)
  case atStart => exact ⟨rfl, 0, _, _, 0, 0, [], Nat.zero_le _, rfl, HTW.out, Nat.le_refl _, Nat.le_refl _, fun l hl => absurd hl List.not_mem_nil, HBW.out⟩
  case round =>
    clear HTW HBW
    obtain ⟨rfl, k, ht, ho, r, s, ps, hk, rfl, htw, hrk, hsk, hok, hbl⟩ := hrel
    obtain ⟨i61, hi61, hz61, hs61, hb61⟩ := info_parts info61
    obtain ⟨i73, hi73, hz73, hs73, hb73⟩ := info_parts info73
    obtain ⟨V0, hV0⟩ : ∃ V0, V0 = wr := ⟨_, rfl⟩
    subst hV0
    have HOK : Hid (∀ l, l ∈ E.take k → l.all okS = true) := hok
    clear hok
    by_cases hlt : k < N
    case neg =>
      have hkk : k = N := by omega
      subst hkk
      rw [show E.take k = E by rw [HN.out, List.take_length]] at htw HOK
      obtain ⟨pk, ck, rfl⟩ := htw.form
      rw [← HN.out] at htw ⊢
      have hI : ¬ (k : Int) < k := by omega
      have HTW : Hid (Two w2.heap.size V0 tb ob ht ho W need r s g (.slice pk k ck) ps E) := htw
      have HBL : Hid (Below w2.heap.size w2 V0) := hbl
      obtain ⟨tl, htl⟩ : ∃ tl, tl = told g E := ⟨_, rfl⟩
      have HTL : Hid (tl = true ↔ ∃ e, seenG g (epOf E e) = true) := by rw [htl]; exact told_iff
      have HTL2 : Hid (tl = true ↔ ∃ e, seenG g (epOf (E.map (own g)) e) = true) := by rw [htl, ← told_own g E]; exact told_iff
      have HOG : Hid (∀ e x, x ∈ epOf (E.map (own g)) e → x.g = g) := fun e x hx => by rw [epOf_own] at hx; exact (own_tag hx).1
      have HOP : Hid (∀ e x, x ∈ epOf (E.map (own g)) e → 0 ≤ x.p ∧ x.p < 8) := fun e x hx => by
        rw [epOf_own] at hx
        have h := (own_tag hx).2
        by_cases he : e < E.length
        · have h1 := okS_iff.1 (List.all_eq_true.1 (HOK.out _ (epOf_mem he)) x h)
          omega
        · rw [epOf_past E (by omega)] at h
          exact absurd h List.not_mem_nil
      have HOL : Hid (∀ e, (epOf (E.map (own g)) e).length ≤ 25) := fun e => by
        rw [epOf_own]
        by_cases he : e < E.length
        · have h1 := goodL_iff.1 (HGL.out _ (epOf_mem he))
          have h2 := own_len g (epOf E e)
          omega
        · rw [epOf_past E (by omega)]
          exact Nat.zero_le _
      have HWH : Hid (∀ e, whr g (epOf (E.map (own g))) W need e = whr g (epOf E) W need e) := fun e => whr_own g E W need e
      clear htw hbl hlt htl hk
      go_wp2_with fail
      clear hI
      go_loopw [6, 16, 17, 18, 19, 20, 21, 22, 23, 24, 25, 26, 27] (fun u6 i _ _ _ _ _ _ _ _ _ _ _ V => u6 = .bool false ∧ ∃ e : Nat, e ≤ k ∧ i = .int .i64 (e : Int) ∧ Two w2.heap.size V tb ob ht ho W need r s g (.slice pk k ck) ps E ∧ Below w2.heap.size w2 V) (fun _ i _ _ _ _ _ _ _ _ _ _ _ _ => k - (intOf i).toNat)
      case atStart => exact ⟨rfl, 0, Nat.zero_le _, rfl, HTW.out, HBL.out⟩
      case round =>
        clear HTW HBL
        obtain ⟨rfl, e, he, rfl, htw, hbl⟩ := hrel
        obtain ⟨V1, hV1⟩ : ∃ V1, V1 = wr := ⟨_, rfl⟩
        subst hV1
        have HTW : Hid (Two w2.heap.size V1 tb ob ht ho W need r s g (.slice pk k ck) ps E) := htw
        have HBL : Hid (Below w2.heap.size w2 V1) := hbl
        clear htw hbl
        by_cases hlt : e < k
        case neg =>
          have hee : e = k := by omega
          subst hee
          have hI : ¬ (e : Int) < e := by omega
          have HC : Hid (Calls Try.prog 40 #[.pointer (some ⟨tb, 0, none⟩)] V1 fun x w' => x = .returned (.int .i64 (e : Int)) ∧ w' = V1) := by
            have h := epochs_any HTW.out.t
            rw [← HN.out] at h
            exact h
          clear hlt
          go_wp2_with fail
          refine HC.out.mono ?_
          rintro x w5 ⟨rfl, hw5⟩
          subst hw5
          as_aux_lemma =>
            go_wp2
            exact bodyPost_ret (v := .bool true) (by simp [results, Try.results9, go_sem]) rfl ⟨rfl, HBL.out⟩
        case pos =>
          have heI : (e : Int) < k := by omega
          cases hct : tl with
          | false =>
            have hC : ∀ V, Below V1.heap.size V1 V → Calls Try.prog 39 #[.pointer (some ⟨tb, 0, none⟩), .string g, .int .i64 (e : Int)] V fun x w' => x = .returned (.tuple #[.int .i64 0, .iface 97 (.int .i64 5)]) ∧ w' = V := fun V hV => where_none g e (HTW.out.t.below hV) (by rw [← HN.out]; omega) (by rw [← HN.out]; exact hlt) (by omega) (fun h => by have := HTL.out.2 h; rw [hct] at this; cases this)
            have hC2 : ∀ V, Below V1.heap.size V1 V → Calls Try.prog 39 #[.pointer (some ⟨ob, 0, none⟩), .string g, .int .i64 (e : Int)] V fun x w' => x = .returned (.tuple #[.int .i64 0, .iface 97 (.int .i64 5)]) ∧ w' = V := fun V hV => where_none g e (HTW.out.o.below hV) (by rw [← HN.out]; omega) (by rw [← HN.out]; exact hlt) (by omega) (fun h => by have := HTL2.out.2 h; rw [hct] at this; cases this)
            have HC : Hid (∀ V, Below V1.heap.size V1 V → Calls Try.prog 39 #[.pointer (some ⟨tb, 0, none⟩), .string g, .int .i64 (e : Int)] V fun x w' => x = .returned (.tuple #[.int .i64 0, .iface 97 (.int .i64 5)]) ∧ w' = V) := hC
            have HC2 : Hid (∀ V, Below V1.heap.size V1 V → Calls Try.prog 39 #[.pointer (some ⟨ob, 0, none⟩), .string g, .int .i64 (e : Int)] V fun x w' => x = .returned (.tuple #[.int .i64 0, .iface 97 (.int .i64 5)]) ∧ w' = V) := hC2
            clear hC hC2
            go_wp2_with fail
            refine (HC.out _ (Below.refl _ _)).mono ?_
            rintro x w5 ⟨rfl, hw5⟩
            subst hw5
            go_wp2_with fail
            refine (HC2.out _ (Below.refl _ _)).mono ?_
            rintro x w6 ⟨rfl, hw6⟩
            subst hw6
            go_wp2_with fail
            go_quiet (fail)
            as_aux_lemma =>
              go_wp2
              go_roundw
              case rel => exact ⟨rfl, e + 1, by omega, by go_num, HTW.out.below (drewN_below _ _), HBL.out.trans ((drewN_below _ _).mono HBL.out.size)⟩
              case measure => simp [intOf]; omega
          | true =>
            have HC : Hid (Calls Try.prog 39 #[.pointer (some ⟨tb, 0, none⟩), .string g, .int .i64 (e : Int)] V1 fun x w' => x = .returned (.tuple #[.int .i64 (whr g (epOf E) W need e), .nilIface]) ∧ Below V1.heap.size V1 w') := where_told g e HTW.out.t h1 (by rw [← HN.out]; omega) (by rw [← HN.out]; exact hlt) (by omega) (HTL.out.1 hct)
            have HC2 : Hid (∀ V, Below V1.heap.size V1 V → Calls Try.prog 39 #[.pointer (some ⟨ob, 0, none⟩), .string g, .int .i64 (e : Int)] V fun x w' => x = .returned (.tuple #[.int .i64 (whr g (epOf E) W need e), .nilIface]) ∧ Below V.heap.size V w') := fun V hV => by
              have h := where_told g e (HTW.out.o.below hV) h1 (by rw [← HN.out]; omega) (by rw [← HN.out]; exact hlt) (by omega) (HTL2.out.1 hct)
              rw [HWH.out e] at h
              exact h
            have HTOP : Hid (TopOk g (epOf (E.map (own g))) (lo W e) (e + 1 - lo W e) need (whr g (epOf E) W need e)) := topOk h2 HOP.out
            generalize whr g (epOf E) W need e = p at HC HC2 HTOP
            go_wp2_with fail
            refine HC.out.mono ?_
            rintro x w5 ⟨rfl, hw5⟩
            have HB5 : Hid (Below V1.heap.size V1 w5) := hw5
            clear hw5
            go_wp2_with fail
            refine (HC2.out _ HB5.out).mono ?_
            rintro x w6 ⟨rfl, hw6⟩
            have HB6 : Hid (Below V1.heap.size V1 w6) := HB5.out.trans (hw6.mono HB5.out.size)
            clear hw6 HC HC2 HB5
            go_wp2_with fail
            go_quiet (fail)
            obtain ⟨Lw, hLw⟩ : ∃ Lw, Lw = lo W e := ⟨_, rfl⟩
            rw [← hLw] at HTOP
            have hL0 : Lw ≤ e := by rw [hLw]; unfold lo; omega
            have hmx : max (0 : Int) ((e : Int) - W + 1) = (Lw : Int) := by rw [hLw]; unfold lo; omega
            clear hLw
            have HTW9 : Hid (Two w2.heap.size (w6.drewN nq) tb ob ht ho W need r s g (.slice pk k ck) ps E) := (HTW.out.below HB6.out).below (drewN_below _ _)
            have HB9 : Hid (Below w2.heap.size w2 (w6.drewN nq)) := (HBL.out.trans (HB6.out.mono HBL.out.size)).trans ((drewN_below _ _).mono (Nat.le_trans HBL.out.size HB6.out.size))
            have HGET : Hid (∀ kk, kk < k → ∃ b q cp, pk = some ⟨b, 0, none⟩ ∧ (w6.drewN nq).cell? ⟨b, kk, none⟩ = some (.slice q (epOf (E.map (own g)) kk).length cp) ∧ SgsOn (w6.drewN nq) q (epOf (E.map (own g)) kk)) := fun kk hkk => HTW9.out.get (by rw [← HN.out]; exact hkk)
            obtain ⟨bk, _, _, hpk, _, _⟩ := HGET.out e hlt
            subst hpk
            generalize hep : epOf (E.map (own g)) = ep at HTOP HGET HOG HOP HOL HTL2 HWH
            clear hep
            go_wp2_with fail
            go_loopw [21, 22, 23, 24, 25, 26, 27] (fun se at_ on si kk _ _ V => V = w6.drewN nq ∧ ∃ (m : Nat) (b : Bool) (o : Int), Lw + m ≤ e + 1 ∧ kk = .int .i64 ((Lw + m : Nat) : Int) ∧ se = .int .i64 ((ne ep Lw m : Nat) : Int) ∧ at_ = .int .i64 ((cnt g p ep Lw m : Nat) : Int) ∧ si = .bool b ∧ on = .int .i64 o ∧ St (fl ep Lw m) b o) (fun _ _ _ _ kk _ _ _ => e + 1 - (intOf kk).toNat)
            case atStart =>
              exact ⟨rfl, 0, true, -1, by omega, rfl, rfl, rfl, rfl, rfl, St.zero⟩
            case round =>
              obtain ⟨rfl, m, sb, so, hm, rfl, rfl, rfl, rfl, rfl, hst⟩ := hrel
              have HST : Hid (St (fl ep Lw m) sb so) := hst
              have hA12 : cnt g p ep Lw m ≤ 13 := Nat.le_trans (cnt_le g p ep Lw m) (by omega)
              have hS12 : ne ep Lw m ≤ 13 := Nat.le_trans (ne_le ep Lw m) (by omega)
              clear hst
              by_cases hme : Lw + m ≤ e
              case neg =>
                have hm1 : m = e + 1 - Lw := by omega
                have hmI : ¬ ((Lw + m : Nat) : Int) ≤ e := by omega
                obtain ⟨hA, hB, hC⟩ := HTOP.out sb so (by rw [← hm1]; exact HST.out)
                rw [← hm1] at hA hB hC
                generalize cnt g p ep Lw m = A at hA12 hA ⊢
                generalize ne ep Lw m = S at hS12 hB hC ⊢
                by_cases hp : 0 ≤ p
                case pos =>
                  have hpd : decide (0 ≤ p) = true := by simp [hp]
                  have hAn : ¬ A < need := fun h => hA ⟨hp, h⟩
                  have hAd : decide ((A : Int) < (need : Int)) = false := by simp; omega
                  cases sb with
                  | false =>
                    clear hA hB hC
                    as_aux_lemma =>
                      go_wp2
                      go_roundw
                      case rel => exact ⟨rfl, e + 1, by omega, by go_num, HTW9.out, HB9.out⟩
                      case measure => simp [intOf]; omega
                  | true =>
                    have hSn : ¬ S < need := fun h => hC ⟨rfl, h, hp⟩
                    have hpo : p = so := Classical.byContradiction (fun h => hB ⟨rfl, by omega, h⟩)
                    subst hpo
                    have hSd : decide ((S : Int) < (need : Int)) = false := by simp; omega
                    have hSe : decide ((need : Int) ≤ (S : Int)) = true := by simp; omega
                    clear hA hB hC
                    as_aux_lemma =>
                      go_wp2
                      go_roundw
                      case rel => exact ⟨rfl, e + 1, by omega, by go_num, HTW9.out, HB9.out⟩
                      case measure => simp [intOf]; omega
                case neg =>
                  have hpd : decide (0 ≤ p) = false := by simp; omega
                  cases sb with
                  | false =>
                    clear hA hB hC
                    as_aux_lemma =>
                      go_wp2
                      go_roundw
                      case rel => exact ⟨rfl, e + 1, by omega, by go_num, HTW9.out, HB9.out⟩
                      case measure => simp [intOf]; omega
                  | true =>
                    by_cases hSn : S < need
                    case neg =>
                      have hpo : p = so := Classical.byContradiction (fun h => hB ⟨rfl, by omega, h⟩)
                      subst hpo
                      have hSd : decide ((S : Int) < (need : Int)) = false := by simp; omega
                      have hSe : decide ((need : Int) ≤ (S : Int)) = true := by simp; omega
                      clear hA hB hC
                      as_aux_lemma =>
                        go_wp2
                        go_roundw
                        case rel => exact ⟨rfl, e + 1, by omega, by go_num, HTW9.out, HB9.out⟩
                        case measure => simp [intOf]; omega
                    case pos =>
                      have hSd : decide ((S : Int) < (need : Int)) = true := by simp; omega
                      have hSe : decide ((need : Int) ≤ (S : Int)) = false := by simp; omega
                      clear hA hB hC
                      as_aux_lemma =>
                        go_wp2
                        go_roundw
                        case rel => exact ⟨rfl, e + 1, by omega, by go_num, HTW9.out, HB9.out⟩
                        case measure => simp [intOf]; omega
              case pos =>
                have hmI : ((Lw + m : Nat) : Int) ≤ e := by omega
                obtain ⟨kk, hkk⟩ : ∃ kk, kk = Lw + m := ⟨_, rfl⟩
                have HKK : Hid (kk = Lw + m) := hkk
                rw [← hkk] at hmI hme ⊢
                have hkk2 : kk < k := by omega
                have hkkI : (kk : Int) < k := by omega
                obtain ⟨bk', q, cp, hbk, kc, hsx⟩ := HGET.out kk hkk2
                simp at hbk
                subst hbk
                obtain ⟨X, hX⟩ : ∃ X, X = ep kk := ⟨_, rfl⟩
                have HX : Hid (X = ep kk) := hX
                rw [← hX] at kc hsx
                obtain ⟨n, hn⟩ : ∃ n, n = X.length := ⟨_, rfl⟩
                have HNX : Hid (n = X.length) := hn
                rw [← hn] at kc
                have hn25 : n ≤ 25 := by rw [hn, hX]; exact HOL.out kk
                have HSX : Hid (SgsOn (w6.drewN nq) q X) := hsx
                obtain ⟨A, hA⟩ : ∃ A, A = cnt g p ep Lw m := ⟨_, rfl⟩
                obtain ⟨S, hS⟩ : ∃ S, S = ne ep Lw m := ⟨_, rfl⟩
                have HA : Hid (A = cnt g p ep Lw m) := hA
                have HS : Hid (S = ne ep Lw m) := hS
                rw [← hA] at hA12 ⊢
                rw [← hS] at hS12 ⊢
                clear hX hn hsx hA hS hkk hm
                go_wp2_with fail
                go_loopw [23, 24, 26, 27] (fun on si hh jj V => V = w6.drewN nq ∧ ∃ (j : Nat) (b : Bool) (o : Int), j ≤ n ∧ jj = .int .i64 (j : Int) ∧ hh = .bool (seenAt g p (X.take j)) ∧ si = .bool b ∧ on = .int .i64 o ∧ St (fl ep Lw m ++ X.take j) b o) (fun _ _ _ jj _ => n - (intOf jj).toNat)
                case atStart => exact ⟨rfl, 0, sb, so, Nat.zero_le _, rfl, rfl, rfl, rfl, by rw [List.take_zero, List.append_nil]; exact HST.out⟩
                case round =>
                  clear HST
                  obtain ⟨rfl, j, sb1, so1, hj, rfl, rfl, rfl, rfl, hst1⟩ := hrel
                  by_cases hjn : j < n
                  case pos =>
                    have hjI : (j : Int) < n := by omega
                    have hj' : j < X.length := by rw [← HNX.out]; exact hjn
                    have hne : X ≠ [] := fun e => by rw [e] at hj'; simp at hj'
                    obtain ⟨b1, o1, rfl, hb1, hc1⟩ := HSX.out.at_ hne
                    have a0 := (hc1 j _ (List.getElem?_eq_getElem hj')).c0
                    have hxg : X[j].g = g := HOG.out kk _ (by rw [← HX.out]; exact List.getElem_mem hj')
                    have htk : X.take (j + 1) = X.take j ++ [X[j]] := take_next hj'
                    have HSE : Hid (seenAt g p (X.take (j + 1)) = (seenAt g p (X.take j) || decide (X[j].p = p))) := by
                      show _ = _
                      rw [htk, seenAt_snoc]
                      simp [at1, hxg]
                    have HS2 : Hid (St (fl ep Lw m ++ X.take (j + 1)) (sb1 && (decide (so1 < 0) || decide (so1 = X[j].p))) X[j].p) := by
                      show St _ _ _
                      rw [htk, ← List.append_assoc]
                      refine hst1.step (fun x hx => ?_)
                      rcases List.mem_append.1 hx with h | h
                      · obtain ⟨j', hj2⟩ := mem_fl h
                        exact (HOP.out j' x hj2).1
                      · exact (HOP.out kk x (by rw [← HX.out]; exact List.mem_of_mem_take h)).1
                    generalize X[j].p = xp at a0 HSE HS2
                    generalize seenAt g p (X.take j) = H at HSE ⊢
                    clear hc1 hxg htk hst1 hj'
                    cases H <;> cases sb1
                    all_goals by_cases hso : so1 < 0
                    all_goals first | (have hsd : decide (so1 < 0) = true := by simp [hso]) | (have hsd : decide (so1 < 0) = false := by simp; omega)
                    all_goals
                      as_aux_lemma =>
                        go_wp2
                        exact ⟨⟨trivial, j + 1, _, xp, by omega, by go_num, congrArg Value.bool (by rw [HSE.out]; rfl), congrArg Value.bool (by first | rfl | (rw [hsd]; rfl)), rfl, HS2.out⟩, by simp [intOf]; omega⟩
                  case neg =>
                    have hjj : j = n := by omega
                    subst hjj
                    have hI : ¬ (j : Int) < j := by omega
                    rw [show X.take j = X by rw [HNX.out, List.take_length]] at hst1 ⊢
                    have HST : Hid (St (fl ep Lw (m + 1)) sb1 so1) := by
                      rw [HX.out, HKK.out] at hst1
                      exact hst1
                    have HAY : Hid (seenAt g p X = true → cnt g p ep Lw (m + 1) = A + 1) := fun h => by
                      rw [HA.out]
                      exact cnt_yes (by rw [← HKK.out, ← HX.out]; exact h)
                    have HAN : Hid (seenAt g p X = false → cnt g p ep Lw (m + 1) = A) := fun h => by
                      rw [HA.out]
                      exact cnt_no (by rw [← HKK.out, ← HX.out]; exact h)
                    have HSY : Hid (0 < j → ne ep Lw (m + 1) = S + 1) := fun h => by
                      rw [HS.out]
                      exact ne_yes (by rw [← HKK.out, ← HX.out, ← HNX.out]; exact h)
                    have HSN : Hid (¬ 0 < j → ne ep Lw (m + 1) = S) := fun h => by
                      rw [HS.out]
                      exact ne_no (by rw [← HKK.out, ← HX.out, ← HNX.out]; exact h)
                    clear hst1 hjn hj
                    generalize seenAt g p X = H at HAY HAN ⊢
                    by_cases hj0 : 0 < j
                    case pos =>
                      have hj0I : (0 : Int) < j := by omega
                      cases H with
                      | true =>
                        as_aux_lemma =>
                          go_wp2
                          exact ⟨⟨trivial, m + 1, sb1, so1, by have := HKK.out; omega, congrArg (Value.int .i64) (by have := HKK.out; omega), congrArg (Value.int .i64) (by have := HSY.out hj0; omega), congrArg (Value.int .i64) (by have := HAY.out rfl; omega), rfl, rfl, HST.out⟩, by simp [intOf]; omega⟩
                      | false =>
                        as_aux_lemma =>
                          go_wp2
                          exact ⟨⟨trivial, m + 1, sb1, so1, by have := HKK.out; omega, congrArg (Value.int .i64) (by have := HKK.out; omega), congrArg (Value.int .i64) (by have := HSY.out hj0; omega), congrArg (Value.int .i64) (by have := HAN.out rfl; omega), rfl, rfl, HST.out⟩, by simp [intOf]; omega⟩
                    case neg =>
                      have hj0I : ¬ (0 : Int) < j := by omega
                      cases H with
                      | true =>
                        as_aux_lemma =>
                          go_wp2
                          exact ⟨⟨trivial, m + 1, sb1, so1, by have := HKK.out; omega, congrArg (Value.int .i64) (by have := HKK.out; omega), congrArg (Value.int .i64) (by have := HSN.out hj0; omega), congrArg (Value.int .i64) (by have := HAY.out rfl; omega), rfl, rfl, HST.out⟩, by simp [intOf]; omega⟩
                      | false =>
                        as_aux_lemma =>
                          go_wp2
                          exact ⟨⟨trivial, m + 1, sb1, so1, by have := HKK.out; omega, congrArg (Value.int .i64) (by have := HKK.out; omega), congrArg (Value.int .i64) (by have := HSN.out hj0; omega), congrArg (Value.int .i64) (by have := HAN.out rfl; omega), rfl, rfl, HST.out⟩, by simp [intOf]; omega⟩
    case pos =>
    have hkI : (k : Int) < N := by omega
    have hk' : k < E.length := by rw [← HN.out]; exact hlt
    have hne : E ≠ [] := fun e => by rw [e] at hk'; simp at hk'
    obtain ⟨b, o, rfl, hb, hc⟩ := HE.out.at_ hne
    obtain ⟨q, cp, k2, hs2⟩ := hc k _ (List.getElem?_eq_getElem hk')
    have hgl := goodL_iff.1 (HGL.out _ (List.getElem_mem hk'))
    have hstep := take_next hk'
    have hlen : (E.take k).length = k := by rw [List.length_take]; omega
    generalize E[k] = l at *
    obtain ⟨M, hM⟩ : ∃ M, M = l.length := ⟨_, rfl⟩
    have HM : Hid (M = l.length) := hM
    have hM25 : M ≤ 25 := by rw [hM]; exact hgl.1
    rw [← hM] at k2
    have HTW : Hid (Two w2.heap.size V0 tb ob ht ho W need r s g u12 ps (E.take k)) := htw
    have HBL : Hid (Below w2.heap.size w2 V0) := hbl
    have HS2 : Hid (SgsOn w2 q l) := hs2
    have HGS : Hid (∀ x, x ∈ l → x.g.size ≤ 20) := hgl.2
    have HLEN : Hid ((E.take k).length = k) := hlen
    have HST : Hid (E.take (k + 1) = E.take k ++ [l]) := hstep
    have HK2 : Hid (w2.cell? ⟨b, o + k, none⟩ = some (.slice q M cp)) := k2
    have HLB : Hid (b < w2.heap.size) := hb
    have k0 : V0.cell? ⟨b, o + k, none⟩ = some (.slice q M cp) := by rw [hbl.cell hb]; exact k2
    have hap : l ≠ [] → ∀ b o, q = some ⟨b, o, none⟩ → ¬ of ht b := fun hln b1 o1 e hf => by
      obtain ⟨b2, o2, e2, hlt2, _⟩ := hs2.at_ hln
      rw [e] at e2
      simp at e2
      have := htw.lt_ b1 hf
      omega
    have HAP : Hid (l ≠ [] → ∀ b o, q = some ⟨b, o, none⟩ → ¬ of ht b) := hap
    clear hc hgl hstep hlen hM htw hbl hs2 k2 hb hap hk' hne
    by_cases hal : l.all okS = true
    case neg =>
      have HC : Hid (Calls Try.prog 38 #[.pointer (some ⟨tb, 0, none⟩), .slice q M cp] V0 fun e w' => e = .returned (.iface 97 (.int .i64 1)) ∧ Below V0.heap.size V0 w') := by
        have h := tell_bad (w := V0) (tb := tb) l q cp (by rw [← HM.out]; exact hM25) (HS2.out.below HBL.out) (fun h' => hal (List.all_eq_true.2 h'))
        rw [← HM.out] at h
        exact h
      go_wp2_with fail
      refine HC.out.mono ?_
      rintro e w4 ⟨rfl, hb4⟩
      have HB4 : Hid (Below w2.heap.size w2 w4) := HBL.out.trans (hb4.mono HBL.out.size)
      clear hb4 k0
      as_aux_lemma =>
        go_wp2
        exact bodyPost_ret (v := .bool true) (by simp [results, Try.results9, go_sem]) rfl ⟨rfl, HB4.out⟩
    case pos =>
      have HC : Hid (Calls Try.prog 38 #[.pointer (some ⟨tb, 0, none⟩), .slice q M cp] V0 fun e w' => e = .returned .nilIface ∧ ∃ who', TrAt w' tb who' W need ((E.take k).length + 1) (r + M) (epc (epOf (E.take k)) (E.take k).length l) ∧ Kp (of ht) V0 w' ∧ ∀ b, of who' b → of ht b ∨ V0.heap.size ≤ b) := by
        have h := tell_ok0 l q cp HTW.out.t (by rw [← HM.out]; exact hM25) (HS2.out.below HBL.out) HAP.out (List.all_eq_true.1 hal) (fun x hx => by have := HGS.out x hx; omega) (by rw [HLEN.out]; omega) (by omega) (epOf_past _ (Nat.le_refl _))
        rw [← HM.out] at h
        exact h
      have HAL : Hid (l.all okS = true) := hal
      clear hal
      go_wp2_with fail
      refine HC.out.mono ?_
      rintro e w4 ⟨rfl, ht', ht4, hk4, hs4⟩
      have HT4 : Hid (TrAt w4 tb ht' W need ((E.take k).length + 1) (r + M) (epc (epOf (E.take k)) (E.take k).length l)) := ht4
      have HK4 : Hid (Kp (of ht) V0 w4) := hk4
      have HS4 : Hid (∀ b, of ht' b → of ht b ∨ V0.heap.size ≤ b) := hs4
      have HB4 : Hid (Below w2.heap.size w2 w4) := HBL.out.trans (hk4.below HBL.out.size (fun b hb hf => by have := HTW.out.lt_ b hf; omega))
      have k4 : w4.cell? ⟨b, o + k, none⟩ = some (.slice q M cp) := by rw [HB4.out.cell HLB.out]; exact HK2.out
      clear ht4 hk4 hs4 k0 HC
      go_wp2_with fail
      clear k4
      go_loopw [14, 15] (fun m i V => ∃ j : Nat, j ≤ M ∧ i = .int .i64 ((j : Int) - 1) ∧ V.ownsRow w4.heap.size 61 4 m (own g (l.drop j)).length (sgcs (own g (l.drop j))) ∧ Below w4.heap.size w4 V) (fun _ i _ => (intOf i + 1).toNat)
      case atStart =>
        refine ⟨M, Nat.le_refl _, rfl, ?_, Below.refl _ _⟩
        rw [HM.out, own_zero]
        exact World.ownsRow_nil _ _ _ _
      case round =>
        obtain ⟨j, hj, hi, hrow, hbv⟩ := hrel
        by_cases hj0 : j = 0
        case pos =>
          subst hj0
          have hi' : u15 = .int .i64 (-1) := by rw [hi]; rfl
          subst hi'
          clear hi
          rw [List.drop_zero] at hrow
          obtain ⟨n, hn⟩ : ∃ n, n = (own g l).length := ⟨_, rfl⟩
          have HNL : Hid (n = (own g l).length) := hn
          have hnM : n ≤ M := by rw [hn, HM.out]; exact own_len g l
          obtain ⟨pm, cm, rfl, hon⟩ := own_sgs hrow
          rw [← hn] at hrow ⊢
          have HROW : Hid (wr.ownsRow w4.heap.size 61 4 (.slice pm n cm) n (sgcs (own g l))) := hrow
          have HON : Hid (SgsOn wr pm (own g l)) := hon
          have HBV : Hid (Below w4.heap.size w4 wr) := hbv
          have hkp : Kpt wr w2.heap.size u12 ps ((E.take k).map (own g)) := (HTW.out.kept HK4.out).below hbv
          have HKP : Hid (Kpt wr w2.heap.size u12 ps ((E.take k).map (own g))) := hkp
          obtain ⟨Z, hZ⟩ : ∃ Z, Z = List.zipWith slv ((E.take k).map (own g)) ps := ⟨_, rfl⟩
          have HZ : Hid (Z = List.zipWith slv ((E.take k).map (own g)) ps) := hZ
          have hpr : wr.ownsRow w2.heap.size 73 1 u12 k Z := by
            have h := hkp.row
            rw [List.length_map, HLEN.out, ← hZ] at h
            exact h
          have hpo := hpr.alloc (.cells #[.slice pm n cm] 73)
          have hszv : w4.heap.size ≤ wr.heap.size := hbv.size
          have hszw : w2.heap.size ≤ wr.heap.size := Nat.le_trans HB4.out.size hszv
          clear hn hrow hon hbv hkp hZ hj hpr
          go_wp2_with (at_builtin; refine wpList_append_lies _ rfl _ _ 76 rfl w2.heap.size 73 i73 (.slice none 0 0) 1 24 Try.underlying76 hi73 hz73 hs73 hb73 rfl (by decide) _ _ _ rfl hpo ⟨wr.heap.size, 0, none⟩ 1 1 [.slice pm n cm] rfl rfl ?q1 ?q2 (by omega) ?q3 ?q4 ?q5 (wr.heap.size + 1) ?q6 ?_)
          try case q1 =>
            intro j u hj
            match j, hj with
            | 0, hj => simp at hj; subst hj; simp [Addr.add]
          try case q2 => first | rfl | (intro u hu; simp at hu; subst hu; rfl)
          try case q3 => unfold maxLen; omega
          try case q4 => omega
          try case q5 => simp; omega
          try case q6 => simp
          intro g6 c6 V6 hown6 hgrow6 hat6 hlt6
          have hpmb : ∀ b o, pm = some ⟨b, o, none⟩ → w4.heap.size ≤ b ∧ b < wr.heap.size := fun b o e => by
            subst e
            have h1 := HROW.out.2
            rcases h1 with ⟨h1, _⟩ | ⟨gq, cq, cur, h1, _⟩
            · simp at h1
            · simp at h1
              exact HROW.out.lt b (by rw [h1.1.2, h1.1.1]; rfl)
          have hgk : Kp (fun b => u12.ownBlock = some b) wr V6 := (alloc_kp _ wr _).trans (grown_kp hgrow6 (fun q hq => hq))
          have hub : ∀ b, u12.ownBlock = some b → w2.heap.size ≤ b ∧ b < V0.heap.size := fun b hb => HTW.out.k.row.lt b hb
          have hK6 : Kpt V6 w2.heap.size (.slice (some ⟨g6, 0, none⟩) (k + 1) c6) (ps ++ [(pm, cm)]) ((E.take k ++ [l]).map (own g)) := by
            have hA : Below wr.heap.size wr (wr.alloc (.cells #[.slice pm n cm] 73)) := (Below.refl _ wr).alloc (Nat.le_refl _) _
            have hl : ((E.take k).map (own g)).length = k := by rw [List.length_map]; exact HLEN.out
            have h := (HKP.out.below hA).snoc (g := g6) (c := c6) (l := own g l) (pc := (pm, cm)) (by
              rw [hl, ← HZ.out]
              have e : slv (own g l) (pm, cm) = .slice pm n cm := by unfold slv; rw [← HNL.out]
              rw [e]
              exact hown6) hgrow6 (by rw [World.size_alloc]; exact hat6) (HON.out.below hA) (fun b o e => by
              have h1 := hpmb b o e
              have h2 := HK4.out.size
              have h3 := HB4.out.size
              refine ⟨by omega, by rw [World.size_alloc]; omega, fun e' => ?_⟩
              have := hub b e'
              omega)
            rw [hl] at h
            rw [List.map_append]
            exact h
          have HK6 : Hid (Kpt V6 w2.heap.size (.slice (some ⟨g6, 0, none⟩) (k + 1) c6) (ps ++ [(pm, cm)]) ((E.take k ++ [l]).map (own g))) := hK6
          have HGK : Hid (Kp (fun b => u12.ownBlock = some b) wr V6) := hgk
          have HPM : Hid (∀ b o, pm = some ⟨b, o, none⟩ → w4.heap.size ≤ b ∧ b < wr.heap.size) := hpmb
          have HUB : Hid (∀ b, u12.ownBlock = some b → w2.heap.size ≤ b ∧ b < V0.heap.size) := hub
          have HAT6 : Hid (u12.ownBlock = some g6 ∨ g6 = wr.heap.size + 1) := hat6
          have HC : Hid (Calls Try.prog 38 #[.pointer (some ⟨ob, 0, none⟩), .slice pm n cm] V6 fun e w' => e = .returned .nilIface ∧ ∃ who', TrAt w' ob who' W need ((E.take k).length + 1) (s + n) (epc (epOf ((E.take k).map (own g))) (E.take k).length (own g l)) ∧ Kp (of ho) V6 w' ∧ ∀ b, of who' b → of ho b ∨ V6.heap.size ≤ b) := by
            have hto := HTW.out.other HK4.out HBV.out hgk
            have h := tell_ok (own g l) pm cm hto (by rw [← HNL.out]; omega) (HON.out.move hgk.size (fun b o e hlt => hgk.block b hlt (fun e' => by
                have h1 := hpmb b o e
                have h2 := hub b e'
                have h3 := HK4.out.size
                omega))) (fun b o e hf => by
                have h1 := hpmb b o e
                have h2 := HTW.out.o.lim hf
                have h3 := HK4.out.size
                omega) (List.all_eq_true.1 (own_all HAL.out)) (fun x hx => by have := HGS.out x (own_tag hx).2; omega) (by rw [HLEN.out]; omega) (by omega) (epOf_past _ (by rw [List.length_map]; exact Nat.le_refl _))
            rw [← HNL.out] at h
            exact h
          clear hK6 hgk hpmb hub hat6 hlt6 hown6 hgrow6 hpo hszv hszw
          go_wp2_with fail
          refine HC.out.mono ?_
          rintro e w7 ⟨rfl, ho', ho7, hk7, hs7⟩
          have HTN : Hid (Two w2.heap.size w7 tb ob ht' ho' W need (r + M) (s + n) g (.slice (some ⟨g6, 0, none⟩) (k + 1) c6) (ps ++ [(pm, cm)]) (E.take (k + 1))) := by
            show Two _ _ _ _ _ _ _ _ _ _ _ _ _ _
            rw [HST.out]
            refine HTW.out.next HBL.out.size HT4.out HK4.out HS4.out HBV.out HGK.out HK6.out (fun b hb => ?_) (fun b o e => (HPM.out b o e).1) ho7 hk7 hs7
            simp [Value.ownBlock] at hb
            subst hb
            rcases HAT6.out with h | h
            · exact Or.inl h
            · have := HBV.out.size
              exact Or.inr (by omega)
          have HB7 : Hid (Below w2.heap.size w2 w7) := by
            have h1 : Below w2.heap.size w2 wr := HB4.out.trans (HBV.out.mono HB4.out.size)
            have h2 : Below w2.heap.size wr V6 := HGK.out.below h1.size (fun b hb e => by have := HUB.out b e; omega)
            have h3 : Below w2.heap.size V6 w7 := hk7.below (Nat.le_trans h1.size h2.size) (fun b hb hf => by have := HTW.out.lo_ b hf; omega)
            exact (h1.trans h2).trans h3
          clear ho7 hk7 hs7 HC
          as_aux_lemma =>
            go_wp2
            go_roundw
            case rel =>
              refine ⟨rfl, k + 1, ht', ho', r + M, s + n, ps ++ [(pm, cm)], by omega, by go_num, HTN.out, by omega, by omega, fun l' hl' => ?_, HB7.out⟩
              rw [HST.out] at hl'
              rcases List.mem_append.1 hl' with h | h
              · exact HOK.out l' h
              · simp at h
                rw [h]
                exact HAL.out
            case measure => simp [intOf]; omega
        case neg =>
          obtain ⟨jj, rfl⟩ : ∃ jj, j = jj + 1 := ⟨j - 1, by omega⟩
          have hi' : u15 = .int .i64 (jj : Int) := by rw [hi]; congr 1; omega
          subst hi'
          clear hi hj0
          have hjl : jj < l.length := by rw [← HM.out]; omega
          have hln : l ≠ [] := fun e => by rw [e] at hjl; simp at hjl
          obtain ⟨b1, o1, rfl, hb1, hc1⟩ := HS2.out.at_ hln
          have hBV : Below w2.heap.size w2 wr := HB4.out.trans (hbv.mono HB4.out.size)
          obtain ⟨a0, a1, a2, a3⟩ := (hc1 jj _ (List.getElem?_eq_getElem hjl)).keep (hBV.block b1 hb1)
          have hx := List.getElem?_eq_getElem hjl
          generalize l[jj] = x at *
          obtain ⟨xp, xs, xt, xg⟩ := x
          simp only at a0 a1 a2 a3
          have k5 : wr.cell? ⟨b, o + k, none⟩ = some (.slice (some ⟨b1, o1, none⟩) M cp) := by rw [hBV.cell HLB.out]; exact HK2.out
          have hjI : (jj : Int) < M := by omega
          have HX : Hid (l[jj]? = some ⟨xp, xs, xt, xg⟩) := hx
          have HROW : Hid (wr.ownsRow w4.heap.size 61 4 u14 (own g (l.drop (jj + 1))).length (sgcs (own g (l.drop (jj + 1))))) := hrow
          have HBV : Hid (Below w4.heap.size w4 wr) := hbv
          clear hc1 hx hbv hBV hb1 hrow hjl
          by_cases hxg : xg = g
          case neg =>
            have hxb := sbeq_false hxg
            as_aux_lemma =>
              go_wp2
              go_roundw
              case rel =>
                refine ⟨jj, by omega, rfl, ?_, HBV.out⟩
                rw [own_no HX.out hxg]
                exact HROW.out
              case measure => simp [intOf]
          case pos =>
            subst hxg
            obtain ⟨L, hL⟩ : ∃ L, L = own xg (l.drop (jj + 1)) := ⟨_, rfl⟩
            have HL : Hid (L = own xg (l.drop (jj + 1))) := hL
            rw [← hL] at HROW
            obtain ⟨n, hn⟩ : ∃ n, n = L.length := ⟨_, rfl⟩
            have HLN : Hid (n = L.length) := hn
            rw [← hn] at HROW
            have hn25 : n ≤ 25 := by
              rw [hn, hL]
              have h1 := own_len xg (l.drop (jj + 1))
              have h2 : (l.drop (jj + 1)).length ≤ l.length := by rw [List.length_drop]; omega
              have h3 := HM.out
              omega
            have hpo := HROW.out.alloc (.cells #[.int .i64 xp, .int .i64 xs, .int .i64 xt, .string xg] 61)
            have hszv : w4.heap.size ≤ wr.heap.size := HBV.out.size
            clear hL hn
            go_wp2_with (at_builtin; refine wpList_append_lies _ rfl _ _ 73 rfl w4.heap.size 61 i61 (.agg #[.int .i64 0, .int .i64 0, .int .i64 0, .string ⟨#[]⟩]) 4 40 Try.underlying73 hi61 hz61 hs61 hb61 rfl (by decide) _ _ _ rfl hpo ⟨wr.heap.size, 0, none⟩ 1 1 [.int .i64 xp, .int .i64 xs, .int .i64 xt, .string xg] rfl rfl ?q1 ?q2 (by omega) ?q3 ?q4 ?q5 (wr.heap.size + 1) ?q6 ?_)
            try case q1 =>
              intro j u hj
              match j, hj with
              | 0, hj => simp at hj; subst hj; simp [Addr.add]
              | 1, hj => simp at hj; subst hj; simp [Addr.add]
              | 2, hj => simp at hj; subst hj; simp [Addr.add]
              | 3, hj => simp at hj; subst hj; simp [Addr.add]
            try case q2 => intro u hu; simp at hu; rcases hu with rfl | rfl | rfl | rfl <;> rfl
            try case q3 => unfold maxLen; omega
            try case q4 => omega
            try case q5 => simp; omega
            try case q6 => simp
            intro gg cg V5 hown5 hgrow5 hat5 hlt5
            have HB5 : Hid (Below w4.heap.size w4 V5) := by
              have hk5 : Kp (fun q => u14.ownBlock = some q) wr V5 := (alloc_kp _ wr _).trans (grown_kp hgrow5 (fun q hq => hq))
              exact HBV.out.trans (hk5.below HBV.out.size (fun q hq hF => by have := (hpo.lt q hF).1; omega))
            have HO5 : Hid (V5.ownsRow w4.heap.size 61 4 (.slice (some ⟨gg, 0, none⟩) (n + 1) cg) (own xg (l.drop jj)).length (sgcs (own xg (l.drop jj)))) := by
              have e : own xg (l.drop jj) = L ++ [⟨xp, xs, xt, xg⟩] := by rw [HL.out]; exact own_yes HX.out rfl
              show World.ownsRow _ _ _ _ _ _ _
              rw [e, sgcs_snoc, List.length_append, ← HLN.out]
              exact hown5
            clear hown5 hgrow5 hat5 hlt5 hpo a0 a1 a2 a3 k5
            as_aux_lemma =>
              go_wp2
              go_roundw
              case rel => exact ⟨jj, by omega, rfl, HO5.out, HB5.out⟩
              case measure => simp [intOf]
end
end Go.Proofs.Ytbmaioklmcgkbaa.TkA
